/-
  Rays through parts, of the program: drifts, lenses, kicks.
-/
import Derived.Test.YtpnmledanloboaaLma
import Derived.Test.YtpnmledanloboaaRy
import Derived.RegionTactic
import Derived.ChangeAlike
import Derived.BigRegion
namespace Go.Proofs.Ytpnmledanloboaa
open Go.Fl Go.RowKit
set_option linter.unusedSimpArgs false
set_option linter.unusedVariables false

/-- A ray behind a drift, a lens or a kick. -/
def passE (t : El) (r : Ry) : Ry :=
  if t.k = 0 then ⟨fop .add .f32 r.x (fop .mul .f32 t.N r.y), r.y, fop .add .f32 r.p (fop .mul .f32 t.N r.e), r.e⟩
  else if t.k = 1 then ⟨r.x, fop .sub .f32 r.y (fop .quo .f32 r.x t.N), r.p, r.e⟩
  else ⟨r.x, fop .add .f32 r.y t.N, r.p, r.e⟩
abbrev RO (r : Ry) : Obj := .cells #[.complex .f32 r.x r.y, .float .f32 r.p, .float .f32 r.e] 61
def PassRes (w w' : World) (e : Ending) (R : Ry) : Prop := (∃ r, e = .returned (.tuple #[Ry.val r, .bool false]) ∧ Ry.is r R) ∧ Below w.heap.size w w'
set_option maxHeartbeats 2000000 in
set_option maxRecDepth 100000 in
theorem passDrift_any (n N : Nat) (r R : Ry) (hn : Is .f32 n N) (hr : Ry.is r R) (w : World) :
    Calls Try.prog 155 #[.float .f32 n, r.val] w fun e w' => PassRes w w' e ⟨fop .add .f32 R.x (fop .mul .f32 N R.y), R.y, fop .add .f32 R.p (fop .mul .f32 N R.e), R.e⟩ := by
  obtain ⟨x, y, p, e⟩ := r
  obtain ⟨ix, iy, ip, ie⟩ := hr
  have HRES := Lib.hid (show Try.f155.results = #[.cell 4 61, .tmp 5] by kernel_rfl)
  have ix : Is .f32 x R.x := ix
  have iy : Is .f32 y R.y := iy
  have ip : Is .f32 p R.p := ip
  have ie : Is .f32 e R.e := ie
  unfold Ry.val
  go_enter Try.func155, Try.ntmps155
  go_wp2_with fail
  go_region
  go_wp2_with ((apply wpList_farith; rfl; rfl; rfl; rfl; (first | with_reducible assumption | exact Is.const rfl); (first | with_reducible assumption | exact Is.const rfl); intro r n hr))
  rename_i r1 m1 h1 r2 m2 h2 r3 m3 h3
  refine bodyPost_ret (v := .tuple #[.agg #[.complex .f32 r2 y, .float .f32 r, .float .f32 e], .bool false]) ?_ rfl ?_
  · have hres := HRES.out
    simp only [results, hres]; go_simp
  · exact ⟨⟨⟨r2, y, r, e⟩, rfl, h2, iy, hr, ie⟩, (((((below_drewN ((below_drewN (((Below.refl w.heap.size w).alloc (Nat.le_refl _) _).alloc (by simp) _) _).setCell (p := ⟨w.heap.size, 0, none⟩) (Nat.le_refl _) _) _).setCell (p := ⟨w.heap.size, 1, none⟩) (Nat.le_refl _) _).setCell (p := ⟨w.heap.size+ 1, 0, none⟩) (Nat.le_succ _) _).setCell (p := ⟨w.heap.size+ 1, 1, none⟩) (Nat.le_succ _) _).setCell (p := ⟨w.heap.size+ 1, 2, none⟩) (Nat.le_succ _) _)⟩
set_option maxHeartbeats 2000000 in
set_option maxRecDepth 100000 in
theorem passLens_any (n N : Nat) (r R : Ry) (hn : Is .f32 n N) (hr : Ry.is r R) (w : World) :
    Calls Try.prog 156 #[.float .f32 n, r.val] w fun e w' => PassRes w w' e ⟨R.x, fop .sub .f32 R.y (fop .quo .f32 R.x N), R.p, R.e⟩ := by
  obtain ⟨x, y, p, e⟩ := r
  obtain ⟨ix, iy, ip, ie⟩ := hr
  have HRES := Lib.hid (show Try.f156.results = #[.cell 4 61, .tmp 5] by kernel_rfl)
  have ix : Is .f32 x R.x := ix
  have iy : Is .f32 y R.y := iy
  have ip : Is .f32 p R.p := ip
  have ie : Is .f32 e R.e := ie
  unfold Ry.val
  go_enter Try.func156, Try.ntmps156
  go_wp2_with ((apply wpList_farith; rfl; rfl; rfl; rfl; (first | with_reducible assumption | exact Is.const rfl); (first | with_reducible assumption | exact Is.const rfl); intro r n hr))
  go_region
  go_wp2_with ((apply wpList_farith; rfl; rfl; rfl; rfl; (first | with_reducible assumption | exact Is.const rfl); (first | with_reducible assumption | exact Is.const rfl); intro r n hr))
  rename_i r1 m1 h1
  refine bodyPost_ret (v := .tuple #[.agg #[.complex .f32 x r, .float .f32 p, .float .f32 e], .bool false]) ?_ rfl ?_
  · have hres := HRES.out
    simp only [results, hres]; go_simp
  · exact ⟨⟨⟨x, r, p, e⟩, rfl, ix, hr, ip, ie⟩, (((((below_drewN (((Below.refl w.heap.size w).alloc (Nat.le_refl _) _).alloc (by simp) _) _).setCell (p := ⟨w.heap.size, 0, none⟩) (Nat.le_refl _) _).setCell (p := ⟨w.heap.size+ 1, 0, none⟩) (Nat.le_succ _) _).setCell (p := ⟨w.heap.size+ 1, 1, none⟩) (Nat.le_succ _) _).setCell (p := ⟨w.heap.size+ 1, 2, none⟩) (Nat.le_succ _) _)⟩
set_option maxHeartbeats 2000000 in
set_option maxRecDepth 100000 in
theorem passKick_any (n N : Nat) (r R : Ry) (hn : Is .f32 n N) (hr : Ry.is r R) (w : World) :
    Calls Try.prog 157 #[.float .f32 n, r.val] w fun e w' => PassRes w w' e ⟨R.x, fop .add .f32 R.y N, R.p, R.e⟩ := by
  obtain ⟨x, y, p, e⟩ := r
  obtain ⟨ix, iy, ip, ie⟩ := hr
  have HRES := Lib.hid (show Try.f157.results = #[.cell 4 61, .tmp 5] by kernel_rfl)
  have ix : Is .f32 x R.x := ix
  have iy : Is .f32 y R.y := iy
  have ip : Is .f32 p R.p := ip
  have ie : Is .f32 e R.e := ie
  unfold Ry.val
  go_enter Try.func157, Try.ntmps157
  go_wp2_with ((apply wpList_farith; rfl; rfl; rfl; rfl; (first | with_reducible assumption | exact Is.const rfl); (first | with_reducible assumption | exact Is.const rfl); intro r n hr))
  refine bodyPost_ret (v := .tuple #[.agg #[.complex .f32 x r, .float .f32 p, .float .f32 e], .bool false]) ?_ rfl ?_
  · have hres := HRES.out
    simp only [results, hres]; go_simp
  · exact ⟨⟨⟨x, r, p, e⟩, rfl, ix, hr, ip, ie⟩, (((((below_drewN (((Below.refl w.heap.size w).alloc (Nat.le_refl _) _).alloc (by simp) _) _).setCell (p := ⟨w.heap.size, 0, none⟩) (Nat.le_refl _) _).setCell (p := ⟨w.heap.size+ 1, 0, none⟩) (Nat.le_succ _) _).setCell (p := ⟨w.heap.size+ 1, 1, none⟩) (Nat.le_succ _) _).setCell (p := ⟨w.heap.size+ 1, 2, none⟩) (Nat.le_succ _) _)⟩
theorem run_meth {P : Program} {u : TypeId} {nm : String} {f : FuncId} (hu : P.underlying u = some (.float .f32)) (h : (P.info? u).map (fun i => (i.methods.find? (·.name == nm)).map fun m => (m.path.size, m.func)) = some (some (0, some (f, false)))) (n : Nat) (v : Value) (w : World) :
    (method (n + 1) u v nm).run P w = .ok (f, v) w := by
  obtain ⟨i, hi, h⟩ := Option.map_eq_some_iff.1 h
  obtain ⟨m, hm, h⟩ := Option.map_eq_some_iff.1 h
  simp only [Prod.mk.injEq] at h
  have hp : m.path.toList = [] := by simpa using h.1
  simp [method, typeInfo, hi, hm, hp, h.2, follow, receiverAt, run_underlying hu, Place.get]
theorem mrow_drift : (Try.prog.info? 95).map (fun i => (i.methods.find? (·.name == "loop.example/g01226/impl.pass")).map fun m => (m.path.size, m.func)) = some (some (0, some (155, false))) := by kernel_rfl
theorem mrow_lens : (Try.prog.info? 96).map (fun i => (i.methods.find? (·.name == "loop.example/g01226/impl.pass")).map fun m => (m.path.size, m.func)) = some (some (0, some (156, false))) := by kernel_rfl
theorem mrow_kick : (Try.prog.info? 97).map (fun i => (i.methods.find? (·.name == "loop.example/g01226/impl.pass")).map fun m => (m.path.size, m.func)) = some (some (0, some (157, false))) := by kernel_rfl
/-- Kinds that lose no ray and draw on no sine. -/
def plainE (t : El) : Prop := t.k = 0 ∨ t.k = 1 ∨ t.k = 3
/-- A ray behind the first k parts. -/
def passL (ts : List El) (R : Ry) (k : Nat) : Ry := (ts.take k).foldl (fun r t => passE t r) R
theorem passL_zero (ts : List El) (R : Ry) : passL ts R 0 = R := rfl
theorem passL_step (ts : List El) (R : Ry) {k : Nat} (h : k < ts.length) : passL ts R (k + 1) = passE ts[k] (passL ts R k) := by
  unfold passL
  rw [List.take_succ_eq_append_getElem h, List.foldl_append]
  rfl
theorem partV_plain {t : El} (h : plainE t) : (t.k = 0 ∧ partV t = .iface 95 (.float .f32 t.n)) ∨ (t.k = 1 ∧ partV t = .iface 96 (.float .f32 t.n)) ∨ (t.k = 3 ∧ partV t = .iface 97 (.float .f32 t.n)) := by
  unfold partV
  rcases h with h | h | h <;> rw [h]
  · exact .inl ⟨rfl, rfl⟩
  · exact .inr (.inl ⟨rfl, rfl⟩)
  · exact .inr (.inr ⟨rfl, rfl⟩)
def PassLRes (w w' : World) (e : Ending) (R : Ry) : Prop := (∃ r, e = .returned (.tuple #[Ry.val r, .int .i64 (-1)]) ∧ Ry.is r R) ∧ Below w.heap.size w w'
theorem ro_set {W : World} {g : Nat} {rr t : Ry} (h : W.heap[g]? = some (RO rr)) : (((W.setCell ⟨g, 0, none⟩ (.complex .f32 t.x t.y)).setCell ⟨g, 1, none⟩ (.float .f32 t.p)).setCell ⟨g, 2, none⟩ (.float .f32 t.e)).heap[g]? = some (RO t) :=
  heap_setCell_same _ g 2 _ _ _ (heap_setCell_same _ g 1 _ _ _ (heap_setCell_same W g 0 _ _ _ h))
theorem ro_far {W : World} {g k : Nat} {t : Ry} {o : Option Obj} (hk : k ≠ g) (h : W.heap[k]? = o) : (((W.setCell ⟨g, 0, none⟩ (.complex .f32 t.x t.y)).setCell ⟨g, 1, none⟩ (.float .f32 t.p)).setCell ⟨g, 2, none⟩ (.float .f32 t.e)).heap[k]? = o := by
  rw [Below.heap_setCell _ _ _ k hk, Below.heap_setCell _ _ _ k hk, Below.heap_setCell _ _ _ k hk]; exact h
set_option maxHeartbeats 4000000 in
set_option maxRecDepth 100000 in
theorem iPassParts_any (B : Nat) (v : Value) (ts : List El) (r R : Ry) (w : World) (hv : PO B w v ts) (h : oksE ts) (hp : ∀ t ∈ ts, plainE t) (hr : Ry.is r R) (hn : ts.length ≤ 1048576) :
    Calls Try.prog 91 #[v, r.val] w fun e w' => PassLRes w w' e (passL ts R ts.length) := by
  obtain ⟨a, cap, rfl, hf⟩ := po_form hv
  have HU := Lib.hid hv; have HO := Lib.hid h; have HP := Lib.hid hp
  have HRES := Lib.hid (show Try.f91.results = #[.cell 4 61, .tmp 5] by kernel_rfl)
  clear hv h hp
  have HB0 := Lib.hid (((Below.refl w.heap.size w).alloc (Nat.le_refl _) (RO r)).alloc (by simp) (RO ⟨0, 0, 0, 0⟩))
  have HX0 := Lib.hid (show ((w.alloc (RO r)).alloc (RO ⟨0, 0, 0, 0⟩)).heap[w.heap.size]? = some (RO r) from by rw [heap_alloc_old _ _ (by simp), heap_alloc_new])
  have HX1 := Lib.hid (show ((w.alloc (RO r)).alloc (RO ⟨0, 0, 0, 0⟩)).heap[w.heap.size + 1]? = some (RO ⟨0, 0, 0, 0⟩) from by
    have := heap_alloc_new (w.alloc (RO r)) (RO ⟨0, 0, 0, 0⟩)
    rwa [World.size_alloc] at this)
  have HIS := Lib.hid hr
  clear hr
  unfold Ry.val
  go_enter Try.func91, Try.ntmps91
  go_wp2_with fail
  generalize (w.alloc (RO r)).alloc (RO ⟨0, 0, 0, 0⟩) = w2 at HB0 HX0 HX1 ⊢
  go_loopw [12] (fun i wr => ∃ k : Nat, k ≤ ts.length ∧ i = .int .i64 k ∧ Hid (Below w.heap.size w wr) ∧ ∃ rr : Ry, Hid (wr.heap[w.heap.size]? = some (RO rr)) ∧ Hid (wr.heap[w.heap.size + 1]? = some (RO ⟨0, 0, 0, 0⟩)) ∧ Hid (Ry.is rr (passL ts R k))) (fun i _ => ts.length - (intOf i).toNat)
  case atStart => exact ⟨0, Nat.zero_le _, rfl, HB0, r, HX0, HX1, HIS⟩
  case round =>
    clear HB0 HX0 HX1 HIS
    obtain ⟨k, hk, rfl, HB, rr, HC0, HC1, HIS⟩ := hrel
    have d0 : wr.cell? ⟨w.heap.size, 0, none⟩ = some (.complex .f32 rr.x rr.y) := by rw [Joins.cell_of_block HC0.out]; rfl
    have d1 : wr.cell? ⟨w.heap.size, 1, none⟩ = some (.float .f32 rr.p) := by rw [Joins.cell_of_block HC0.out]; rfl
    have d2 : wr.cell? ⟨w.heap.size, 2, none⟩ = some (.float .f32 rr.e) := by rw [Joins.cell_of_block HC0.out]; rfl
    by_cases hlt : k < ts.length
    · rcases hf with hf | ⟨g, rfl, _, hg⟩
      · subst hf; simp at hlt
      have HT := Lib.hid (oksE_at HO.out hlt)
      have HPL := Lib.hid (HP.out _ (List.getElem_mem hlt))
      have c0 := po_cell (po_below HU.out HB.out) hlt
      have HST := Lib.hid (passL_step ts R hlt)
      have HLT := Lib.hid hlt
      generalize ts[k] = t at HT HPL c0 HST
      rcases partV_plain HPL.out with ⟨hk0, hpv⟩ | ⟨hk0, hpv⟩ | ⟨hk0, hpv⟩
      · rw [hpv] at c0
        have HPE := Lib.hid (show passE t (passL ts R k) = ⟨fop .add .f32 (passL ts R k).x (fop .mul .f32 t.N (passL ts R k).y), (passL ts R k).y, fop .add .f32 (passL ts R k).p (fop .mul .f32 t.N (passL ts R k).e), (passL ts R k).e⟩ from by unfold passE; rw [if_pos hk0])
        have hm : ∀ n v w, (method (n + 1) 95 v "loop.example/g01226/impl.pass").run Try.prog w = .ok (155, v) w := fun n v w => run_meth Try.underlying95 mrow_drift n v w
        clear hpv hk0
        go_wp2_with fail
        refine (passDrift_any t.n t.N rr _ HT.out.iN HIS.out _).mono ?_
        rintro e w5 hpr
        unfold PassRes at hpr
        obtain ⟨⟨r5, rfl, hi5⟩, hb5⟩ := hpr
        rw [← HPE.out, ← HST.out] at hi5
        have HI5 := Lib.hid hi5
        have HB5 := Lib.hid (HB.out.trans (hb5.mono HB.out.size))
        have hs5 : w.heap.size + 1 < wr.heap.size := (Array.getElem?_eq_some_iff.1 HC1.out).1
        have HC05 := Lib.hid ((hb5.block w.heap.size (by omega)).trans HC0.out)
        have HC15 := Lib.hid ((hb5.block (w.heap.size + 1) hs5).trans HC1.out)
        have HS5 := Lib.hid (Nat.lt_of_lt_of_le hs5 hb5.size)
        clear hi5 hb5 hs5 c0 d0 d1 d2 hm
        obtain ⟨x5, y5, p5, e5⟩ := r5
        unfold Ry.val
        have HW := Lib.hid (show ∀ Z, (w5.alloc Z).heap[w.heap.size]? = some (RO rr) from fun Z => (heap_alloc_old w5 Z (by have := HS5.out; omega)).trans HC05.out)
        have d0 : ∀ Z, (w5.alloc Z).cell? ⟨w.heap.size, 0, none⟩ = some (.complex .f32 rr.x rr.y) := fun Z => by rw [Joins.cell_of_block (HW.out Z)]; rfl
        have d1 : ∀ Z, (w5.alloc Z).cell? ⟨w.heap.size, 1, none⟩ = some (.float .f32 rr.p) := fun Z => by rw [Joins.cell_of_block (HW.out Z)]; rfl
        have d2 : ∀ Z, (w5.alloc Z).cell? ⟨w.heap.size, 2, none⟩ = some (.float .f32 rr.e) := fun Z => by rw [Joins.cell_of_block (HW.out Z)]; rfl
        have f0 : ∀ Z, (w5.alloc Z).frozen? ⟨w.heap.size, 0, none⟩ = false := fun Z => by simp [World.frozen?, HW.out Z]
        have f1 : ∀ Z, (w5.alloc Z).frozen? ⟨w.heap.size, 1, none⟩ = false := fun Z => by simp [World.frozen?, HW.out Z]
        have f2 : ∀ Z, (w5.alloc Z).frozen? ⟨w.heap.size, 2, none⟩ = false := fun Z => by simp [World.frozen?, HW.out Z]
        go_wp2_with fail
        have HB6 := Lib.hid (((((HB5.out.alloc HB5.out.size (RO ⟨x5, y5, p5, e5⟩)).setCell (p := ⟨w.heap.size, 0, none⟩) (Nat.le_refl _) (.complex .f32 x5 y5)).setCell (p := ⟨w.heap.size, 1, none⟩) (Nat.le_refl _) (.float .f32 p5)).setCell (p := ⟨w.heap.size, 2, none⟩) (Nat.le_refl _) (.float .f32 e5)))
        have HC06 := Lib.hid (ro_set (t := ⟨x5, y5, p5, e5⟩) (HW.out (RO ⟨x5, y5, p5, e5⟩)))
        have HC16 := Lib.hid (ro_far (t := ⟨x5, y5, p5, e5⟩) (g := w.heap.size) (k := w.heap.size + 1) (by omega) ((heap_alloc_old w5 (RO ⟨x5, y5, p5, e5⟩) HS5.out).trans HC15.out))
        refine ⟨⟨k + 1, HLT.out, by go_num, HB6, ⟨x5, y5, p5, e5⟩, HC06, HC16, HI5⟩, ?_⟩
        have := HLT.out
        simp [intOf]; omega
      · rw [hpv] at c0
        have HPE := Lib.hid (show passE t (passL ts R k) = ⟨(passL ts R k).x, fop .sub .f32 (passL ts R k).y (fop .quo .f32 (passL ts R k).x t.N), (passL ts R k).p, (passL ts R k).e⟩ from by unfold passE; rw [if_neg (by rw [hk0]; decide), if_pos hk0])
        have hm : ∀ n v w, (method (n + 1) 96 v "loop.example/g01226/impl.pass").run Try.prog w = .ok (156, v) w := fun n v w => run_meth Try.underlying96 mrow_lens n v w
        clear hpv hk0
        go_wp2_with fail
        refine (passLens_any t.n t.N rr _ HT.out.iN HIS.out _).mono ?_
        rintro e w5 hpr
        unfold PassRes at hpr
        obtain ⟨⟨r5, rfl, hi5⟩, hb5⟩ := hpr
        rw [← HPE.out, ← HST.out] at hi5
        have HI5 := Lib.hid hi5
        have HB5 := Lib.hid (HB.out.trans (hb5.mono HB.out.size))
        have hs5 : w.heap.size + 1 < wr.heap.size := (Array.getElem?_eq_some_iff.1 HC1.out).1
        have HC05 := Lib.hid ((hb5.block w.heap.size (by omega)).trans HC0.out)
        have HC15 := Lib.hid ((hb5.block (w.heap.size + 1) hs5).trans HC1.out)
        have HS5 := Lib.hid (Nat.lt_of_lt_of_le hs5 hb5.size)
        clear hi5 hb5 hs5 c0 d0 d1 d2 hm
        obtain ⟨x5, y5, p5, e5⟩ := r5
        unfold Ry.val
        have HW := Lib.hid (show ∀ Z, (w5.alloc Z).heap[w.heap.size]? = some (RO rr) from fun Z => (heap_alloc_old w5 Z (by have := HS5.out; omega)).trans HC05.out)
        have d0 : ∀ Z, (w5.alloc Z).cell? ⟨w.heap.size, 0, none⟩ = some (.complex .f32 rr.x rr.y) := fun Z => by rw [Joins.cell_of_block (HW.out Z)]; rfl
        have d1 : ∀ Z, (w5.alloc Z).cell? ⟨w.heap.size, 1, none⟩ = some (.float .f32 rr.p) := fun Z => by rw [Joins.cell_of_block (HW.out Z)]; rfl
        have d2 : ∀ Z, (w5.alloc Z).cell? ⟨w.heap.size, 2, none⟩ = some (.float .f32 rr.e) := fun Z => by rw [Joins.cell_of_block (HW.out Z)]; rfl
        have f0 : ∀ Z, (w5.alloc Z).frozen? ⟨w.heap.size, 0, none⟩ = false := fun Z => by simp [World.frozen?, HW.out Z]
        have f1 : ∀ Z, (w5.alloc Z).frozen? ⟨w.heap.size, 1, none⟩ = false := fun Z => by simp [World.frozen?, HW.out Z]
        have f2 : ∀ Z, (w5.alloc Z).frozen? ⟨w.heap.size, 2, none⟩ = false := fun Z => by simp [World.frozen?, HW.out Z]
        go_wp2_with fail
        have HB6 := Lib.hid (((((HB5.out.alloc HB5.out.size (RO ⟨x5, y5, p5, e5⟩)).setCell (p := ⟨w.heap.size, 0, none⟩) (Nat.le_refl _) (.complex .f32 x5 y5)).setCell (p := ⟨w.heap.size, 1, none⟩) (Nat.le_refl _) (.float .f32 p5)).setCell (p := ⟨w.heap.size, 2, none⟩) (Nat.le_refl _) (.float .f32 e5)))
        have HC06 := Lib.hid (ro_set (t := ⟨x5, y5, p5, e5⟩) (HW.out (RO ⟨x5, y5, p5, e5⟩)))
        have HC16 := Lib.hid (ro_far (t := ⟨x5, y5, p5, e5⟩) (g := w.heap.size) (k := w.heap.size + 1) (by omega) ((heap_alloc_old w5 (RO ⟨x5, y5, p5, e5⟩) HS5.out).trans HC15.out))
        refine ⟨⟨k + 1, HLT.out, by go_num, HB6, ⟨x5, y5, p5, e5⟩, HC06, HC16, HI5⟩, ?_⟩
        have := HLT.out
        simp [intOf]; omega
      · rw [hpv] at c0
        have HPE := Lib.hid (show passE t (passL ts R k) = ⟨(passL ts R k).x, fop .add .f32 (passL ts R k).y t.N, (passL ts R k).p, (passL ts R k).e⟩ from by unfold passE; rw [if_neg (by rw [hk0]; decide), if_neg (by rw [hk0]; decide)])
        have hm : ∀ n v w, (method (n + 1) 97 v "loop.example/g01226/impl.pass").run Try.prog w = .ok (157, v) w := fun n v w => run_meth Try.underlying97 mrow_kick n v w
        clear hpv hk0
        go_wp2_with fail
        refine (passKick_any t.n t.N rr _ HT.out.iN HIS.out _).mono ?_
        rintro e w5 hpr
        unfold PassRes at hpr
        obtain ⟨⟨r5, rfl, hi5⟩, hb5⟩ := hpr
        rw [← HPE.out, ← HST.out] at hi5
        have HI5 := Lib.hid hi5
        have HB5 := Lib.hid (HB.out.trans (hb5.mono HB.out.size))
        have hs5 : w.heap.size + 1 < wr.heap.size := (Array.getElem?_eq_some_iff.1 HC1.out).1
        have HC05 := Lib.hid ((hb5.block w.heap.size (by omega)).trans HC0.out)
        have HC15 := Lib.hid ((hb5.block (w.heap.size + 1) hs5).trans HC1.out)
        have HS5 := Lib.hid (Nat.lt_of_lt_of_le hs5 hb5.size)
        clear hi5 hb5 hs5 c0 d0 d1 d2 hm
        obtain ⟨x5, y5, p5, e5⟩ := r5
        unfold Ry.val
        have HW := Lib.hid (show ∀ Z, (w5.alloc Z).heap[w.heap.size]? = some (RO rr) from fun Z => (heap_alloc_old w5 Z (by have := HS5.out; omega)).trans HC05.out)
        have d0 : ∀ Z, (w5.alloc Z).cell? ⟨w.heap.size, 0, none⟩ = some (.complex .f32 rr.x rr.y) := fun Z => by rw [Joins.cell_of_block (HW.out Z)]; rfl
        have d1 : ∀ Z, (w5.alloc Z).cell? ⟨w.heap.size, 1, none⟩ = some (.float .f32 rr.p) := fun Z => by rw [Joins.cell_of_block (HW.out Z)]; rfl
        have d2 : ∀ Z, (w5.alloc Z).cell? ⟨w.heap.size, 2, none⟩ = some (.float .f32 rr.e) := fun Z => by rw [Joins.cell_of_block (HW.out Z)]; rfl
        have f0 : ∀ Z, (w5.alloc Z).frozen? ⟨w.heap.size, 0, none⟩ = false := fun Z => by simp [World.frozen?, HW.out Z]
        have f1 : ∀ Z, (w5.alloc Z).frozen? ⟨w.heap.size, 1, none⟩ = false := fun Z => by simp [World.frozen?, HW.out Z]
        have f2 : ∀ Z, (w5.alloc Z).frozen? ⟨w.heap.size, 2, none⟩ = false := fun Z => by simp [World.frozen?, HW.out Z]
        go_wp2_with fail
        have HB6 := Lib.hid (((((HB5.out.alloc HB5.out.size (RO ⟨x5, y5, p5, e5⟩)).setCell (p := ⟨w.heap.size, 0, none⟩) (Nat.le_refl _) (.complex .f32 x5 y5)).setCell (p := ⟨w.heap.size, 1, none⟩) (Nat.le_refl _) (.float .f32 p5)).setCell (p := ⟨w.heap.size, 2, none⟩) (Nat.le_refl _) (.float .f32 e5)))
        have HC06 := Lib.hid (ro_set (t := ⟨x5, y5, p5, e5⟩) (HW.out (RO ⟨x5, y5, p5, e5⟩)))
        have HC16 := Lib.hid (ro_far (t := ⟨x5, y5, p5, e5⟩) (g := w.heap.size) (k := w.heap.size + 1) (by omega) ((heap_alloc_old w5 (RO ⟨x5, y5, p5, e5⟩) HS5.out).trans HC15.out))
        refine ⟨⟨k + 1, HLT.out, by go_num, HB6, ⟨x5, y5, p5, e5⟩, HC06, HC16, HI5⟩, ?_⟩
        have := HLT.out
        simp [intOf]; omega
    · obtain rfl : k = ts.length := by omega
      have e0 : wr.cell? ⟨w.heap.size + 1, 0, none⟩ = some (.complex .f32 0 0) := by rw [Joins.cell_of_block HC1.out]; rfl
      have e1 : wr.cell? ⟨w.heap.size + 1, 1, none⟩ = some (.float .f32 0) := by rw [Joins.cell_of_block HC1.out]; rfl
      have e2 : wr.cell? ⟨w.heap.size + 1, 2, none⟩ = some (.float .f32 0) := by rw [Joins.cell_of_block HC1.out]; rfl
      have f0 : wr.frozen? ⟨w.heap.size + 1, 0, none⟩ = false := by simp [World.frozen?, HC1.out]
      have f1 : wr.frozen? ⟨w.heap.size + 1, 1, none⟩ = false := by simp [World.frozen?, HC1.out]
      have f2 : wr.frozen? ⟨w.heap.size + 1, 2, none⟩ = false := by simp [World.frozen?, HC1.out]
      clear hlt
      go_wp2_with fail
      refine bodyPost_ret (v := .tuple #[.agg #[.complex .f32 rr.x rr.y, .float .f32 rr.p, .float .f32 rr.e], .int .i64 (-1)]) ?_ rfl ?_
      · have hres := HRES.out
        simp only [results, hres]; go_simp
      · exact ⟨⟨rr, rfl, HIS.out⟩, ((HB.out.setCell (p := ⟨w.heap.size + 1, 0, none⟩) (Nat.le_succ _) _).setCell (p := ⟨w.heap.size + 1, 1, none⟩) (Nat.le_succ _) _).setCell (p := ⟨w.heap.size + 1, 2, none⟩) (Nat.le_succ _) _⟩
end Go.Proofs.Ytpnmledanloboaa
