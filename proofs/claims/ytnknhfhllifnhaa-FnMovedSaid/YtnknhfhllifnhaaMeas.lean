/-
  Two streams of half a cell a tick: they are a valid cloud; their momentum, their temperature and their energy, exactly (the program).
  Two streams of half a cell a tick: their momentum and their temperature, exactly (the program).
  The program's CloudMomentum, TemperatureOf and KineticOf of two streams.
-/
import Derived.Test.YtnknhfhllifnhaaStrm
import Derived.Test.YtnknhfhllifnhaaCg
import Derived.Test.YtnknhfhllifnhaaPtM
import Derived.Test.YtnknhfhllifnhaaYf
import Derived.Test.YtnknhfhllifnhaaNar
import Derived.Test.YtnknhfhllifnhaaDepH
import Derived.Deep.CutRange
import Derived.Shelf.Abstract
namespace Go.Proofs.Ytnknhfhllifnhaa
open Go.Fl Go.RowKit
set_option linter.unusedSimpArgs false
set_option linter.unusedVariables false

def half (j : Nat) : Nat := if j % 2 = 0 then 1056964608 else 3204448256
theorem half_or (j : Nat) : (j % 2 = 0 ∧ half j = 1056964608) ∨ (j % 2 = 1 ∧ half j = 3204448256) := by
  unfold half
  by_cases h : j % 2 = 0
  · exact .inl ⟨h, if_pos h⟩
  · exact .inr ⟨by omega, if_neg h⟩
theorem dy_one {k : FloatKind} {u x y : Nat} {n : Int} (hx : Dy k u x n) (hy : Dy k u y n) : x = y := by
  refine ext_word k.format hx.lt hy.lt (by rw [hx.sg, hy.sg]) (V_inj k.format ?_)
  rw [hx.V, hy.V]
/-- The particles of two streams. -/
structure Stream (ts : List Pq) : Prop where
  ok : okq ts
  sp : ∀ j (h : j < ts.length), ts[j].x = half j ∧ ts[j].y = 0 ∧ ts[j].s = 1065353216

set_option maxRecDepth 100000 in
theorem tabX : ((List.range 4).all fun i => (List.range 8).all fun c => (List.range 16).all fun j => fin .f32 (fop .mul .f32 (floatOfInt .f32 (4 + (i : Int))) (fop .quo .f32 (floatOfInt .f32 (j : Int)) (floatOfInt .f32 (((2 * (c + 1) : Nat) : Int)))))) = true := by decide +kernel
set_option maxRecDepth 100000 in
theorem tabB : ((List.range 4).all fun i => (List.range 3).all fun l => (List.range 8).all fun c => fin .f32 (fop .quo .f32 (floatOfInt .f32 (((2 * (c + 1) : Nat) : Int))) (floatOfInt .f32 ((4 + (i : Int)) * (4 + (l : Int)))))) = true := by decide +kernel
theorem tabY : ((List.range 3).all fun l => fin .f32 (fop .mul .f32 1056964608 (floatOfInt .f32 (4 + (l : Int))))) = true := by decide +kernel
theorem tabQ : ((List.range 8).all fun c => fop .quo .f32 (E8 (2 * ((2 * (c + 1) : Nat) : Int))) (floatOfInt .f32 (((2 * (c + 1) : Nat) : Int))) == 1048576000 && fop .mul .f32 1040187392 (floatOfInt .f32 (((2 * (c + 1) : Nat) : Int))) == E8 (((2 * (c + 1) : Nat) : Int)) && fop .quo .f32 0 (floatOfInt .f32 (((2 * (c + 1) : Nat) : Int))) == 0) = true := by decide +kernel
theorem tq (c : Nat) (h0 : 1 ≤ c) (h1 : c ≤ 8) : fop .quo .f32 (E8 (2 * ((2 * c : Nat) : Int))) (floatOfInt .f32 ((2 * c : Nat) : Int)) = 1048576000 ∧ fop .mul .f32 1040187392 (floatOfInt .f32 ((2 * c : Nat) : Int)) = E8 ((2 * c : Nat) : Int) ∧ fop .quo .f32 0 (floatOfInt .f32 ((2 * c : Nat) : Int)) = 0 := by
  have h := List.all_eq_true.1 tabQ (c - 1) (List.mem_range.2 (by omega))
  rw [show 2 * (c - 1 + 1) = 2 * c by omega] at h
  simp only [Bool.and_eq_true, beq_iff_eq] at h
  exact ⟨h.1.1, h.1.2, h.2⟩

theorem num_half (j : Nat) : Num (half j) := by
  rcases half_or j with h | h <;> rw [h.2] <;> exact ⟨Is.const (by decide +kernel), by decide +kernel⟩
theorem num_zero : Num 0 := ⟨Is.const (by decide +kernel), by decide +kernel⟩
theorem num_m1 : Num 3212836864 := ⟨Is.const (by decide +kernel), by decide +kernel⟩
theorem num_p1 : Num 1065353216 := ⟨Is.const (by decide +kernel), by decide +kernel⟩
theorem num_of {x X : Nat} (h : Is .f32 x X) (hf : fin .f32 X = true) : x = X ∧ Num X := by
  have hn : Fl.nan .f32 X = false := by
    cases hn : Fl.nan .f32 X with
    | false => rfl
    | true => unfold fin at hf; unfold Fl.nan isNaN at hn; have := of_decide_eq_true hn; have := of_decide_eq_true hf; omega
  have e := h.same hn
  subst e
  exact ⟨rfl, h, hf⟩
def Pb.pq (t : Pb) : Pq := ⟨t.x, t.y, t.u, t.v, 3212836864, 1065353216⟩
theorem pb_r4 (t : Pb) : t.pq.r4 = t.r4 := rfl
theorem own_pb {B : Nat} {w : World} {v : Value} {ts : List Pb} (h : BOwn B w v ts) : QOwn B w v (ts.map Pb.pq) := by
  unfold QOwn; rw [List.map_map, show Pq.r4 ∘ Pb.pq = Pb.r4 from funext pb_r4]; exact h

set_option maxRecDepth 100000 in
theorem stream_of (a b : Int) (ha : 4 ≤ a) (ha' : a ≤ 7) (hb : 4 ≤ b) (hb' : b ≤ 6) (c : Nat) (h0 : 1 ≤ c) (h1 : c ≤ 8) : (∀ j, j < 2 * c → okPb (KS a b (2 * c) 1056964608 j) = true) ∧ fin .f32 (bkF a b (2 * c)) = true := by
  have ea : a = 4 + ((a - 4).toNat : Int) := by omega
  have eb : b = 4 + ((b - 4).toNat : Int) := by omega
  refine ⟨fun j hj => ?_, ?_⟩
  · have hX := List.all_eq_true.1 (List.all_eq_true.1 (List.all_eq_true.1 tabX (a - 4).toNat (List.mem_range.2 (by omega))) (c - 1) (List.mem_range.2 (by omega))) j (List.mem_range.2 (by omega))
    have hY := List.all_eq_true.1 tabY (b - 4).toNat (List.mem_range.2 (by omega))
    rw [← ea, show 2 * (c - 1 + 1) = 2 * c by omega] at hX
    rw [← eb] at hY
    unfold okPb KS
    dsimp only
    rw [hX, hY]
    have h2 : fin .f32 (if j % 2 = 0 then 1056964608 else fneg .f32 1056964608) = true := by split <;> decide +kernel
    rw [h2]; decide +kernel
  · have hB := List.all_eq_true.1 (List.all_eq_true.1 (List.all_eq_true.1 tabB (a - 4).toNat (List.mem_range.2 (by omega))) (b - 4).toNat (List.mem_range.2 (by omega))) (c - 1) (List.mem_range.2 (by omega))
    rw [← ea, ← eb, show 2 * (c - 1 + 1) = 2 * c by omega] at hB
    unfold bkF
    have hm1 : a * b ≤ 7 * 6 := Int.mul_le_mul ha' hb' (by omega) (by omega)
    have hm0 : 4 * 4 ≤ a * b := Int.mul_le_mul ha hb (by omega) (by omega)
    rw [wrap_i64, wrap64_of (by omega) (by omega)]
    exact hB

theorem ks_half (a b : Int) (n j : Nat) : (KS a b n 1056964608 j).u = half j := by
  unfold KS half
  dsimp only
  by_cases h : j % 2 = 0
  · rw [if_pos h, if_pos h]
  · rw [if_neg h, if_neg h]; decide +kernel
theorem stream_pq (ts : List Pb) (K : Nat → Pb) (he : EqP ts K) (hk : ∀ j, j < ts.length → okPb (K j) = true) (hu : ∀ j, (K j).u = half j) (hv : ∀ j, (K j).v = 0) : Stream (ts.map Pb.pq) := by
  have key : ∀ j (h : j < ts.length), ts[j].pq.ok ∧ ts[j].u = half j ∧ ts[j].v = 0 := by
    intro j hj
    have h := he j hj
    have hq := hk j hj
    unfold okPb at hq
    simp only [Bool.and_eq_true] at hq
    have x1 := num_of h.ix hq.1.1; have x2 := num_of h.iy hq.1.2; have x3 := num_of h.iu hq.2.1; have x4 := num_of h.iv hq.2.2
    refine ⟨⟨?_, ?_, ?_, ?_, num_m1, num_p1, by show fcmp .gtr .f32 1065353216 0 = true; decide +kernel⟩, by rw [x3.1, hu], by rw [x4.1, hv]⟩
    · show Num ts[j].x; rw [x1.1]; exact x1.2
    · show Num ts[j].y; rw [x2.1]; exact x2.2
    · show Num ts[j].u; rw [x3.1]; exact x3.2
    · show Num ts[j].v; rw [x4.1]; exact x4.2
  refine ⟨fun t ht => ?_, fun j hj => ?_⟩
  · obtain ⟨j, hj, rfl⟩ := List.mem_iff_getElem.1 ht
    rw [List.getElem_map]
    exact (key j (by simpa using hj)).1
  · rw [List.getElem_map]
    have h := key j (by simpa using hj)
    exact ⟨h.2.1, h.2.2, rfl⟩

theorem iTwo_str (a b : Int) (ha : 4 ≤ a) (ha' : a ≤ 7) (hb : 4 ≤ b) (hb' : b ≤ 6) (c : Nat) (h0 : 1 ≤ c) (h1 : c ≤ 8) (w : World) :
    Calls Try.prog 31 #[GV a b, .int .i64 (c : Int), .float .f32 1056964608] w fun e w' => (∃ v ts k, e = .returned (.tuple #[CG a b v 0 k, .bool true]) ∧ ts.length = 2 * c ∧ QOwn w.heap.size w' v ts ∧ Stream ts ∧ Num k) ∧ Below w.heap.size w w' := by
  obtain ⟨hs, hbk⟩ := stream_of a b ha ha' hb hb' c h0 h1
  refine (iTwo_yes a b c (2 * c) rfl 1056964608 1056964608 (Is.const (by decide +kernel)) h0 (by omega) w).mono ?_
  rintro e w' ⟨⟨v, ts, k, hl, ho, he, hk, rfl⟩, hbl⟩
  have hok : okWith a b (KS a b (2 * c) 1056964608) (2 * c) (bkF a b (2 * c)) = true := by
    unfold okWith
    rw [allPb_true hs, hbk, show gridOk a b = true from decide_eq_true ⟨ha, by omega, hb, by omega⟩]; rfl
  have hn := num_of hk hbk
  refine ⟨⟨v, ts.map Pb.pq, k, by rw [hok]; rfl, by rw [List.length_map]; exact hl, own_pb ho, stream_pq ts _ he (by rw [hl]; exact hs) (ks_half a b (2 * c)) (fun _ => rfl), by rw [hn.1]; exact hn.2⟩, hbl⟩

/-! ### what is measured -/
theorem nan_cdiff (P : Program) (t : TypeId) {x y x' y' : Nat} (h1 : Fl.nan .f32 (fop .sub .f32 x x') = false) (h2 : Fl.nan .f32 (fop .sub .f32 y y') = false) (w : World) :
    (binOp .sub t (.complex .f32 x y) (.complex .f32 x' y')).run P w = .ok (.complex .f32 (fop .sub .f32 x x') (fop .sub .f32 y y')) w := by
  refine run_complex_sum w .sub (.inr rfl) t .f32 _ _ _ _ _ _ ?_
  unfold cSumBits
  rw [some_of_fop h1, some_of_fop h2]
  rfl
theorem pow_half (j : Nat) : nar (powF (half j) 0) = 1048576000 := by
  rcases half_or j with h | h <;> rw [h.2] <;> decide +kernel
theorem fits_half (j : Nat) : fits (powF (half j) 0) := by
  rcases half_or j with h | h <;> rw [h.2] <;> exact .inr (.inr (by decide +kernel))
theorem iPower_half (j : Nat) (w : World) : Calls Try.prog 135 #[.complex .f32 (half j) 0] w fun e w' => e = .returned (.float .f32 1048576000) ∧ ∃ n, w' = w.drewN n := by
  have i1 := (num_half j).is; have i2 := num_zero.is
  have HF := Lib.hid (fits_half j); have HN := Lib.hid (pow_half j)
  generalize half j = x at i1 HF HN ⊢
  go_enter Try.func135, Try.ntmps135
  go_wp2_with fail
  refine (iWideP_any _ _ _ _ i1 i2 _).mono ?_
  rintro e w1 ⟨⟨r, rfl, hr⟩, n1, rfl⟩
  go_wp2_with fail
  refine (iNarrow_any _ _ hr HF.out _).mono ?_
  rintro e w2 ⟨⟨r2, rfl, hr2⟩, n2, rfl⟩
  have e2 : r2 = 1048576000 := by rw [HN.out] at hr2; exact hr2.same (by decide +kernel)
  subst e2
  go_wp2_with fail
  go_ret
  exact ⟨rfl, _, rfl⟩
theorem half_dv4 (j : Nat) : Dv .f32 146 (half j) (if j % 2 = 0 then 4 else -4) := by
  rcases half_or j with h | h
  · rw [h.2, if_pos h.1]; exact (Dy.of (by decide +kernel) : Dy .f32 146 1056964608 4).dv
  · rw [h.2, if_neg (by omega)]; exact (Dy.of (by decide +kernel) : Dy .f32 146 3204448256 (-4)).dv
theorem quarter_dy : Dy .f32 146 1048576000 2 := Dy.of (by decide +kernel)
theorem eighth_dy : Dy .f32 146 (fop .mul .f32 (fop .mul .f32 1056964608 1065353216) 1048576000) 1 := Dy.of (by decide +kernel)

set_option maxHeartbeats 1000000 in
set_option maxRecDepth 100000 in
theorem iPKin_half (j A1 B1 C1 : Nat) (w : World) :
    Calls Try.prog 159 #[.agg #[.complex .f32 A1 B1, .complex .f32 (half j) 0, .float .f32 C1, .float .f32 1065353216]] w fun e w' => e = .returned (.float .f32 (fop .mul .f32 (fop .mul .f32 1056964608 1065353216) 1048576000)) ∧ Below w.heap.size w w' := by
  have hb0 := (Below.refl w.heap.size w).alloc (Nat.le_refl _) (.cells #[.complex .f32 A1 B1, .complex .f32 (half j) 0, .float .f32 C1, .float .f32 1065353216] 57)
  have HX1 := Lib.hid (heap_alloc_new w (.cells #[.complex .f32 A1 B1, .complex .f32 (half j) 0, .float .f32 C1, .float .f32 1065353216] 57))
  have HS1 := Lib.hid (show w.heap.size < (w.alloc (.cells #[.complex .f32 A1 B1, .complex .f32 (half j) 0, .float .f32 C1, .float .f32 1065353216] 57)).heap.size by simp)
  have HB1 := Lib.hid hb0
  have HQ1 := Lib.hid (show Fl.nan .f32 (fop .mul .f32 1056964608 1065353216) = false by decide +kernel)
  clear hb0
  go_enter Try.func159, Try.ntmps159
  go_wp2_with fail
  generalize w.alloc (.cells #[.complex .f32 A1 B1, .complex .f32 (half j) 0, .float .f32 C1, .float .f32 1065353216] 57) = w2 at HB1 HX1 HS1 ⊢
  generalize hpb : w.heap.size = pb at HX1 HS1 ⊢
  have HPB := Lib.hid hpb
  have HC := Lib.hid (fun W (hW : Below w2.heap.size w2 W) => And.intro (Four.cells ((hW.block pb HS1.out).trans HX1.out)).2.1 (Four.cells ((hW.block pb HS1.out).trans HX1.out)).2.2.2)
  clear hpb
  have hd0 := (Below.refl w2.heap.size w2).drew
  refine wp_region_noPanic ?_
  refine wp_region_held_drew (S := fun W => W.cell? ⟨pb, 1, none⟩ = some (.complex .f32 (half j) 0) ∧ W.cell? ⟨pb, 3, none⟩ = some (.float .f32 1065353216)) (by kernel_rfl) (HC.out _ hd0) (fun hHeld => ?_)
  ((refine wpAnyH_take (i := 0) (v := ?_) rfl (by kernel_rfl) (by kernel_rfl) (by kernel_rfl) (fun _ _ _ h => h) (Or.inl ⟨by rfl, ?_⟩) (by assumption) ?_; rotate_left; (· intro w hSw; (try dsimp only at hSw); go_simp; first | done | with_reducible rfl); (try simp only [List.getElem_toArray, List.getElem_cons_zero, List.getElem_cons_succ, Act.put, List.setIfInBounds_toArray, List.set_cons_zero, List.set_cons_succ])); (refine wpAnyH_take (i := 1) (v := ?_) rfl (by kernel_rfl) (by kernel_rfl) (by kernel_rfl) (fun _ _ _ h => h) (Or.inl ⟨by rfl, ?_⟩) (by assumption) ?_; rotate_left; (· intro w hSw; (try dsimp only at hSw); go_simp; first | done | with_reducible rfl); (try simp only [List.getElem_toArray, List.getElem_cons_zero, List.getElem_cons_succ, Act.put, List.setIfInBounds_toArray, List.set_cons_zero, List.set_cons_succ])))
  (refine wpAnyH_take (i := 2) (v := _) rfl (by kernel_rfl) (by kernel_rfl) (by kernel_rfl) (fun _ _ _ h => h) (yields_fa (by rfl) .mul _ _ _ _ rfl rfl .f32 _ _ rfl rfl (HQ1.out)) (by assumption) ?_; (try simp only [List.getElem_toArray, List.getElem_cons_zero, List.getElem_cons_succ, Act.put, List.setIfInBounds_toArray, List.set_cons_zero, List.set_cons_succ]))
  ((refine wpAnyH_take (i := 3) (v := ?_) rfl (by kernel_rfl) (by kernel_rfl) (by kernel_rfl) (fun _ _ _ h => h) (Or.inl ⟨by rfl, ?_⟩) (by assumption) ?_; rotate_left; (· intro w hSw; (try dsimp only at hSw); go_simp; first | done | with_reducible rfl); (try simp only [List.getElem_toArray, List.getElem_cons_zero, List.getElem_cons_succ, Act.put, List.setIfInBounds_toArray, List.set_cons_zero, List.set_cons_succ])); (refine wpAnyH_take (i := 4) (v := ?_) rfl (by kernel_rfl) (by kernel_rfl) (by kernel_rfl) (fun _ _ _ h => h) (Or.inl ⟨by rfl, ?_⟩) (by assumption) ?_; rotate_left; (· intro w hSw; (try dsimp only at hSw); go_simp; first | done | with_reducible rfl); (try simp only [List.getElem_toArray, List.getElem_cons_zero, List.getElem_cons_succ, Act.put, List.setIfInBounds_toArray, List.set_cons_zero, List.set_cons_succ])))
  (refine wpAnyH_ready (rs := [5]) (by kernel_rfl) (by simp) ?_; refine AllReadyH.cons (i := 5) rfl (fun K hK => ?_) AllReadyH.nil)
  go_simp
  refine (iPower_half j _).mono ?_
  rintro e w3 ⟨rfl, n3, rfl⟩
  have hd1 := below_drewN (Below.refl w2.heap.size w2) (1 + n3)
  go_wp2_with fail
  (refine hK.out _ _ (HC.out _ hd1) (fun hHeld => ?_); clear hK K; (try simp only [List.getElem_toArray, List.getElem_cons_zero, List.getElem_cons_succ, Act.put, List.setIfInBounds_toArray, List.set_cons_zero, List.set_cons_succ]))
  (refine wpAnyH_take (i := 6) (v := _) rfl (by kernel_rfl) (by kernel_rfl) (by kernel_rfl) (fun _ _ _ h => h) (yields_fa (by rfl) .mul _ _ _ _ rfl rfl .f32 _ _ rfl rfl (eighth_dy.nan)) (by assumption) ?_; (try simp only [List.getElem_toArray, List.getElem_cons_zero, List.getElem_cons_succ, Act.put, List.setIfInBounds_toArray, List.set_cons_zero, List.set_cons_succ]))
  ((refine wpAnyH_take (i := 7) (v := ?_) rfl (by kernel_rfl) (by kernel_rfl) (by kernel_rfl) (fun _ _ _ h => h) (Or.inl ⟨by rfl, ?_⟩) (by assumption) ?_; rotate_left; (· intro w hSw; (try dsimp only at hSw); go_simp; first | done | with_reducible rfl); (try simp only [List.getElem_toArray, List.getElem_cons_zero, List.getElem_cons_succ, Act.put, List.setIfInBounds_toArray, List.set_cons_zero, List.set_cons_succ])))
  (refine wpAnyH_done (by kernel_rfl) ?_ _; refine NoPanic.normal ?_)
  clear hHeld
  go_wp2_with fail
  go_ret
  exact ⟨rfl, below_drewN HB1.out _⟩

set_option maxHeartbeats 1000000 in
set_option maxRecDepth 100000 in
theorem iKinetic_str (a b : Int) (B : Nat) (v : Value) (ts : List Pq) (k : Nat) (w : World) (hv : QOwn B w v ts) (hs : Stream ts) (hn : ts.length ≤ 48) :
    Calls Try.prog 103 #[CG a b v 0 k] w fun e w' => (∃ r, e = .returned (.float .f32 r) ∧ Dy .f32 146 r ts.length) ∧ Below w.heap.size w w' := by
  obtain ⟨av, cap, rfl, hf⟩ := q_form hv
  have HV := Lib.hid hv; have HSP := Lib.hid hs.sp
  clear hv hs
  have hb0 := (Below.refl w.heap.size w).alloc (Nat.le_refl _) (.cells (CGc a b (.slice av ts.length cap) 0 k) 48)
  go_enter Try.func103, Try.ntmps103
  go_wp2_with fail
  generalize w.alloc (.cells (CGc a b (.slice av ts.length cap) 0 k) 48) = w1 at hb0 ⊢
  go_loopw [3, 9] (fun s i wr => ∃ q : Nat, q ≤ ts.length ∧ i = .int .i64 (q : Int) ∧ Below w.heap.size w wr ∧ ∃ x, s = .float .f32 x ∧ Hid (Dy .f32 146 x q)) (fun s i _ => ts.length - (intOf i).toNat)
  case atStart => exact ⟨0, Nat.zero_le _, rfl, hb0, 0, rfl, Lib.hid (dy_zero32 _)⟩
  case round =>
    clear hb0
    obtain ⟨q, hq, rfl, hb, x, rfl, HD⟩ := hrel
    by_cases hlt : q < ts.length
    · rcases hf with hf | ⟨g, rfl, _, _⟩
      · subst hf; simp at hlt
      obtain ⟨c0, c1, c2, c3⟩ := q_cells (r4_below HV.out hb) hlt
      obtain ⟨e1, e2, e3⟩ := HSP.out q hlt
      generalize ts[q] = t at c0 c1 c2 c3 e1 e2 e3
      rw [e1, e2] at c1
      rw [e3] at c3
      clear e1 e2 e3
      have HB1 := Lib.hid (hb.alloc hb.size (.cells #[.complex .f32 t.a t.b, .complex .f32 (half q) 0, .float .f32 t.c, .float .f32 1065353216] 57))
      have HX1 := Lib.hid (heap_alloc_new wr (.cells #[.complex .f32 t.a t.b, .complex .f32 (half q) 0, .float .f32 t.c, .float .f32 1065353216] 57))
      have HS1 := Lib.hid (show wr.heap.size < (wr.alloc (.cells #[.complex .f32 t.a t.b, .complex .f32 (half q) 0, .float .f32 t.c, .float .f32 1065353216] 57)).heap.size by simp)
      have HA := Lib.hid (HD.out.add32 eighth_dy (by decide) (by omega))
      go_wp2_with fail
      generalize wr.alloc (.cells #[.complex .f32 t.a t.b, .complex .f32 (half q) 0, .float .f32 t.c, .float .f32 1065353216] 57) = w2 at HB1 HX1 HS1 ⊢
      clear c0 c1 c2 c3 hb HX1 HS1
      refine (iPKin_half q _ _ _ _).mono ?_
      rintro e w3 ⟨rfl, hb3⟩
      have HB3 := Lib.hid (HB1.out.trans (hb3.mono HB1.out.size))
      have ix := HD.out.is; have ie := eighth_dy.is
      generalize fop .mul .f32 (fop .mul .f32 1056964608 1065353216) 1048576000 = E at HA ie ⊢
      clear hb3 HB1
      go_wp2_with (apply wpList_farith; rfl; rfl; rfl; rfl; (first | with_reducible assumption | exact Is.const rfl); (first | with_reducible assumption | exact Is.const rfl); intro r n hr)
      have HR := Lib.hid (dyis HA.out hr)
      go_roundw
      case rel => exact ⟨q + 1, by omega, by go_num, below_drewN HB3.out _, _, rfl, Lib.hid (by have := HR.out; rwa [show ((q + 1 : Nat) : Int) = (q : Int) + 1 by omega])⟩
      case measure => simp [intOf]; omega
    · obtain rfl : q = ts.length := by omega
      clear hlt
      go_wp2_with fail
      go_ret
      exact ⟨⟨_, rfl, HD.out⟩, hb⟩
end Go.Proofs.Ytnknhfhllifnhaa
namespace Go.Proofs.Ytnknhfhllifnhaa
open Go.Fl Go.RowKit
set_option linter.unusedSimpArgs false
set_option linter.unusedVariables false

theorem num_nan9 {x : Nat} (h : Num x) : Fl.nan .f32 x = false := by
  cases hn : Fl.nan .f32 x with
  | false => rfl
  | true => have hf := h.fn; unfold fin at hf; unfold Fl.nan isNaN at hn; have := of_decide_eq_true hn; have := of_decide_eq_true hf; omega
def par (q : Nat) : Int := if q % 2 = 0 then 0 else 1
def sgn (q : Nat) : Int := if q % 2 = 0 then 4 else -4
theorem par_succ (q : Nat) : 4 * par q + sgn q = 4 * par (q + 1) ∧ -4 ≤ sgn q ∧ sgn q ≤ 4 ∧ 0 ≤ par q ∧ par q ≤ 1 := by
  unfold par sgn
  have h : q % 2 = 0 ∨ q % 2 = 1 := by omega
  rcases h with h | h
  · rw [if_pos h, if_pos h, if_neg (by omega)]; omega
  · rw [if_neg (by omega), if_neg (by omega), if_pos (by omega)]; omega
theorem par_even (c : Nat) : par (2 * c) = 0 := by unfold par; rw [if_pos (by omega)]
theorem zero_dv (u : Nat) : Dv .f32 u 0 0 := (dy_zero32 u).dv
theorem one_dv8 : Dv .f32 146 1065353216 8 := (Dy.of (by decide +kernel) : Dy .f32 146 1065353216 8).dv

set_option maxHeartbeats 1000000 in
set_option maxRecDepth 100000 in
theorem iMomentum_str (B : Nat) (v : Value) (ts : List Pq) (w : World) (hv : QOwn B w v ts) (h : Stream ts) (hn : ts.length ≤ 64) (hpar : par ts.length = 0) :
    Calls Try.prog 50 #[v] w fun e w' => e = .returned (.tuple #[.complex .f32 0 0, .bool true]) ∧ Below w.heap.size w w' := by
  obtain ⟨a, cap, rfl, hf⟩ := q_form hv
  have HV := Lib.hid hv; have HO := Lib.hid h.ok; have HSP := Lib.hid h.sp; have HPAR := Lib.hid hpar
  clear hv h hpar
  go_enter Try.func50, Try.ntmps50
  go_wp2_with fail
  refine (iAre_pq B _ ts _ HV.out HO.out hn).mono ?_
  rintro e w1 ⟨rfl, hb1⟩
  go_wp2_with fail
  go_loopw [4, 12] (fun s i wr => ∃ k : Nat, k ≤ ts.length ∧ i = .int .i64 k ∧ Below w.heap.size w wr ∧ ∃ x y, s = .complex .f32 x y ∧ Hid (Dy .f32 143 x (32 * par k) ∧ Dy .f32 143 y 0)) (fun s i _ => ts.length - (intOf i).toNat)
  case atStart => exact ⟨0, Nat.zero_le _, rfl, hb1, 0, 0, rfl, Lib.hid ⟨dy_zero32 _, dy_zero32 _⟩⟩
  case round =>
    clear hb1
    obtain ⟨k, hk, rfl, hb, x, y, rfl, HD⟩ := hrel
    by_cases hlt : k < ts.length
    · rcases hf with hf | ⟨g, rfl, _, _⟩
      · subst hf; simp at hlt
      obtain ⟨c0, c1, c2, c3⟩ := q_cells (r4_below HV.out hb) hlt
      obtain ⟨e1, e2, e3⟩ := HSP.out k hlt
      generalize ts[k] = t at c0 c1 c2 c3 e1 e2 e3
      rw [e1, e2] at c1
      rw [e3] at c3
      clear e1 e2 e3
      have HB1 := Lib.hid (hb.alloc hb.size (.cells #[.complex .f32 t.a t.b, .complex .f32 (half k) 0, .float .f32 t.c, .float .f32 1065353216] 57))
      have HP := Lib.hid (par_succ k)
      have HS := Lib.hid (show ∀ a b, Dv .f32 143 a (sgn k * 8) → Dv .f32 143 b (0 * 8) → Dy .f32 143 (fop .add .f32 x a) (32 * par (k + 1)) ∧ Dy .f32 143 (fop .add .f32 y b) 0 from fun a b ha hb => by
        have hp := HP.out
        have h1 := HD.out.1.addv32 ha (by decide) (by omega)
        have h2 := HD.out.2.addv32 hb (by decide) (by omega)
        rw [show 32 * par k + sgn k * 8 = 32 * par (k + 1) by omega] at h1
        exact ⟨h1, by simpa using h2⟩)
      clear hb
      go_wp2_with fail
      refine (iScale_dv _ _ _ (sgn k) 0 8 (half_dv4 k) (zero_dv 146) one_dv8 (by have := HP.out; omega) (by omega) _).mono ?_
      rintro e w2 ⟨⟨a, b, rfl, ha, hb⟩, n, rfl⟩
      have hs := HS.out a b ha hb
      have hcs := nan_csum Try.prog 39 hs.1.nan hs.2.nan
      have HD2 := Lib.hid hs
      clear hs ha hb c0 c1 c2 c3
      go_wp2_with fail
      go_roundw
      case rel => exact ⟨k + 1, by omega, by go_num, below_drewN HB1.out _, _, _, rfl, HD2⟩
      case measure => simp [intOf]; omega
    · obtain rfl : k = ts.length := by omega
      clear hlt
      have hx : x = 0 := dy_one HD.out.1 (by rw [HPAR.out]; exact dy_zero32 _)
      have hy : y = 0 := dy_one HD.out.2 (dy_zero32 _)
      subst hx hy
      go_wp2_with fail
      go_ret2
      exact ⟨rfl, hb⟩

set_option maxHeartbeats 2000000 in
set_option maxRecDepth 100000 in
theorem iTemp_str (a b : Int) (B : Nat) (v : Value) (ts : List Pq) (k : Nat) (c : Nat) (w : World) (hv : QOwn B w v ts) (hs : Stream ts) (h0 : 1 ≤ c) (h1 : c ≤ 8) (hl : ts.length = 2 * c) :
    Calls Try.prog 102 #[CG a b v 0 k] w fun e w' => e = .returned (.float .f32 1048576000) ∧ Below w.heap.size w w' := by
  obtain ⟨av, cap, rfl, hf⟩ := q_form hv
  have HV := Lib.hid hv; have HSP := Lib.hid hs.sp; have HL := Lib.hid hl
  have HTQ := Lib.hid (tq c h0 h1)
  have hn : ts.length ≤ 16 := by omega
  clear hv hs hl
  have hb0 := (Below.refl w.heap.size w).alloc (Nat.le_refl _) (.cells (CGc a b (.slice av ts.length cap) 0 k) 48)
  have hz0 := heap_alloc_new w (.cells (CGc a b (.slice av ts.length cap) 0 k) 48)
  go_enter Try.func102, Try.ntmps102
  go_wp2_with fail
  generalize w.alloc (.cells (CGc a b (.slice av ts.length cap) 0 k) 48) = w1 at hb0 hz0 ⊢
  have HZ1 := Lib.hid hz0
  have HB1 := Lib.hid hb0
  clear hz0 hb0
  have hb1 := Below.refl w1.heap.size w1
  go_loopw [4, 18] (fun s i wr => ∃ q : Nat, q ≤ ts.length ∧ i = .int .i64 (q : Int) ∧ Below w1.heap.size w1 wr ∧ ∃ x y, s = .complex .f32 x y ∧ Hid (Dy .f32 146 x (4 * par q) ∧ Dy .f32 146 y 0)) (fun s i _ => ts.length - (intOf i).toNat)
  case atStart => exact ⟨0, Nat.zero_le _, rfl, hb1, 0, 0, rfl, Lib.hid ⟨dy_zero32 _, dy_zero32 _⟩⟩
  case round =>
    clear hb1
    obtain ⟨q, hq, rfl, hb, x, y, rfl, HD⟩ := hrel
    by_cases hlt : q < ts.length
    · rcases hf with hf | ⟨g, rfl, _, _⟩
      · subst hf; simp at hlt
      obtain ⟨c0, c1, c2, c3⟩ := q_cells (r4_below HV.out (HB1.out.trans (hb.mono HB1.out.size))) hlt
      obtain ⟨e1, e2, e3⟩ := HSP.out q hlt
      generalize ts[q] = t at c0 c1 c2 c3 e1 e2 e3
      rw [e1, e2] at c1
      rw [e3] at c3
      clear e1 e2 e3
      have HB2 := Lib.hid (hb.alloc hb.size (.cells #[.complex .f32 t.a t.b, .complex .f32 (half q) 0, .float .f32 t.c, .float .f32 1065353216] 57))
      have HP := Lib.hid (par_succ q)
      have hs : Dy .f32 146 (fop .add .f32 x (half q)) (4 * par (q + 1)) ∧ Dy .f32 146 (fop .add .f32 y 0) 0 := by
        have hp := HP.out
        have h1 := HD.out.1.addv32 (half_dv4 q) (by decide) (by show (4 * par q + sgn q).natAbs < 2 ^ 24; omega)
        have h2 := HD.out.2.addv32 (zero_dv 146) (by decide) (by omega)
        rw [show (4 * par q + if q % 2 = 0 then 4 else -4) = 4 * par (q + 1) from hp.1] at h1
        exact ⟨h1, h2⟩
      have hcs := nan_csum Try.prog 39 hs.1.nan hs.2.nan
      have HD2 := Lib.hid hs
      clear hs hb
      go_wp2_with fail
      go_roundw
      case rel => exact ⟨q + 1, by omega, by go_num, HB2.out, _, _, rfl, HD2⟩
      case measure => simp [intOf]; omega
    · obtain rfl : q = ts.length := by omega
      clear hlt
      have hx : x = 0 := dy_one HD.out.1 (by rw [HL.out, par_even]; exact dy_zero32 _)
      have hy : y = 0 := dy_one HD.out.2 (dy_zero32 _)
      subst hx hy
      have HB3 := Lib.hid hb
      have d2 := (five_cells ((hb.block w.heap.size (Array.getElem?_eq_some_iff.1 HZ1.out).1).trans HZ1.out)).2.2.1
      have i0 := num_zero.is
      have i1 : Is .f32 (floatOfInt .f32 (ts.length : Int)) (floatOfInt .f32 (ts.length : Int)) := is_int32 _ (by omega) (by omega)
      have HQ0 := Lib.hid (fun r (h : Is .f32 r (fop .quo .f32 0 (floatOfInt .f32 (ts.length : Int)))) => show r = 0 from by
        rw [HL.out, HTQ.out.2.2] at h; exact h.same (by decide +kernel))
      clear hb HD
      go_wp2_with ((apply wpList_farith; rfl; rfl; rfl; rfl; (first | with_reducible assumption | exact Is.const rfl); (first | with_reducible assumption | exact Is.const rfl); intro r n hr); with_reducible have e0 := HQ0.out _ hr; clear hr; subst e0)
      have HDZ := Lib.hid (dy_zero32 146)
      go_loopw [8, 39] (fun s i wx => ∃ q : Nat, q ≤ ts.length ∧ i = .int .i64 (q : Int) ∧ Below w1.heap.size w1 wx ∧ ∃ x, s = .float .f32 x ∧ Hid (Dy .f32 146 x (2 * (q : Int)))) (fun s i _ => ts.length - (intOf i).toNat)
      case atStart => exact ⟨0, Nat.zero_le _, rfl, by first | exact HB3.out | exact below_drewN HB3.out _, 0, rfl, HDZ⟩
      case round =>
        clear HDZ HB3 d2 i0
        obtain ⟨q, hq, rfl, hb, x, rfl, HD⟩ := hrel
        by_cases hlt : q < ts.length
        · rcases hf with hf | ⟨g, rfl, _, _⟩
          · subst hf; simp at hlt
          obtain ⟨c0, c1, c2, c3⟩ := q_cells (r4_below HV.out (HB1.out.trans (hb.mono HB1.out.size))) hlt
          obtain ⟨e1, e2, e3⟩ := HSP.out q hlt
          generalize ts[q] = t at c0 c1 c2 c3 e1 e2 e3
          rw [e1, e2] at c1
          rw [e3] at c3
          clear e1 e2 e3
          have HB2 := Lib.hid (hb.alloc hb.size (.cells #[.complex .f32 t.a t.b, .complex .f32 (half q) 0, .float .f32 t.c, .float .f32 1065353216] 57))
          have z1 : fop .sub .f32 (half q) 0 = half q := by rcases half_or q with h | h <;> rw [h.2] <;> decide +kernel
          have z2 : fop .sub .f32 0 0 = 0 := by decide +kernel
          have hcs := nan_cdiff Try.prog 39 (x := half q) (y := 0) (x' := 0) (y' := 0) (by rw [z1]; exact num_nan9 (num_half q)) (by rw [z2]; decide +kernel)
          rw [z1, z2] at hcs
          have HA := Lib.hid (HD.out.add32 quarter_dy (by decide) (by omega))
          have ix := HD.out.is; have iq := quarter_dy.is
          clear hb z1 z2
          go_wp2_with fail
          refine (iPower_half q _).mono ?_
          rintro e w3 ⟨rfl, n3, rfl⟩
          clear hcs
          go_wp2_with (apply wpList_farith; rfl; rfl; rfl; rfl; (first | with_reducible assumption | exact Is.const rfl); (first | with_reducible assumption | exact Is.const rfl); intro r n hr)
          go_roundw
          case rel => exact ⟨q + 1, by omega, by go_num, below_drewN HB2.out _, _, rfl, Lib.hid (by have h := dyis HA.out (by assumption); rwa [show 2 * ((q + 1 : Nat) : Int) = 2 * (q : Int) + 2 by omega])⟩
          case measure => simp [intOf]; omega
        · obtain rfl : q = ts.length := by omega
          clear hlt
          have hx : x = E8 (2 * (ts.length : Int)) := dy_one HD.out (dy_e8 _ (by omega) (by omega))
          have HQ1 := Lib.hid (fun r (h : Is .f32 r (fop .quo .f32 x (floatOfInt .f32 (ts.length : Int)))) => show r = 1048576000 from by
            rw [hx, HL.out, HTQ.out.1] at h; exact h.same (by decide +kernel))
          have ix := HD.out.is
          have HBE := Lib.hid (HB1.out.trans (hb.mono HB1.out.size))
          clear hx hb
          go_wp2_with ((apply wpList_farith; rfl; rfl; rfl; rfl; (first | with_reducible assumption | exact Is.const rfl); (first | with_reducible assumption | exact Is.const rfl); intro r n hr); with_reducible have e0 := HQ1.out _ hr; clear hr; subst e0)
          go_ret
          exact ⟨rfl, below_drewN HBE.out _⟩
end Go.Proofs.Ytnknhfhllifnhaa
namespace Go.Proofs.Ytnknhfhllifnhaa
open Go.Fl Go.RowKit
set_option linter.unusedSimpArgs false
set_option linter.unusedVariables false

set_option maxHeartbeats 1000000 in
theorem iMomM_str (a b : Int) (B : Nat) (v : Value) (ts : List Pq) (k : Nat) (w : World) (hv : QOwn B w v ts) (hs : Stream ts) (hn : ts.length ≤ 48) (hpar : par ts.length = 0) :
    Calls Try.prog 100 #[CG a b v 0 k] w fun e w' => e = .returned (.complex .f32 0 0) ∧ Below w.heap.size w w' := by
  obtain ⟨av, cap, rfl, hf⟩ := q_form hv
  have HV := Lib.hid hv
  clear hv
  have hb0 := (Below.refl w.heap.size w).alloc (Nat.le_refl _) (.cells (CGc a b (.slice av ts.length cap) 0 k) 48)
  go_enter Try.func100, Try.ntmps100
  go_wp2_with fail
  generalize w.alloc (.cells (CGc a b (.slice av ts.length cap) 0 k) 48) = w1 at hb0 ⊢
  have HB1 := Lib.hid hb0
  clear hb0
  refine (iMomentum_str B _ ts _ (r4_below HV.out HB1.out) hs (by omega) hpar).mono ?_
  rintro e w2 ⟨rfl, hb2⟩
  have HB2 := Lib.hid (HB1.out.trans (hb2.mono HB1.out.size))
  clear hb2
  go_wp2_with fail
  go_ret
  exact ⟨rfl, HB2.out⟩

set_option maxHeartbeats 1000000 in
set_option maxRecDepth 100000 in
theorem iCloudMom_str (a b : Int) (ha : 4 ≤ a) (ha' : a ≤ 7) (hb : 4 ≤ b) (hb' : b ≤ 7) (B : Nat) (v : Value) (ts : List Pq) (k : Nat) (c : Nat) (w : World) (hv : QOwn B w v ts) (hs : Stream ts) (ik : Num k) (h0 : 1 ≤ c) (h1 : c ≤ 8) (hl : ts.length = 2 * c) :
    Calls Try.prog 32 #[CG a b v 0 k] w fun e w' => e = .returned (.tuple #[.complex .f32 0 0, .bool true]) ∧ Below w.heap.size w w' := by
  have HV := Lib.hid hv; have HSS := Lib.hid hs; have HIK := Lib.hid ik; have HLL := Lib.hid hl
  clear hv hs ik hl
  obtain ⟨av, cap, rfl, _⟩ := q_form HV.out
  have hb0 := (Below.refl w.heap.size w).alloc (Nat.le_refl _) (.cells (CGc a b (.slice av ts.length cap) 0 k) 48)
  have hne : ¬ ((ts.length : Int) = 0) := by have := HLL.out; omega
  go_enter Try.func32, Try.ntmps32
  go_wp2_with fail
  generalize w.alloc (.cells (CGc a b (.slice av ts.length cap) 0 k) 48) = w1 at hb0 ⊢
  have HB1 := Lib.hid hb0
  clear hb0 hne
  have hb2 := (Below.refl w1.heap.size w1).alloc (Nat.le_refl _) (.cells (CGc a b (.slice av ts.length cap) 0 k) 48)
  have HZ2 := Lib.hid (heap_alloc_new w1 (.cells (CGc a b (.slice av ts.length cap) 0 k) 48))
  have HS2 := Lib.hid (show w1.heap.size < (w1.alloc (.cells (CGc a b (.slice av ts.length cap) 0 k) 48)).heap.size by simp)
  have HB2 := Lib.hid (HB1.out.trans (hb2.mono HB1.out.size))
  clear hb2
  have HM1 : Calls Try.prog 99 #[CG a b (.slice av ts.length cap) 0 k, .func (.func 100) #[] #[]] w1 fun e w' => e = .returned (.tuple #[.complex .f32 0 0, .bool true]) ∧ Below w.heap.size w w' := by
    go_enter Try.func99, Try.ntmps99
    go_wp2_with fail
    generalize w1.alloc (.cells (CGc a b (.slice av ts.length cap) 0 k) 48) = w2 at HB2 HZ2 HS2 ⊢
    refine (iVC_pq B a b _ ts 0 k _ (r4_below HV.out HB2.out) HSS.out.ok (by have := HLL.out; omega) num_zero HIK.out (by unfold gridOk; exact decide_eq_true ⟨ha, by omega, hb, by omega⟩)).mono ?_
    rintro e w3 ⟨rfl, hb3⟩
    have HB3 := Lib.hid (HB2.out.trans (hb3.mono HB2.out.size))
    obtain ⟨q0, q1, q2, q3, q4⟩ := five_cells ((hb3.block w1.heap.size HS2.out).trans HZ2.out)
    clear hb3
    go_wp2_with fail
    refine (iMomM_str a b B _ ts k _ (r4_below HV.out HB3.out) HSS.out (by have := HLL.out; omega) (by rw [HLL.out]; exact par_even c)).mono ?_
    rintro e w4 ⟨rfl, hb4⟩
    have HB4 := Lib.hid (HB3.out.trans (hb4.mono HB3.out.size))
    clear hb4
    go_wp2_with fail
    go_ret2
    exact ⟨rfl, HB4.out⟩
  refine HM1.mono ?_
  rintro e w4 ⟨rfl, hb4⟩
  have HB4 := Lib.hid hb4
  clear hb4 HM1
  go_wp2_with fail
  go_ret2
  exact ⟨rfl, HB4.out⟩

set_option maxHeartbeats 1000000 in
set_option maxRecDepth 100000 in
theorem iTempOf_str (a b : Int) (ha : 4 ≤ a) (ha' : a ≤ 7) (hb : 4 ≤ b) (hb' : b ≤ 7) (B : Nat) (v : Value) (ts : List Pq) (k : Nat) (c : Nat) (w : World) (hv : QOwn B w v ts) (hs : Stream ts) (ik : Num k) (h0 : 1 ≤ c) (h1 : c ≤ 8) (hl : ts.length = 2 * c) :
    Calls Try.prog 33 #[CG a b v 0 k] w fun e w' => e = .returned (.tuple #[.float .f32 1048576000, .bool true]) ∧ Below w.heap.size w w' := by
  have HV := Lib.hid hv; have HSS := Lib.hid hs; have HIK := Lib.hid ik; have HLL := Lib.hid hl
  clear hv hs ik hl
  obtain ⟨av, cap, rfl, _⟩ := q_form HV.out
  have hb0 := (Below.refl w.heap.size w).alloc (Nat.le_refl _) (.cells (CGc a b (.slice av ts.length cap) 0 k) 48)
  have hne : ¬ ((ts.length : Int) = 0) := by have := HLL.out; omega
  go_enter Try.func33, Try.ntmps33
  go_wp2_with fail
  generalize w.alloc (.cells (CGc a b (.slice av ts.length cap) 0 k) 48) = w1 at hb0 ⊢
  have HB1 := Lib.hid hb0
  clear hb0 hne
  have hb2 := (Below.refl w1.heap.size w1).alloc (Nat.le_refl _) (.cells (CGc a b (.slice av ts.length cap) 0 k) 48)
  have HZ2 := Lib.hid (heap_alloc_new w1 (.cells (CGc a b (.slice av ts.length cap) 0 k) 48))
  have HS2 := Lib.hid (show w1.heap.size < (w1.alloc (.cells (CGc a b (.slice av ts.length cap) 0 k) 48)).heap.size by simp)
  have HB2 := Lib.hid (HB1.out.trans (hb2.mono HB1.out.size))
  clear hb2
  have HM1 : Calls Try.prog 101 #[CG a b (.slice av ts.length cap) 0 k, .func (.func 102) #[] #[]] w1 fun e w' => e = .returned (.tuple #[.float .f32 1048576000, .bool true]) ∧ Below w.heap.size w w' := by
    go_enter Try.func101, Try.ntmps101
    go_wp2_with fail
    generalize w1.alloc (.cells (CGc a b (.slice av ts.length cap) 0 k) 48) = w2 at HB2 HZ2 HS2 ⊢
    refine (iVC_pq B a b _ ts 0 k _ (r4_below HV.out HB2.out) HSS.out.ok (by have := HLL.out; omega) num_zero HIK.out (by unfold gridOk; exact decide_eq_true ⟨ha, by omega, hb, by omega⟩)).mono ?_
    rintro e w3 ⟨rfl, hb3⟩
    have HB3 := Lib.hid (HB2.out.trans (hb3.mono HB2.out.size))
    obtain ⟨q0, q1, q2, q3, q4⟩ := five_cells ((hb3.block w1.heap.size HS2.out).trans HZ2.out)
    clear hb3
    go_wp2_with fail
    refine (iTemp_str a b B _ ts k c _ (r4_below HV.out HB3.out) HSS.out h0 h1 HLL.out).mono ?_
    rintro e w4 ⟨rfl, hb4⟩
    have HB4 := Lib.hid (HB3.out.trans (hb4.mono HB3.out.size))
    clear hb4
    go_wp2_with fail
    go_ret2
    exact ⟨rfl, HB4.out⟩
  refine HM1.mono ?_
  rintro e w4 ⟨rfl, hb4⟩
  have HB4 := Lib.hid hb4
  clear hb4 HM1
  go_wp2_with fail
  go_ret2
  exact ⟨rfl, HB4.out⟩

set_option maxHeartbeats 1000000 in
set_option maxRecDepth 100000 in
theorem iKinOf_str (a b : Int) (ha : 4 ≤ a) (ha' : a ≤ 7) (hb : 4 ≤ b) (hb' : b ≤ 7) (B : Nat) (v : Value) (ts : List Pq) (k : Nat) (c : Nat) (w : World) (hv : QOwn B w v ts) (hs : Stream ts) (ik : Num k) (h0 : 1 ≤ c) (h1 : c ≤ 8) (hl : ts.length = 2 * c) :
    Calls Try.prog 34 #[CG a b v 0 k] w fun e w' => (∃ r, e = .returned (.tuple #[.float .f32 r, .bool true]) ∧ Dy .f32 146 r ts.length) ∧ Below w.heap.size w w' := by
  have HV := Lib.hid hv; have HSS := Lib.hid hs; have HIK := Lib.hid ik; have HLL := Lib.hid hl
  clear hv hs ik hl
  obtain ⟨av, cap, rfl, _⟩ := q_form HV.out
  have hb0 := (Below.refl w.heap.size w).alloc (Nat.le_refl _) (.cells (CGc a b (.slice av ts.length cap) 0 k) 48)
  have hne : ¬ ((ts.length : Int) = 0) := by have := HLL.out; omega
  go_enter Try.func34, Try.ntmps34
  go_wp2_with fail
  generalize w.alloc (.cells (CGc a b (.slice av ts.length cap) 0 k) 48) = w1 at hb0 ⊢
  have HB1 := Lib.hid hb0
  clear hb0 hne
  have hb2 := (Below.refl w1.heap.size w1).alloc (Nat.le_refl _) (.cells (CGc a b (.slice av ts.length cap) 0 k) 48)
  have HZ2 := Lib.hid (heap_alloc_new w1 (.cells (CGc a b (.slice av ts.length cap) 0 k) 48))
  have HS2 := Lib.hid (show w1.heap.size < (w1.alloc (.cells (CGc a b (.slice av ts.length cap) 0 k) 48)).heap.size by simp)
  have HB2 := Lib.hid (HB1.out.trans (hb2.mono HB1.out.size))
  clear hb2
  have HM1 : Calls Try.prog 101 #[CG a b (.slice av ts.length cap) 0 k, .func (.func 103) #[] #[]] w1 fun e w' => (∃ r, e = .returned (.tuple #[.float .f32 r, .bool true]) ∧ Dy .f32 146 r ts.length) ∧ Below w.heap.size w w' := by
    go_enter Try.func101, Try.ntmps101
    go_wp2_with fail
    generalize w1.alloc (.cells (CGc a b (.slice av ts.length cap) 0 k) 48) = w2 at HB2 HZ2 HS2 ⊢
    refine (iVC_pq B a b _ ts 0 k _ (r4_below HV.out HB2.out) HSS.out.ok (by have := HLL.out; omega) num_zero HIK.out (by unfold gridOk; exact decide_eq_true ⟨ha, by omega, hb, by omega⟩)).mono ?_
    rintro e w3 ⟨rfl, hb3⟩
    have HB3 := Lib.hid (HB2.out.trans (hb3.mono HB2.out.size))
    obtain ⟨q0, q1, q2, q3, q4⟩ := five_cells ((hb3.block w1.heap.size HS2.out).trans HZ2.out)
    clear hb3
    go_wp2_with fail
    refine (iKinetic_str a b B _ ts k _ (r4_below HV.out HB3.out) HSS.out (by have := HLL.out; omega)).mono ?_
    rintro e w4 ⟨⟨r, rfl, hk⟩, hb4⟩
    have HB4 := Lib.hid (HB3.out.trans (hb4.mono HB3.out.size))
    clear hb4
    go_wp2_with fail
    go_ret2
    exact ⟨⟨_, rfl, hk⟩, HB4.out⟩
  refine HM1.mono ?_
  rintro e w4 ⟨⟨r, rfl, hk⟩, hb4⟩
  have HB4 := Lib.hid hb4
  clear hb4 HM1
  go_wp2_with fail
  go_ret2
  exact ⟨⟨_, rfl, hk⟩, HB4.out⟩
end Go.Proofs.Ytnknhfhllifnhaa
