/-
  The matrix of a line, of the program.
-/
import Derived.Test.YtpnmledanloboaaPrt
import Derived.Test.YtpnmledanloboaaMatT
import Derived.Test.YtpnmledanloboaaRegB
namespace Go.Proofs.Ytpnmledanloboaa
open Go.Fl Go.RowKit
set_option linter.unusedSimpArgs false
set_option linter.unusedVariables false

def idF (j : Nat) : Nat := if j = 0 ∨ j = 3 then 1065353216 else 0
/-- The matrix of an element. -/
def matP (t : El) (j : Nat) : Nat := if t.k = 0 then (if j = 1 then t.N else idF j) else if t.k = 1 then (if j = 2 then fop .quo .f32 3212836864 t.N else idF j) else idF j
/-- That of the first k elements. -/
def lineM (ts : List El) : Nat → Nat → Nat
  | 0 => idF
  | k + 1 => timesF (matP (ts.getD k ZE)) (lineM ts k)
theorem is_one : Is .f32 1065353216 1065353216 := Is.const (by decide +kernel)
theorem is_mone : Is .f32 3212836864 3212836864 := Is.const (by decide +kernel)
theorem is_nil : Is .f32 0 0 := Is.const rfl
theorem id4 : Is4 1065353216 0 0 1065353216 idF := ⟨is_one, is_nil, is_nil, is_one⟩

theorem run_ta_no {P : Program} {t asserted xT : TypeId} {z : Value} (hu : P.underlying asserted = some (.float .f32)) (hne : t ≠ asserted) (hz : (P.info? asserted).map (·.zero) = some (some z)) (v : Value) (w : World) :
    (Instr.typeAssert (.iface t v) xT asserted true).run P w = .ok (.tuple #[z, .bool false]) w := by
  obtain ⟨j, hj, hz'⟩ := Option.map_eq_some_iff.1 hz
  simp [Instr.typeAssert, run_underlying hu, hne, zeroValue, typeInfo, hj, hz']
theorem run_ta_yes {P : Program} {t xT : TypeId} (hu : P.underlying t = some (.float .f32)) (v : Value) (w : World) : (Instr.typeAssert (.iface t v) xT t true).run P w = .ok (.tuple #[v, .bool true]) w := by
  simp [Instr.typeAssert, run_underlying hu]
theorem z32d : (Try.prog.info? 95).map (·.zero) = some (some (.float .f32 0)) := by kernel_rfl
theorem z32l : (Try.prog.info? 96).map (·.zero) = some (some (.float .f32 0)) := by kernel_rfl

set_option maxHeartbeats 1000000 in
set_option maxRecDepth 100000 in
theorem iMat1_any (t : El) (ht : t.ok) (w : World) : Calls Try.prog 104 #[partV t] w fun e w' => (∃ a b c d, e = .returned (MV a b c d) ∧ Is4 a b c d (matP t)) ∧ Below w.heap.size w w' := by
  have iN := ht.iN
  have IM := is_mone
  have HRES := Lib.hid (show Try.f104.results = #[.cell 2 78] by kernel_rfl)
  have td0 : ∀ v w, (Instr.typeAssert (.iface 95 v) 94 95 true).run Try.prog w = .ok (.tuple #[v, .bool true]) w := run_ta_yes Try.underlying95
  have tl0 : ∀ v w, (Instr.typeAssert (.iface 96 v) 94 96 true).run Try.prog w = .ok (.tuple #[v, .bool true]) w := run_ta_yes Try.underlying96
  have tl1 : ∀ v w, (Instr.typeAssert (.iface 96 v) 94 95 true).run Try.prog w = .ok (.tuple #[.float .f32 0, .bool false]) w := run_ta_no Try.underlying95 (by decide) z32d
  have ta1 : ∀ v w, (Instr.typeAssert (.iface 151 v) 94 95 true).run Try.prog w = .ok (.tuple #[.float .f32 0, .bool false]) w := run_ta_no Try.underlying95 (by decide) z32d
  have tk1 : ∀ v w, (Instr.typeAssert (.iface 97 v) 94 95 true).run Try.prog w = .ok (.tuple #[.float .f32 0, .bool false]) w := run_ta_no Try.underlying95 (by decide) z32d
  have tr1 : ∀ v w, (Instr.typeAssert (.iface 99 v) 94 95 true).run Try.prog w = .ok (.tuple #[.float .f32 0, .bool false]) w := run_ta_no Try.underlying95 (by decide) z32d
  have ta2 : ∀ v w, (Instr.typeAssert (.iface 151 v) 94 96 true).run Try.prog w = .ok (.tuple #[.float .f32 0, .bool false]) w := run_ta_no Try.underlying96 (by decide) z32l
  have tk2 : ∀ v w, (Instr.typeAssert (.iface 97 v) 94 96 true).run Try.prog w = .ok (.tuple #[.float .f32 0, .bool false]) w := run_ta_no Try.underlying96 (by decide) z32l
  have tr2 : ∀ v w, (Instr.typeAssert (.iface 99 v) 94 96 true).run Try.prog w = .ok (.tuple #[.float .f32 0, .bool false]) w := run_ta_no Try.underlying96 (by decide) z32l
  by_cases e0 : t.k = 0
  · have hp : partV t = .iface 95 (.float .f32 t.n) := by unfold partV; rw [if_pos e0]
    have hm : Is4 1065353216 t.n 0 1065353216 (matP t) := by
      refine ⟨?_, ?_, ?_, ?_⟩ <;> unfold matP <;> rw [if_pos e0] <;> first | exact is_one | exact iN | exact is_nil
    rw [hp]
    have HM := Lib.hid hm
    clear hm hp
    go_enter Try.func104, Try.ntmps104
    go_wp2_with fail
    refine bodyPost_ret (v := MV 1065353216 t.n 0 1065353216) ?_ rfl ?_
    · have hres := HRES.out
      simp only [results, hres]; go_simp
    exact ⟨⟨_, _, _, _, rfl, HM.out⟩, (Below.refl w.heap.size w).alloc (Nat.le_refl _) _⟩
  · by_cases e1 : t.k = 1
    · have hp : partV t = .iface 96 (.float .f32 t.n) := by unfold partV; rw [if_neg e0, if_pos e1]
      have hm : ∀ r, Is .f32 r (fop .quo .f32 3212836864 t.N) → Is4 1065353216 0 r 1065353216 (matP t) := fun r hr => by
        refine ⟨?_, ?_, ?_, ?_⟩ <;> unfold matP <;> rw [if_neg e0, if_pos e1] <;> first | exact is_one | exact is_nil | exact hr
      rw [hp]
      have HM := Lib.hid hm
      clear hm hp
      go_enter Try.func104, Try.ntmps104
      go_wp2_with ((apply wpList_farith; rfl; rfl; rfl; rfl; (first | with_reducible assumption | exact Is.const rfl); (first | with_reducible assumption | exact Is.const rfl); intro r n hr); have HM1 := Lib.hid (HM.out _ hr); clear hr; generalize r = rq at HM1 ⊢)
      refine bodyPost_ret (v := MV 1065353216 0 rq 1065353216) ?_ rfl ?_
      · have hres := HRES.out
        simp only [results, hres]; go_simp
      exact ⟨⟨_, _, _, _, rfl, HM1.out⟩, ((((below_drewN ((Below.refl w.heap.size w).alloc (Nat.le_refl _) _) _).setCell (p := ⟨w.heap.size, 0, none⟩) (Nat.le_refl _) _).setCell (p := ⟨w.heap.size, 1, none⟩) (Nat.le_refl _) _).setCell (p := ⟨w.heap.size, 2, none⟩) (Nat.le_refl _) _).setCell (p := ⟨w.heap.size, 3, none⟩) (Nat.le_refl _) _⟩
    · have hm : Is4 1065353216 0 0 1065353216 (matP t) := by
        refine ⟨?_, ?_, ?_, ?_⟩ <;> unfold matP <;> rw [if_neg e0, if_neg e1] <;> first | exact is_one | exact is_nil
      have HM := Lib.hid hm
      clear hm
      have hp : partV t = .iface 151 (.float .f32 t.n) ∨ partV t = .iface 97 (.float .f32 t.n) ∨ partV t = .iface 99 (.agg #[.float .f32 t.n, .float .f32 t.p]) := by
        unfold partV; rw [if_neg e0, if_neg e1]
        split
        · exact .inl rfl
        · split
          · exact .inr (.inl rfl)
          · exact .inr (.inr rfl)
      rcases hp with hp | hp | hp <;> rw [hp] <;> clear hp
      · go_enter Try.func104, Try.ntmps104
        go_wp2_with fail
        refine bodyPost_ret (v := MV 1065353216 0 0 1065353216) ?_ rfl ?_
        · have hres := HRES.out
          simp only [results, hres]; go_simp
        exact ⟨⟨_, _, _, _, rfl, HM.out⟩, (Below.refl w.heap.size w).alloc (Nat.le_refl _) _⟩
      · go_enter Try.func104, Try.ntmps104
        go_wp2_with fail
        refine bodyPost_ret (v := MV 1065353216 0 0 1065353216) ?_ rfl ?_
        · have hres := HRES.out
          simp only [results, hres]; go_simp
        exact ⟨⟨_, _, _, _, rfl, HM.out⟩, (Below.refl w.heap.size w).alloc (Nat.le_refl _) _⟩
      · go_enter Try.func104, Try.ntmps104
        go_wp2_with fail
        refine bodyPost_ret (v := MV 1065353216 0 0 1065353216) ?_ rfl ?_
        · have hres := HRES.out
          simp only [results, hres]; go_simp
        exact ⟨⟨_, _, _, _, rfl, HM.out⟩, (Below.refl w.heap.size w).alloc (Nat.le_refl _) _⟩

theorem times_ext {m n m' n' : Nat → Nat} (h : ∀ j, m j = m' j) (k : ∀ j, n j = n' j) : timesF m n = timesF m' n' := by
  rw [show m = m' from funext h, show n = n' from funext k]
theorem hstep_storeM {P : Program} {ops : Array Oper} {o : Oper} {a : Act} {w : World} {K : Act → World → Prop} {Q : Exit → Act → World → Prop} {E : Prop} (hgd : o.guard = none) (ty : TypeId) (x y : Operand) (ho : o.op = .store ty x y)
    (g : Nat) (cells : Array Value) (hx : a.eval x = .pointer (some ⟨g, 0, none⟩)) (hy : a.eval y = .agg cells)
    (t : TypeId) (old : Array Value) (hg : w.heap[g]? = some (.cells old t (0, 0))) (hi : (P.info? ty).map (·.size) = some cells.size)
    (hold : old.size = cells.size) (h1 : cells.all (·.oneCell') = true)
    (h : K (a.put o.dst undef) (w.setRow g cells)) : if Region.wanted o (yielded ops a.tmps) = true then Oper.wp P o a w K Q else E := by
  have hw : Region.wanted o (yielded ops a.tmps) = true := by simp [Region.wanted, hgd]
  rw [if_pos hw]
  exact wp_store_row ty x y ho g cells hx hy t old hg hi hold h1 h
def LineRes (w w' : World) (e : Ending) (ts : List El) (q : Bool) : Prop := (∃ a b c d, e = .returned (.tuple #[MV a b c d, .bool q]) ∧ (q = true → Is4 a b c d (lineM ts ts.length)) ∧ (q = false → (a = 0 ∧ b = 0 ∧ c = 0 ∧ d = 0))) ∧ Below w.heap.size w w'
set_option maxHeartbeats 2000000 in
set_option maxRecDepth 100000 in
theorem iLine_any (B : Nat) (v : Value) (ts : List El) (w : World) (hv : EOwn B w v ts) (h : oksE ts) (hn : ts.length ≤ 1048576) : Calls Try.prog 72 #[v] w fun e w' => LineRes w w' e ts (okLine ts) := by
  have HRES := Lib.hid (show Try.f72.results = #[.cell 2 78, .tmp 3] by kernel_rfl)
  have HB0 := Lib.hid ((Below.refl w.heap.size w).alloc (Nat.le_refl _) (MO 0 0 0 0))
  have HZ0 := Lib.hid (heap_alloc_new w (MO 0 0 0 0))
  have HV := Lib.hid (e_below hv ((Below.refl w.heap.size w).alloc (Nat.le_refl _) (MO 0 0 0 0))); have HO := Lib.hid h
  have HS0 := Lib.hid (show (w.alloc (MO 0 0 0 0)).heap.size = w.heap.size + 1 by simp)
  clear hv h
  obtain ⟨q, hq⟩ : ∃ q, okLine ts = q := ⟨_, rfl⟩
  rw [hq]
  have HQ := Lib.hid hq
  clear hq
  go_enter Try.func72, Try.ntmps72
  go_wp2_with fail
  generalize w.alloc (MO 0 0 0 0) = w1 at HB0 HZ0 HV HS0 ⊢
  refine (iParts_any B v ts _ HV.out HO.out hn).mono ?_
  rw [HQ.out]
  rintro e w2 hp
  unfold PartsRes at hp
  obtain ⟨⟨u, rfl, hu⟩, hb2⟩ := hp
  have HU := Lib.hid hu
  have HB2 := Lib.hid (HB0.out.trans (hb2.mono HB0.out.size))
  have HZ2 := Lib.hid ((hb2.block w.heap.size (by rw [HS0.out]; omega)).trans HZ0.out)
  have HS2 := Lib.hid (show w.heap.size < w2.heap.size from Nat.lt_of_lt_of_le (by rw [HS0.out]; omega) hb2.size)
  clear hu hb2
  cases q with
  | false =>
    go_wp2_with ((with_reducible show wpList _ _ _ (Oper.mk none (Op.store _ _ _) _ _ _ _ :: _) _ _); refine wpList_store_row rfl 78 _ _ rfl w.heap.size (MC 0 0 0 0) rfl rfl 78 _ HZ2.out info_m4 rfl (mone _ _ _ _) ?_)
    have HZ3 := Lib.hid (setRow_heap w2 w.heap.size _ (MC 0 0 0 0) _ _ HZ2.out)
    refine bodyPost_ret (v := .tuple #[MV 0 0 0 0, .bool false]) ?_ rfl ?_
    · have z0 : (w2.setRow w.heap.size (MC 0 0 0 0)).cell? ⟨w.heap.size, 0, none⟩ = some (.float .f32 0) := by rw [Joins.cell_of_block HZ3.out]; rfl
      have z1 : (w2.setRow w.heap.size (MC 0 0 0 0)).cell? ⟨w.heap.size, 1, none⟩ = some (.float .f32 0) := by rw [Joins.cell_of_block HZ3.out]; rfl
      have z2 : (w2.setRow w.heap.size (MC 0 0 0 0)).cell? ⟨w.heap.size, 2, none⟩ = some (.float .f32 0) := by rw [Joins.cell_of_block HZ3.out]; rfl
      have z3 : (w2.setRow w.heap.size (MC 0 0 0 0)).cell? ⟨w.heap.size, 3, none⟩ = some (.float .f32 0) := by rw [Joins.cell_of_block HZ3.out]; rfl
      have hres := HRES.out
      simp only [results, hres]; go_simp
    · unfold LineRes
      refine ⟨⟨0, 0, 0, 0, rfl, ?_, ?_⟩, below_setRow HB2.out (Nat.le_refl _) _⟩
      · intro h; cases h
      · intro _; exact ⟨rfl, rfl, rfl, rfl⟩
  | true => 
    obtain ⟨a0, cap0, rfl, hf⟩ := po_form (HU.out rfl)
    have HP := Lib.hid (HU.out rfl)
    have HL32 := Lib.hid (okLine_len HQ.out)
    go_wp2_with fail
    have HB3 := Lib.hid (HB2.out.alloc HB2.out.size (MO 1065353216 0 0 1065353216))
    have HX3 := Lib.hid ((Below.refl w2.heap.size w2).alloc (Nat.le_refl _) (MO 1065353216 0 0 1065353216))
    have HM3 := Lib.hid (heap_alloc_new w2 (MO 1065353216 0 0 1065353216))
    go_loopw [20] (fun i wr => ∃ k : Nat, k ≤ ts.length ∧ i = .int .i64 k ∧ Hid (Below w.heap.size w wr) ∧ Hid (Below w2.heap.size w2 wr) ∧ ∃ a b c d, Hid (wr.heap[w2.heap.size]? = some (MO a b c d)) ∧ Hid (Is4 a b c d (lineM ts k))) (fun i _ => ts.length - (intOf i).toNat)
    case atStart => exact ⟨0, Nat.zero_le _, rfl, HB3, HX3, _, _, _, _, HM3, Lib.hid id4⟩
    case round =>
      clear HB3 HX3 HM3
      obtain ⟨k, hk, rfl, HB, HX, a, b, c, d, HM, HI⟩ := hrel
      by_cases hlt : k < ts.length
      · rcases hf with hf | ⟨g, rfl, hg1, hg2⟩
        · subst hf; simp at hlt
        have HT := Lib.hid (oksE_at HO.out hlt)
        have p0 := po_cell (po_below HP.out HX.out) hlt
        have HSU := Lib.hid (show lineM ts (k + 1) = timesF (matP ts[k]) (lineM ts k) from by simp [lineM, List.getD, hlt])
        generalize ts[k] = t at HT p0 HSU
        have c0 : wr.cell? ⟨w2.heap.size, 0, none⟩ = some (.float .f32 a) := by rw [Joins.cell_of_block HM.out]; rfl
        have c1 : wr.cell? ⟨w2.heap.size, 1, none⟩ = some (.float .f32 b) := by rw [Joins.cell_of_block HM.out]; rfl
        have c2 : wr.cell? ⟨w2.heap.size, 2, none⟩ = some (.float .f32 c) := by rw [Joins.cell_of_block HM.out]; rfl
        have c3 : wr.cell? ⟨w2.heap.size, 3, none⟩ = some (.float .f32 d) := by rw [Joins.cell_of_block HM.out]; rfl
        have hlu : w2.heap.size < wr.heap.size := (Array.getElem?_eq_some_iff.1 HM.out).1
        have HLU := Lib.hid hlu
        have hd := (Below.refl wr.heap.size wr).drew
        have HD := Lib.hid hd
        have HCC := Lib.hid (show ∀ W, Below wr.heap.size wr W → (W.cell? ⟨w2.heap.size, 0, none⟩ = some (.float .f32 a) ∧ W.cell? ⟨w2.heap.size, 1, none⟩ = some (.float .f32 b) ∧ W.cell? ⟨w2.heap.size, 2, none⟩ = some (.float .f32 c) ∧ W.cell? ⟨w2.heap.size, 3, none⟩ = some (.float .f32 d)) ∧ W.heap[w2.heap.size]? = some (MO a b c d) from fun W hW => by
          have h1 := (hW.block w2.heap.size hlu).trans HM.out
          exact ⟨⟨by rw [Joins.cell_of_block h1]; rfl, by rw [Joins.cell_of_block h1]; rfl, by rw [Joins.cell_of_block h1]; rfl, by rw [Joins.cell_of_block h1]; rfl⟩, h1⟩)
        clear hd hlu
        go_wp2_with fail
        refine wp_region_noPanic ?_
        refine region_runB_drew (S := fun W => W.cell? ⟨w2.heap.size, 0, none⟩ = some (.float .f32 a) ∧ W.cell? ⟨w2.heap.size, 1, none⟩ = some (.float .f32 b) ∧ W.cell? ⟨w2.heap.size, 2, none⟩ = some (.float .f32 c) ∧ W.cell? ⟨w2.heap.size, 3, none⟩ = some (.float .f32 d)) (by kernel_rfl) ⟨c0, c1, c2, c3⟩ (fun hHeld => ?_)
        clear c0 c1 c2 c3 p0
        ((refine runB_take (i := 0) (v := ?_) rfl (by kernel_rfl) (by kernel_rfl) (by kernel_rfl) (by kernel_rfl) (fun _ _ _ h => h) (Or.inl ⟨by rfl, ?_⟩) (by assumption) ?_; rotate_left; (· intro w hSw; (try dsimp only at hSw); go_simp; first | done | with_reducible rfl); (try simp only [List.getElem_toArray, List.getElem_cons_zero, List.getElem_cons_succ, Act.put, List.setIfInBounds_toArray, List.set_cons_zero, List.set_cons_succ])); (refine runB_take (i := 2) (v := ?_) rfl (by kernel_rfl) (by kernel_rfl) (by kernel_rfl) (by kernel_rfl) (fun _ _ _ h => h) (Or.inl ⟨by rfl, ?_⟩) (by assumption) ?_; rotate_left; (· intro w hSw; (try dsimp only at hSw); go_simp; first | done | with_reducible rfl); (try simp only [List.getElem_toArray, List.getElem_cons_zero, List.getElem_cons_succ, Act.put, List.setIfInBounds_toArray, List.set_cons_zero, List.set_cons_succ])))
        (refine runB_next (rs := [1]) (by kernel_rfl) (by simp) ?_; refine NextB.cons (i := 1) rfl (fun K hK => ?_) NextB.nil)
        go_simp
        refine (iMat1_any t HT.out _).mono ?_; rintro e w5 ⟨⟨x0, x1, x2, x3, rfl, h4⟩, hb5⟩
        have H4 := Lib.hid h4
        have HD5 := Lib.hid (HD.out.trans (hb5.mono HD.out.size))
        clear h4 hb5
        go_wp2_with fail
        (refine hK.out _ _ (fun _ => (HCC.out _ HD5.out).1) ?_; clear hK K; (try simp only [List.getElem_toArray, List.getElem_cons_zero, List.getElem_cons_succ, Act.put, List.setIfInBounds_toArray, List.set_cons_zero, List.set_cons_succ]))
        (refine runB_next (rs := [3]) (by kernel_rfl) (by simp) ?_; refine NextB.cons (i := 3) rfl (fun K hK => ?_) NextB.nil)
        go_simp
        refine (iTimes_any x0 x1 x2 x3 a b c d _ _ H4.out HI.out _).mono ?_; rintro e w6 ⟨⟨y0, y1, y2, y3, rfl, h4⟩, hb6⟩
        have H6 := Lib.hid h4
        have HD6 := Lib.hid (HD5.out.trans (hb6.mono HD5.out.size))
        clear h4 hb6
        go_wp2_with fail
        (refine hK.out _ _ (fun _ => (HCC.out _ HD6.out).1) ?_; clear hK K; (try simp only [List.getElem_toArray, List.getElem_cons_zero, List.getElem_cons_succ, Act.put, List.setIfInBounds_toArray, List.set_cons_zero, List.set_cons_succ]))
        have HM6 := Lib.hid (HCC.out _ HD6.out).2
        (refine runB_next (rs := [4]) (by kernel_rfl) (by simp) ?_; refine NextB.cons (i := 4) rfl (fun K hK => ?_) NextB.nil)
        refine hstep_storeM rfl 78 _ _ rfl w2.heap.size (MC y0 y1 y2 y3) rfl rfl 78 _ HM6.out info_m4 rfl (mone _ _ _ _) ?_
        (refine hK.out _ _ (no_due (by kernel_rfl) _) ?_; clear hK K; (try simp only [List.getElem_toArray, List.getElem_cons_zero, List.getElem_cons_succ, Act.put, List.setIfInBounds_toArray, List.set_cons_zero, List.set_cons_succ]))
        (refine runB_done (by kernel_rfl) ?_ _; refine NoPanic.normal ?_)
        clear hHeld
        go_wp2_with fail
        go_roundw
        case rel => exact ⟨k + 1, by omega, by go_num, Lib.hid (below_setRow (HB.out.trans (HD6.out.mono HB.out.size)) (by have := HS2.out; omega) _), Lib.hid (below_setRow (HX.out.trans (HD6.out.mono HX.out.size)) (Nat.le_refl _) _), _, _, _, _, Lib.hid (setRow_heap _ _ _ _ _ _ HM6.out), Lib.hid (by rw [HSU.out]; exact H6.out)⟩
        case measure => simp [intOf]; omega
      · obtain rfl : k = ts.length := by omega
        clear hlt
        have c0 : wr.cell? ⟨w2.heap.size, 0, none⟩ = some (.float .f32 a) := by rw [Joins.cell_of_block HM.out]; rfl
        have c1 : wr.cell? ⟨w2.heap.size, 1, none⟩ = some (.float .f32 b) := by rw [Joins.cell_of_block HM.out]; rfl
        have c2 : wr.cell? ⟨w2.heap.size, 2, none⟩ = some (.float .f32 c) := by rw [Joins.cell_of_block HM.out]; rfl
        have c3 : wr.cell? ⟨w2.heap.size, 3, none⟩ = some (.float .f32 d) := by rw [Joins.cell_of_block HM.out]; rfl
        have HZR := Lib.hid ((HX.out.block w.heap.size HS2.out).trans HZ2.out)
        go_wp2_with ((with_reducible show wpList _ _ _ (Oper.mk none (Op.store _ _ _) _ _ _ _ :: _) _ _); refine wpList_store_row rfl 78 _ _ rfl w.heap.size (MC a b c d) rfl rfl 78 _ HZR.out info_m4 rfl (mone _ _ _ _) ?_)
        have HZ3 := Lib.hid (setRow_heap wr w.heap.size _ (MC a b c d) _ _ HZR.out)
        refine bodyPost_ret (v := .tuple #[MV a b c d, .bool true]) ?_ rfl ?_
        · have z0 : (wr.setRow w.heap.size (MC a b c d)).cell? ⟨w.heap.size, 0, none⟩ = some (.float .f32 a) := by rw [Joins.cell_of_block HZ3.out]; rfl
          have z1 : (wr.setRow w.heap.size (MC a b c d)).cell? ⟨w.heap.size, 1, none⟩ = some (.float .f32 b) := by rw [Joins.cell_of_block HZ3.out]; rfl
          have z2 : (wr.setRow w.heap.size (MC a b c d)).cell? ⟨w.heap.size, 2, none⟩ = some (.float .f32 c) := by rw [Joins.cell_of_block HZ3.out]; rfl
          have z3 : (wr.setRow w.heap.size (MC a b c d)).cell? ⟨w.heap.size, 3, none⟩ = some (.float .f32 d) := by rw [Joins.cell_of_block HZ3.out]; rfl
          have hres := HRES.out
          simp only [results, hres]; go_simp
        · unfold LineRes
          refine ⟨⟨a, b, c, d, rfl, ?_, ?_⟩, below_setRow HB.out (Nat.le_refl _) _⟩
          · intro _; exact HI.out
          · intro h; cases h
end Go.Proofs.Ytpnmledanloboaa
