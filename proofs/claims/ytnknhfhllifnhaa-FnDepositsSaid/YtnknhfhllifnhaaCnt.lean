/-
  How many particles are in each cell.
-/
import Derived.Test.YtnknhfhllifnhaaDepH
namespace Go.Proofs.Ytnknhfhllifnhaa
open Go.Fl Go.RowKit
set_option linter.unusedSimpArgs false
set_option linter.unusedVariables false

theorem I64inf : (Try.prog.info? 2).map (fun i => (i.zero, i.size, i.bytes)) = some (some (.int .i64 0), 1, 8) := by kernel_rfl
/-- A list of n integers of the call's own. -/
def IR (B : Nat) (w : World) (g n : Nat) (xs : List Int) : Prop := xs.length = n ∧ w.ownsRow B 2 1 (.slice (some ⟨g, 0, none⟩) n n) n (xs.map (Value.int .i64))
theorem IR.at {B g n : Nat} {w : World} {xs : List Int} (h : IR B w g n xs) {j : Nat} (hj : j < n) : w.cell? ⟨g, j, none⟩ = some (.int .i64 (xs.getD j 0)) := by
  rw [h.2.cellAt j (by omega), List.getElem?_map, List.getElem?_eq_getElem (by rw [h.1]; exact hj)]
  simp [List.getD, List.getElem?_eq_getElem (show j < xs.length by rw [h.1]; exact hj)]
theorem IR.frozen {B g n : Nat} {w : World} {xs : List Int} (h : IR B w g n xs) (j : Nat) : w.frozen? ⟨g, j, none⟩ = false := h.2.frozenAt j
theorem IR.put {B g n : Nat} {w : World} {xs : List Int} (h : IR B w g n xs) {j : Nat} (hj : j < n) (r : Int) : IR B (w.setCell ⟨g, j, none⟩ (.int .i64 r)) g n (xs.set j r) ∧ w.grownBy (w.setCell ⟨g, j, none⟩ (.int .i64 r)) (some g) := by
  obtain ⟨h1, g1⟩ := h.2.stored j (.int .i64 r)
  exact ⟨⟨by rw [List.length_set]; exact h.1, by rw [List.map_set]; exact h1⟩, g1⟩
theorem IR.kept {B g n : Nat} {w w' : World} {xs : List Int} (h : IR B w g n xs) (hb : Below w.heap.size w w') : IR B w' g n xs :=
  ⟨h.1, World.ownsRow.kept h.2 (grown_below (row := none) hb) (.inr (by simp [Value.ownBlock]))⟩
def InL (xs : List Int) (F : Nat → Int) : Prop := ∀ j, j < xs.length → xs.getD j 0 = F j
theorem InL.put {xs : List Int} {F G : Nat → Int} {i : Nat} {v : Int} (h : InL xs F) (hi : i < xs.length) (hG : ∀ j, G j = F j + at1 i v j) : InL (xs.set i (F i + v)) G := by
  intro j hj
  rw [List.length_set] at hj
  rw [hG, List.getD_eq_getElem?_getD, List.getElem?_set]
  unfold at1
  by_cases e : i = j
  · subst e
    rw [if_pos rfl, if_pos hi, if_pos rfl]
    rfl
  · rw [if_neg e, if_neg (by omega), Int.add_zero, ← List.getD_eq_getElem?_getD]
    exact h j hj
theorem cnt_in {a b : Int} (t : Pt) (j : Nat) : -1 ≤ cntAt a b j t ∧ cntAt a b j t ≤ 1 := at1_in (by omega)

set_option maxHeartbeats 2000000 in
set_option maxRecDepth 100000 in
theorem iCount_pt (a b : Int) (ha : 4 ≤ a) (ha' : a ≤ 7) (hb : 4 ≤ b) (hb' : b ≤ 7) (B : Nat) (v : Value) (ts : List Pt) (w : World) (hv : POwn B w v ts) (h : oks ts) (hn : ts.length ≤ 64) :
    Calls Try.prog 19 #[GV a b, v] w fun e w' => (∃ g n xs, e = .returned (.tuple #[.slice (some ⟨g, 0, none⟩) n n, .bool true]) ∧ IR w.heap.size w' g n xs ∧ (n : Int) = a * b ∧ InL xs (fun j => sumI (cntAt a b j) ts ts.length)) ∧ Below w.heap.size w w' := by
  obtain ⟨ti, hi, hz0, hz1, hz2⟩ := info_parts I64inf
  obtain ⟨av, cap, rfl, hf⟩ := p_form hv
  have HV := Lib.hid hv; have HO := Lib.hid h
  have hm1 : a * b ≤ 7 * 7 := Int.mul_le_mul ha' hb' (by omega) (by omega)
  have hm0 : 4 * 4 ≤ a * b := Int.mul_le_mul ha hb (by omega) (by omega)
  obtain ⟨n, hnn⟩ := Int.eq_ofNat_of_zero_le (show 0 ≤ a * b by omega)
  have hw1 : IntKind.i64.wrap (a * b) = (n : Int) := by rw [wrap_i64, hnn]; exact wrap64_of (by omega) (by omega)
  have hN : 16 ≤ n ∧ n ≤ 49 := by omega
  have HW := Lib.hid hw1; have HNN := Lib.hid hnn
  have hb4 : ti.bytes * n ≤ 281474976710656 := by rw [hz2]; omega
  have hml : n ≤ maxLen := by unfold maxLen; omega
  have HI := Lib.hid hi; have HZ0 := Lib.hid hz0; have HZ1 := Lib.hid hz1
  have HP := Lib.hid (gp_new w a b 25)
  have HB0 := Lib.hid ((Below.refl w.heap.size w).alloc (Nat.le_refl _) (.cells #[.int .i64 a, .int .i64 b] 25))
  have HZG := Lib.hid (show w.heap.size < (w.alloc (.cells #[.int .i64 a, .int .i64 b] 25)).heap.size by simp)
  clear hv h hi hz0 hz1 hz2 hm1 hm0 hw1 hnn
  go_enter Try.func19, Try.ntmps19
  go_wp2_with fail
  generalize w.alloc (.cells #[.int .i64 a, .int .i64 b] 25) = v1 at HP HB0 HZG ⊢
  refine (iValidGrid_any a b _).mono ?_
  rintro e v2 ⟨rfl, h2⟩
  rw [small_grid ha ha' hb hb']
  have HB2 := Lib.hid (HB0.out.trans (h2.mono HB0.out.size)); have HP2 := Lib.hid (HP.out.below h2); have HZG2 := Lib.hid (Nat.lt_of_lt_of_le HZG.out h2.size)
  clear h2 HP HB0 HZG
  go_wp2_with fail
  refine (iAre_pt B _ ts _ (r4_below HV.out HB2.out) HO.out hn).mono ?_
  rintro e v3 ⟨rfl, h3⟩
  have HB3 := Lib.hid (HB2.out.trans (h3.mono HB2.out.size)); have HP3 := Lib.hid (HP2.out.below h3); have HZG3 := Lib.hid (Nat.lt_of_lt_of_le HZG2.out h3.size)
  clear h3 HP2 HB2 HZG2
  obtain ⟨g0, g1⟩ := HP3.out.cells
  go_wp2_with fail
  refine (pointsOf_any a b _).mono ?_
  rintro e v4 ⟨rfl, h4⟩
  rw [HW.out]
  have HB4 := Lib.hid (HB3.out.trans (h4.mono HB3.out.size)); have HP4 := Lib.hid (HP3.out.below h4); have HZG4 := Lib.hid (Nat.lt_of_lt_of_le HZG3.out h4.size)
  clear h4 HP3 HB3 g0 g1 HZG3
  go_wp2_with (at_make; refine wpList_make_full _ rfl _ _ 41 rfl w.heap.size 2 ti (.int .i64 0) 1 Try.underlying41 HI.out HZ0.out HZ1.out _ _ _ _ n rfl rfl rfl rfl hb4 hml HB4.out.size ?_; intro v5 hown hgrow)
  rw [Nat.mul_one, show (madeCells (Value.int .i64 0).cells n).toList = (List.replicate n (0 : Int)).map (Value.int .i64) by rw [List.map_replicate]; exact toList_madeCells_one _ _] at hown
  have HR0 := Lib.hid (show IR w.heap.size v5 v4.heap.size n (List.replicate n 0) from ⟨by simp, hown⟩)
  have HB5 := Lib.hid (HB4.out.grown hgrow HB4.out.size (fun k h => by cases h))
  have HP5 := Lib.hid (HP4.out.below (Below.grown (Below.refl v4.heap.size v4) hgrow (Nat.le_refl _) (fun k h => by cases h)))
  have HGF := Lib.hid (show w.heap.size < v4.heap.size from HZG4.out)
  have HDY0 := Lib.hid (show InL (List.replicate n 0) (fun j => sumI (cntAt a b j) ts 0) from fun j hj => by
    rw [List.length_replicate] at hj
    show _ = sumI (cntAt a b j) ts 0
    rw [show sumI (cntAt a b j) ts 0 = 0 by simp [sumI], List.getD_eq_getElem?_getD, List.getElem?_replicate, if_pos hj]
    rfl)
  clear hown hgrow hb4 hml HI HZ0 HZ1 HB4 HP4 HZG4
  generalize v4.heap.size = gf at HR0 HGF ⊢
  have HVF := Lib.hid (fun w' (G : v5.grownBy w' (some gf)) => (show POwn B w' (.slice av ts.length cap) ts from by
    have h5 := r4_below HV.out HB5.out
    refine World.ownsRow.kept h5 G ?_
    rcases hf with rfl | ⟨g, rfl, _, hg⟩
    · rcases h5.2 with ⟨h6, _⟩ | ⟨g, _, _, h6, h7, _⟩
      · exact .inl (by rw [h6]; rfl)
      · have hl := HV.out.lt
        rw [h6] at hl ⊢
        exact .inr (fun e => by have := (hl g rfl).2; have h8 : g = gf := Option.some.inj e; have := HGF.out; omega)
    · exact .inr (fun e => by have h8 : g = gf := Option.some.inj e; have := HGF.out; omega)))
  have HPF := Lib.hid (fun w' (G : v5.grownBy w' (some gf)) => (show w'.cell? ⟨w.heap.size, 0, none⟩ = some (.int .i64 a) ∧ w'.cell? ⟨w.heap.size, 1, none⟩ = some (.int .i64 b) from by
    have hx := HGF.out
    obtain ⟨e0, e1⟩ := HP5.out.cells
    exact ⟨by rw [cell_grown G (block_lt_of_cell e0) (by show w.heap.size ≠ gf; omega)]; exact e0, by rw [cell_grown G (block_lt_of_cell e1) (by show w.heap.size ≠ gf; omega)]; exact e1⟩))
  have HSL := Lib.hid (fun j k (hk : k ≤ ts.length) => sumI_le (cntAt a b j) ts 1 (fun t ht => cnt_in t j) k hk)
  go_wp2_with fail
  go_loopw [22] (fun i wr => ∃ k : Nat, k ≤ ts.length ∧ i = .int .i64 k ∧ Hid (v5.grownBy wr (some gf)) ∧ ∃ xs, Hid (IR w.heap.size wr gf n xs) ∧ Hid (InL xs (fun j => sumI (cntAt a b j) ts k))) (fun i _ => ts.length - (intOf i).toNat)
  case atStart => exact ⟨0, Nat.zero_le _, rfl, Lib.hid (grown_refl _ _), _, HR0, HDY0⟩
  case round =>
    clear HR0 HDY0
    obtain ⟨k, hk, rfl, HG, xs, HR, HDY⟩ := hrel
    by_cases hlt : k < ts.length
    · rcases hf with hf | ⟨g, rfl, _, _⟩
      · subst hf; simp at hlt
      obtain ⟨c0, c1, c2, c3⟩ := p_cells (HVF.out _ HG.out) hlt
      have HT := Lib.hid (oks_at HO.out hlt)
      have HSX := Lib.hid (fun j => sumI_succ (cntAt a b j) ts hlt)
      generalize ts[k] = t at c0 c1 c2 c3 HT HSX
      have hn' := HT.out.n0; have hn'' := HT.out.n1; have hm' := HT.out.m0; have hm'' := HT.out.m1
      have HR1 := Lib.hid (HR.out.kept ((Below.refl wr.heap.size wr).alloc (Nat.le_refl _) (.cells #[.complex .f32 (E8 t.n) (E8 t.m), .complex .f32 t.x t.y, .float .f32 (E8 t.c), .float .f32 (E8 t.s)] 57)))
      have HG1 := Lib.hid (grown_trans HG.out (grown_below (row := some gf) ((Below.refl wr.heap.size wr).alloc (Nat.le_refl _) (.cells #[.complex .f32 (E8 t.n) (E8 t.m), .complex .f32 t.x t.y, .float .f32 (E8 t.c), .float .f32 (E8 t.s)] 57))))
      obtain ⟨g0, g1⟩ := HPF.out _ HG1.out
      go_wp2_with fail
      generalize wr.alloc (.cells #[.complex .f32 (E8 t.n) (E8 t.m), .complex .f32 t.x t.y, .float .f32 (E8 t.c), .float .f32 (E8 t.s)] 57) = w1 at HR1 HG1 ⊢
      clear c0 c1 c2 c3 g0 g1 HR HG
      refine (iCellIn_e8 a b ha ha' hb hb' t.n t.m hn' hn'' hm' hm'' _).mono ?_
      rintro e w2 ⟨rfl, h2⟩
      have HR2 := Lib.hid (HR1.out.kept h2); have HG2 := Lib.hid (grown_trans HG1.out (grown_below (row := some gf) h2))
      clear h2 HR1 HG1
      have q0 := cornIx_in (a := a) (b := b) (x := t.n % (8 * a) / 8) (y := t.m % (8 * b) / 8) ha hb
      obtain ⟨i0, e0⟩ := Int.eq_ofNat_of_zero_le q0.1
      have hcnt : ∀ j, cntAt a b j t = at1 i0 1 j := fun j => by unfold cntAt; rw [e0]
      rw [e0] at q0 ⊢
      have hnn := HNN.out
      have hi0 : i0 < n := by omega
      have hj : (i0 : Int) < (n : Int) := by omega
      have hj0 : (0 : Int) ≤ (i0 : Int) := Int.natCast_nonneg _
      have xk := HR2.out.at hi0
      have hf := HR2.out.frozen i0
      have HK1 := Lib.hid (HDY.out i0 (by rw [HR2.out.1]; exact hi0))
      rw [HDY.out i0 (by rw [HR2.out.1]; exact hi0)] at xk
      have hsl := HSL.out i0 k hk
      have PT := HR2.out.put hi0 (sumI (cntAt a b i0) ts k + 1)
      have HR3 := Lib.hid PT.1; have HG3 := Lib.hid (grown_trans HG2.out PT.2)
      have HD3 := Lib.hid (show InL (xs.set i0 (sumI (cntAt a b i0) ts k + 1)) (fun j => sumI (cntAt a b j) ts (k + 1)) from InL.put (F := fun j => sumI (cntAt a b j) ts k) (G := fun j => sumI (cntAt a b j) ts (k + 1)) (v := 1) HDY.out (show i0 < xs.length by rw [HR2.out.1]; exact hi0) (fun j => by show sumI (cntAt a b j) ts (k + 1) = sumI (cntAt a b j) ts k + _; rw [HSX.out j, hcnt j]))
      have hs1 : -64 ≤ sumI (cntAt a b i0) ts k ∧ sumI (cntAt a b i0) ts k ≤ 64 := by omega
      clear PT hcnt e0 q0 hsl hn' hn'' hm' hm'' hnn
      dsimp only at xk
      generalize sumI (cntAt a b i0) ts k = z at xk hs1 HR3 HG3 HD3
      go_wp2_with fail
      go_roundw
      case rel => exact ⟨k + 1, by omega, by go_num, HG3, _, HR3, HD3⟩
      case measure => simp [intOf]; omega
    · obtain rfl : k = ts.length := by omega
      clear hlt
      go_wp2
      go_ret2
      exact ⟨⟨_, _, xs, rfl, HR.out, HNN.out.symm, HDY.out⟩, below_row HB5.out HB5.out.size (Nat.le_of_lt HGF.out) HG.out⟩
end Go.Proofs.Ytnknhfhllifnhaa
