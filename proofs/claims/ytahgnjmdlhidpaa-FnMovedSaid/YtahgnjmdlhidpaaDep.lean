/-
  What particles leave: the program.
-/
import Derived.Test.YtahgnjmdlhidpaaDepM
namespace Go.Proofs.Ytahgnjmdlhidpaa
open Go.Fl Go.RowKit
set_option linter.unusedSimpArgs false
set_option linter.unusedVariables false

/-- Numbers that stand for integers in units of 2 ^ -9. -/
def DyL (xs : List Nat) (F : Nat → Int) : Prop := ∀ j, j < xs.length → Dy .f32 140 (xs.getD j 0) (F j)
theorem DyL.put {xs : List Nat} {F G : Nat → Int} {i r : Nat} {v : Int} (h : DyL xs F) (hi : i < xs.length) (hr : Dy .f32 140 r (F i + v)) (hG : ∀ j, G j = F j + at1 i v j) : DyL (xs.set i r) G := by
  intro j hj
  rw [List.length_set] at hj
  rw [hG, List.getD_eq_getElem?_getD, List.getElem?_set]
  unfold at1
  by_cases e : i = j
  · subst e
    rw [if_pos rfl, if_pos hi, if_pos rfl]
    exact hr
  · rw [if_neg e, if_neg (by omega), Int.add_zero, ← List.getD_eq_getElem?_getD]
    exact h j hj
/-- A field of n numbers of the call's own. -/
def FR (B : Nat) (w : World) (g n : Nat) (xs : List Nat) : Prop := xs.length = n ∧ w.ownsRow B 27 1 (.slice (some ⟨g, 0, none⟩) n n) n (xs.map (Value.float .f32))
theorem FR.at {B g n : Nat} {w : World} {xs : List Nat} (h : FR B w g n xs) {j : Nat} (hj : j < n) : w.cell? ⟨g, j, none⟩ = some (.float .f32 (xs.getD j 0)) := by
  rw [h.2.cellAt j (by omega), List.getElem?_map, List.getElem?_eq_getElem (by rw [h.1]; exact hj)]
  simp [List.getD, List.getElem?_eq_getElem (show j < xs.length by rw [h.1]; exact hj)]
theorem FR.frozen {B g n : Nat} {w : World} {xs : List Nat} (h : FR B w g n xs) (j : Nat) : w.frozen? ⟨g, j, none⟩ = false := h.2.frozenAt j
theorem FR.put {B g n : Nat} {w : World} {xs : List Nat} (h : FR B w g n xs) {j : Nat} (hj : j < n) (r : Nat) : FR B (w.setCell ⟨g, j, none⟩ (.float .f32 r)) g n (xs.set j r) ∧ w.grownBy (w.setCell ⟨g, j, none⟩ (.float .f32 r)) (some g) := by
  obtain ⟨h1, g1⟩ := h.2.stored j (.float .f32 r)
  exact ⟨⟨by rw [List.length_set]; exact h.1, by rw [List.map_set]; exact h1⟩, g1⟩
theorem FR.kept {B g n : Nat} {w w' : World} {xs : List Nat} (h : FR B w g n xs) (hb : Below w.heap.size w w') : FR B w' g n xs :=
  ⟨h.1, World.ownsRow.kept h.2 (grown_below (row := none) hb) (.inr (by simp [Value.ownBlock]))⟩
/-- What the first c corners have got. -/
def cornTo (i0 i1 i2 i3 : Nat) (v0 v1 v2 v3 : Int) : Nat → Nat → Int
  | 0, _ => 0
  | 1, j => at1 i0 v0 j
  | 2, j => at1 i0 v0 j + at1 i1 v1 j
  | 3, j => at1 i0 v0 j + at1 i1 v1 j + at1 i2 v2 j
  | _, j => at1 i0 v0 j + at1 i1 v1 j + at1 i2 v2 j + at1 i3 v3 j
theorem corn_s0 (i0 i1 i2 i3 : Nat) (v0 v1 v2 v3 : Int) (j : Nat) : cornTo i0 i1 i2 i3 v0 v1 v2 v3 (0 + 1) j = cornTo i0 i1 i2 i3 v0 v1 v2 v3 0 j + at1 i0 v0 j := by show at1 _ _ _ = 0 + at1 _ _ _; rw [Int.zero_add]
theorem corn_s1 (i0 i1 i2 i3 : Nat) (v0 v1 v2 v3 : Int) (j : Nat) : cornTo i0 i1 i2 i3 v0 v1 v2 v3 (1 + 1) j = cornTo i0 i1 i2 i3 v0 v1 v2 v3 1 j + at1 i1 v1 j := rfl
theorem corn_s2 (i0 i1 i2 i3 : Nat) (v0 v1 v2 v3 : Int) (j : Nat) : cornTo i0 i1 i2 i3 v0 v1 v2 v3 (2 + 1) j = cornTo i0 i1 i2 i3 v0 v1 v2 v3 2 j + at1 i2 v2 j := rfl
theorem corn_s3 (i0 i1 i2 i3 : Nat) (v0 v1 v2 v3 : Int) (j : Nat) : cornTo i0 i1 i2 i3 v0 v1 v2 v3 (3 + 1) j = cornTo i0 i1 i2 i3 v0 v1 v2 v3 3 j + at1 i3 v3 j := rfl
theorem cornTo_in {i0 i1 i2 i3 : Nat} {v0 v1 v2 v3 : Int} (h0 : -1024 ≤ v0 ∧ v0 ≤ 1024) (h1 : -1024 ≤ v1 ∧ v1 ≤ 1024) (h2 : -1024 ≤ v2 ∧ v2 ≤ 1024) (h3 : -1024 ≤ v3 ∧ v3 ≤ 1024) (c j : Nat) : -4096 ≤ cornTo i0 i1 i2 i3 v0 v1 v2 v3 c j ∧ cornTo i0 i1 i2 i3 v0 v1 v2 v3 c j ≤ 4096 := by
  have e0 := at1_in (i := i0) (j := j) h0; have e1 := at1_in (i := i1) (j := j) h1; have e2 := at1_in (i := i2) (j := j) h2; have e3 := at1_in (i := i3) (j := j) h3
  unfold cornTo
  split <;> omega
theorem mod_of {a : Int} (ha : 4 ≤ a) (ha' : a ≤ 7) (n : Int) : n % (8 * a) % 8 = n % 8 := by
  have h : a = 4 ∨ a = 5 ∨ a = 6 ∨ a = 7 := by omega
  rcases h with rfl | rfl | rfl | rfl <;> omega
theorem Four.cells {W : World} {b : Nat} {v0 v1 v2 v3 : Value} {t : TypeId} (h : W.heap[b]? = some (.cells #[v0, v1, v2, v3] t)) : W.cell? ⟨b, 0, none⟩ = some v0 ∧ W.cell? ⟨b, 1, none⟩ = some v1 ∧ W.cell? ⟨b, 2, none⟩ = some v2 ∧ W.cell? ⟨b, 3, none⟩ = some v3 := by
  refine ⟨?_, ?_, ?_, ?_⟩ <;> (rw [Joins.cell_of_block h]; rfl)

theorem index_four' (v0 v1 v2 v3 : Value) (w : World) : (Instr.index 155 (.agg #[v0, v1, v2, v3]) (.int .i64 0)).run Try.prog w = .ok v0 w ∧ (Instr.index 155 (.agg #[v0, v1, v2, v3]) (.int .i64 1)).run Try.prog w = .ok v1 w ∧ (Instr.index 155 (.agg #[v0, v1, v2, v3]) (.int .i64 2)).run Try.prog w = .ok v2 w ∧ (Instr.index 155 (.agg #[v0, v1, v2, v3]) (.int .i64 3)).run Try.prog w = .ok v3 w := by
  have h := Try.underlying155
  refine ⟨?_, ?_, ?_, ?_⟩ <;> simp [Instr.index, run_underlying h, asIntOf, go_sem]
theorem cell_grown {w w' : World} {g : Nat} {p : Addr} (G : w.grownBy w' (some g)) (h : p.block < w.heap.size) (hne : p.block ≠ g) : w'.cell? p = w.cell? p := by
  have := G.block p.block h (fun e => hne (Option.some.inj e))
  unfold World.cell?
  rw [this]

set_option maxHeartbeats 4000000 in
set_option maxRecDepth 100000 in
theorem iDeposit_pt (a b : Int) (ha : 4 ≤ a) (ha' : a ≤ 7) (hb : 4 ≤ b) (hb' : b ≤ 7) (B : Nat) (v : Value) (ts : List Pt) (w : World) (hv : POwn B w v ts) (h : oks ts) (hn : ts.length ≤ 64) :
    Calls Try.prog 97 #[GV a b, v] w fun e w' => (∃ r xs, e = .returned (.tuple #[r, .bool true]) ∧ FOwn w.heap.size w' r xs ∧ (xs.length : Int) = a * b ∧ DyL xs (fun j => sumI (depAt a b j) ts ts.length)) ∧ Below w.heap.size w w' := by
  obtain ⟨ti, hi, hz0, hz1, hz2⟩ := info_parts F32info
  obtain ⟨av, cap, rfl, hf⟩ := p_form hv
  have HV := Lib.hid hv; have HO := Lib.hid h
  have hm1 : a * b ≤ 7 * 7 := Int.mul_le_mul ha' hb' (by omega) (by omega)
  have hm0 : 4 * 4 ≤ a * b := Int.mul_le_mul ha hb (by omega) (by omega)
  obtain ⟨n, hnn⟩ := Int.eq_ofNat_of_zero_le (show 0 ≤ a * b by omega)
  have hw1 : IntKind.i64.wrap (a * b) = (n : Int) := by rw [wrap_i64, hnn]; exact wrap64_of (by omega) (by omega)
  have hN : 16 ≤ n ∧ n ≤ 49 := by omega
  have HW := Lib.hid hw1; have HNN := Lib.hid hnn
  have hb4 : ti.bytes * n ≤ 281474976710656 := by rw [hz2]; omega
  have hml : n ≤ maxLen := by unfold maxLen; omega
  have HI := Lib.hid hi; have HZ0 := Lib.hid hz0; have HZ1 := Lib.hid hz1
  have HP := Lib.hid (gp_new w a b 25)
  have HB0 := Lib.hid ((Below.refl w.heap.size w).alloc (Nat.le_refl _) (.cells #[.int .i64 a, .int .i64 b] 25))
  have HZG := Lib.hid (show w.heap.size < (w.alloc (.cells #[.int .i64 a, .int .i64 b] 25)).heap.size by simp)
  clear hv h hi hz0 hz1 hz2 hm1 hm0 hw1 hnn
  go_enter Try.func97, Try.ntmps97
  go_wp2_with fail
  generalize w.alloc (.cells #[.int .i64 a, .int .i64 b] 25) = v1 at HP HB0 HZG ⊢
  refine (iValidGrid_any a b _).mono ?_
  rintro e v2 ⟨rfl, h2⟩
  rw [small_grid ha ha' hb hb']
  have HB2 := Lib.hid (HB0.out.trans (h2.mono HB0.out.size)); have HP2 := Lib.hid (HP.out.below h2); have HZG2 := Lib.hid (Nat.lt_of_lt_of_le HZG.out h2.size)
  clear h2 HP HB0 HZG
  go_wp2_with fail
  refine (iAre_pt B _ ts _ (r4_below HV.out HB2.out) HO.out hn).mono ?_
  rintro e v3 ⟨rfl, h3⟩
  have HB3 := Lib.hid (HB2.out.trans (h3.mono HB2.out.size)); have HP3 := Lib.hid (HP2.out.below h3); have HZG3 := Lib.hid (Nat.lt_of_lt_of_le HZG2.out h3.size)
  clear h3 HP2 HB2 HZG2
  obtain ⟨g0, g1⟩ := HP3.out.cells
  go_wp2_with fail
  refine (pointsOf_any a b _).mono ?_
  rintro e v4 ⟨rfl, h4⟩
  rw [HW.out]
  have HB4 := Lib.hid (HB3.out.trans (h4.mono HB3.out.size)); have HP4 := Lib.hid (HP3.out.below h4); have HZG4 := Lib.hid (Nat.lt_of_lt_of_le HZG3.out h4.size)
  clear h4 HP3 HB3 g0 g1 HZG3
  go_wp2_with (at_make; refine wpList_make_full _ rfl _ _ 34 rfl w.heap.size 27 ti (.float .f32 0) 1 Try.underlying34 HI.out HZ0.out HZ1.out _ _ _ _ n rfl rfl rfl rfl hb4 hml HB4.out.size ?_; intro v5 hown hgrow)
  rw [Nat.mul_one, show (madeCells (Value.float .f32 0).cells n).toList = (List.replicate n 0).map (Value.float .f32) by rw [List.map_replicate]; exact toList_madeCells_one _ _] at hown
  have HR0 := Lib.hid (show FR w.heap.size v5 v4.heap.size n (List.replicate n 0) from ⟨by simp, hown⟩)
  have HB5 := Lib.hid (HB4.out.grown hgrow HB4.out.size (fun k h => by cases h))
  have HP5 := Lib.hid (HP4.out.below (Below.grown (Below.refl v4.heap.size v4) hgrow (Nat.le_refl _) (fun k h => by cases h)))
  have HGF := Lib.hid (show w.heap.size < v4.heap.size from HZG4.out)
  have HDY0 := Lib.hid (show DyL (List.replicate n 0) (fun j => sumI (depAt a b j) ts 0) from fun j hj => by
    rw [List.length_replicate] at hj
    show Dy .f32 140 _ (sumI (depAt a b j) ts 0)
    rw [show sumI (depAt a b j) ts 0 = 0 by simp [sumI], List.getD_eq_getElem?_getD, List.getElem?_replicate, if_pos hj]
    exact dy_zero32 _)
  clear hown hgrow hb4 hml HI HZ0 HZ1 HB4 HP4 HZG4
  generalize v4.heap.size = gf at HR0 HGF ⊢
  have HVF := Lib.hid (fun w' (G : v5.grownBy w' (some gf)) => (show POwn B w' (.slice av ts.length cap) ts from by
    have h5 := r4_below HV.out HB5.out
    refine World.ownsRow.kept h5 G ?_
    rcases hf with rfl | ⟨g, rfl, _, hg⟩
    · rcases h5.2 with ⟨h6, _⟩ | ⟨g, _, _, h6, h7, _⟩
      · exact .inl (by rw [h6]; rfl)
      · have hl := HV.out.lt
        rw [h6] at hl ⊢
        exact .inr (fun e => by have := (hl g rfl).2; have h8 : g = gf := Option.some.inj e; have := HGF.out; omega)
    · exact .inr (fun e => by have h8 : g = gf := Option.some.inj e; have := HGF.out; omega)))
  have HPF := Lib.hid (fun w' (G : v5.grownBy w' (some gf)) => (show w'.cell? ⟨w.heap.size, 0, none⟩ = some (.int .i64 a) ∧ w'.cell? ⟨w.heap.size, 1, none⟩ = some (.int .i64 b) from by
    have hx := HGF.out
    obtain ⟨e0, e1⟩ := HP5.out.cells
    exact ⟨by rw [cell_grown G (block_lt_of_cell e0) (by show w.heap.size ≠ gf; omega)]; exact e0, by rw [cell_grown G (block_lt_of_cell e1) (by show w.heap.size ≠ gf; omega)]; exact e1⟩))
  have HSL := Lib.hid (fun j k (hk : k ≤ ts.length) => sumI_le (depAt a b j) ts 4096 (fun t ht => dep_in (HO.out t ht) j) k hk)
  go_wp2_with fail
  go_loopw [25] (fun i wr => ∃ k : Nat, k ≤ ts.length ∧ i = .int .i64 k ∧ Hid (v5.grownBy wr (some gf)) ∧ ∃ xs, Hid (FR w.heap.size wr gf n xs) ∧ Hid (DyL xs (fun j => sumI (depAt a b j) ts k))) (fun i _ => ts.length - (intOf i).toNat)
  case atStart => exact ⟨0, Nat.zero_le _, rfl, Lib.hid (grown_refl _ _), _, HR0, HDY0⟩
  case round =>
    clear HR0 HDY0
    obtain ⟨k, hk, rfl, HG, xs, HR, HDY⟩ := hrel
    by_cases hlt : k < ts.length
    · rcases hf with hf | ⟨g, rfl, _, _⟩
      · subst hf; simp at hlt
      obtain ⟨c0, c1, c2, c3⟩ := p_cells (HVF.out _ HG.out) hlt
      have HT := Lib.hid (oks_at HO.out hlt)
      have HSX := Lib.hid (fun j => sumI_succ (depAt a b j) ts hlt)
      generalize ts[k] = t at c0 c1 c2 c3 HT HSX
      have hn' := HT.out.n0; have hn'' := HT.out.n1; have hm' := HT.out.m0; have hm'' := HT.out.m1
      have HR1 := Lib.hid (HR.out.kept ((Below.refl wr.heap.size wr).alloc (Nat.le_refl _) (.cells #[.complex .f32 (E8 t.n) (E8 t.m), .complex .f32 t.x t.y, .float .f32 (E8 t.c), .float .f32 (E8 t.s)] 43)))
      have HG1 := Lib.hid (grown_trans HG.out (grown_below (row := some gf) ((Below.refl wr.heap.size wr).alloc (Nat.le_refl _) (.cells #[.complex .f32 (E8 t.n) (E8 t.m), .complex .f32 t.x t.y, .float .f32 (E8 t.c), .float .f32 (E8 t.s)] 43))))
      have HX1 := Lib.hid (heap_alloc_new wr (.cells #[.complex .f32 (E8 t.n) (E8 t.m), .complex .f32 t.x t.y, .float .f32 (E8 t.c), .float .f32 (E8 t.s)] 43))
      have HZ1 := Lib.hid (show wr.heap.size < (wr.alloc (.cells #[.complex .f32 (E8 t.n) (E8 t.m), .complex .f32 t.x t.y, .float .f32 (E8 t.c), .float .f32 (E8 t.s)] 43)).heap.size by simp)
      have HF1 := Lib.hid (show gf < wr.heap.size from (HR.out.2.lt gf rfl).2)
      obtain ⟨g0, g1⟩ := HPF.out _ HG1.out
      go_wp2_with fail
      generalize wr.alloc (.cells #[.complex .f32 (E8 t.n) (E8 t.m), .complex .f32 t.x t.y, .float .f32 (E8 t.c), .float .f32 (E8 t.s)] 43) = w1 at HR1 HG1 HX1 HZ1 ⊢
      generalize wr.heap.size = bp at HX1 HZ1 HF1 ⊢
      clear c0 c1 c2 c3 g0 g1 HR HG
      refine (iShares_e8 a b ha ha' hb hb' t.n t.m hn' hn'' hm' hm'' _).mono ?_
      rintro e w2 ⟨rfl, h2⟩
      rw [mod_of ha ha', mod_of hb hb']
      have HR2 := Lib.hid (HR1.out.kept h2); have HG2 := Lib.hid (grown_trans HG1.out (grown_below (row := some gf) h2))
      have HX2 := Lib.hid ((h2.block bp HZ1.out).trans HX1.out); have HZ2 := Lib.hid (Nat.lt_of_lt_of_le HZ1.out h2.size)
      clear h2 HR1 HG1 HX1 HZ1
      have HSH := Lib.hid (sh_dy (t.n % 8) (t.m % 8) (by omega) (by omega) (by omega) (by omega))
      have HSB := Lib.hid (sh_in (t := t))
      unfold ShV
      generalize sh0 (t.n % 8) (t.m % 8) = s0 at HSH ⊢
      generalize sh1 (t.n % 8) (t.m % 8) = s1 at HSH ⊢
      generalize sh2 (t.n % 8) (t.m % 8) = s2 at HSH ⊢
      generalize sh3 (t.n % 8) (t.m % 8) = s3 at HSH ⊢
      have hdep : ∀ j, depAt a b j t = at1 (cornIx a b (t.n % (8 * a) / 8) (t.m % (8 * b) / 8)) (t.c * ((8 - t.n % 8) * (8 - t.m % 8))) j + at1 (cornIx a b (t.n % (8 * a) / 8 + 1) (t.m % (8 * b) / 8)) (t.c * (t.n % 8 * (8 - t.m % 8))) j
          + at1 (cornIx a b (t.n % (8 * a) / 8) (t.m % (8 * b) / 8 + 1)) (t.c * ((8 - t.n % 8) * (t.m % 8))) j + at1 (cornIx a b (t.n % (8 * a) / 8 + 1) (t.m % (8 * b) / 8 + 1)) (t.c * (t.n % 8 * (t.m % 8))) j := fun j => rfl
      generalize (8 - t.n % 8) * (8 - t.m % 8) = S0 at HSH HSB hdep
      generalize t.n % 8 * (8 - t.m % 8) = S1 at HSH HSB hdep
      generalize (8 - t.n % 8) * (t.m % 8) = S2 at HSH HSB hdep
      generalize t.n % 8 * (t.m % 8) = S3 at HSH HSB hdep
      have HR3 := Lib.hid (HR2.out.kept ((Below.refl w2.heap.size w2).alloc (Nat.le_refl _) (.cells #[.float .f32 s0, .float .f32 s1, .float .f32 s2, .float .f32 s3] 153)))
      have HG3 := Lib.hid (grown_trans HG2.out (grown_below (row := some gf) ((Below.refl w2.heap.size w2).alloc (Nat.le_refl _) (.cells #[.float .f32 s0, .float .f32 s1, .float .f32 s2, .float .f32 s3] 153))))
      have HX3 := Lib.hid ((((Below.refl w2.heap.size w2).alloc (Nat.le_refl _) (.cells #[.float .f32 s0, .float .f32 s1, .float .f32 s2, .float .f32 s3] 153)).block bp HZ2.out).trans HX2.out)
      have HY3 := Lib.hid (heap_alloc_new w2 (.cells #[.float .f32 s0, .float .f32 s1, .float .f32 s2, .float .f32 s3] 153))
      have HZ3 := Lib.hid (show w2.heap.size < (w2.alloc (.cells #[.float .f32 s0, .float .f32 s1, .float .f32 s2, .float .f32 s3] 153)).heap.size by simp)
      obtain ⟨c0, c1, c2, c3⟩ := Four.cells HX3.out
      obtain ⟨g0, g1⟩ := HPF.out _ HG3.out
      go_wp2_with fail
      generalize w2.alloc (.cells #[.float .f32 s0, .float .f32 s1, .float .f32 s2, .float .f32 s3] 153) = w3 at HR3 HG3 HX3 HY3 HZ3 ⊢
      generalize w2.heap.size = bs at HY3 HZ3 HZ2 ⊢
      clear c0 c1 c2 c3 g0 g1 HR2 HG2 HX2
      refine (iCorners_e8 a b ha ha' hb hb' t.n t.m hn' hn'' hm' hm'' _).mono ?_
      rintro e w4 ⟨rfl, h4⟩
      have HR4 := Lib.hid (HR3.out.kept h4); have HG4 := Lib.hid (grown_trans HG3.out (grown_below (row := some gf) h4))
      have HX4 := Lib.hid ((h4.block bp (Nat.lt_trans HZ2.out HZ3.out)).trans HX3.out); have HY4 := Lib.hid ((h4.block bs HZ3.out).trans HY3.out)
      have HZ4 := Lib.hid (Nat.lt_of_lt_of_le HZ3.out h4.size)
      clear h4 HR3 HG3 HX3 HY3
      unfold CornV
      have q0 := cornIx_in (a := a) (b := b) (x := t.n % (8 * a) / 8) (y := t.m % (8 * b) / 8) ha hb
      have q1 := cornIx_in (a := a) (b := b) (x := t.n % (8 * a) / 8 + 1) (y := t.m % (8 * b) / 8) ha hb
      have q2 := cornIx_in (a := a) (b := b) (x := t.n % (8 * a) / 8) (y := t.m % (8 * b) / 8 + 1) ha hb
      have q3 := cornIx_in (a := a) (b := b) (x := t.n % (8 * a) / 8 + 1) (y := t.m % (8 * b) / 8 + 1) ha hb
      obtain ⟨i0, e0⟩ := Int.eq_ofNat_of_zero_le q0.1
      obtain ⟨i1, e1⟩ := Int.eq_ofNat_of_zero_le q1.1
      obtain ⟨i2, e2⟩ := Int.eq_ofNat_of_zero_le q2.1
      obtain ⟨i3, e3⟩ := Int.eq_ofNat_of_zero_le q3.1
      rw [e0] at q0; rw [e1] at q1; rw [e2] at q2; rw [e3] at q3
      simp only [e0, e1, e2, e3] at hdep ⊢
      have hnn := HNN.out
      have HI := Lib.hid (show i0 < n ∧ i1 < n ∧ i2 < n ∧ i3 < n by omega)
      have hc0 := HT.out.c0; have hc1 := HT.out.c1
      have b0 := cs_in hc0 hc1 HSB.out.1.1 HSB.out.1.2; have b1 := cs_in hc0 hc1 HSB.out.2.1.1 HSB.out.2.1.2; have b2 := cs_in hc0 hc1 HSB.out.2.2.1.1 HSB.out.2.2.1.2; have b3 := cs_in hc0 hc1 HSB.out.2.2.2.1 HSB.out.2.2.2.2
      have HSD := Lib.hid (show (Dv .f32 143 s0 S0 ∧ -1024 ≤ t.c * S0 ∧ t.c * S0 ≤ 1024) ∧ (Dv .f32 143 s1 S1 ∧ -1024 ≤ t.c * S1 ∧ t.c * S1 ≤ 1024) ∧ (Dv .f32 143 s2 S2 ∧ -1024 ≤ t.c * S2 ∧ t.c * S2 ≤ 1024) ∧ (Dv .f32 143 s3 S3 ∧ -1024 ≤ t.c * S3 ∧ t.c * S3 ≤ 1024) from ⟨⟨HSH.out.1.dv, b0⟩, ⟨HSH.out.2.1.dv, b1⟩, ⟨HSH.out.2.2.1.dv, b2⟩, ⟨HSH.out.2.2.2.dv, b3⟩⟩)
      have HCD := Lib.hid (dy_e8' (n := t.c) (by omega) (by omega))
      have HBD := Lib.hid (show ∀ c j : Nat, -270000 ≤ sumI (depAt a b j) ts k + cornTo i0 i1 i2 i3 (t.c * S0) (t.c * S1) (t.c * S2) (t.c * S3) c j ∧ sumI (depAt a b j) ts k + cornTo i0 i1 i2 i3 (t.c * S0) (t.c * S1) (t.c * S2) (t.c * S3) c j ≤ 270000 from fun c j => by
        have h1 := HSL.out j k hk
        have h2 := cornTo_in (i0 := i0) (i1 := i1) (i2 := i2) (i3 := i3) b0 b1 b2 b3 c j
        have h3 : (4096 : Int) * (k : Int) ≤ 4096 * 64 := by omega
        omega)
      have HBX := Lib.hid (show ∀ W, w4.grownBy W (some gf) → W.cell? ⟨bp, 2, none⟩ = some (.float .f32 (E8 t.c)) ∧ W.cell? ⟨bs, 0, none⟩ = some (.float .f32 s0) ∧ W.cell? ⟨bs, 1, none⟩ = some (.float .f32 s1) ∧ W.cell? ⟨bs, 2, none⟩ = some (.float .f32 s2) ∧ W.cell? ⟨bs, 3, none⟩ = some (.float .f32 s3) from fun W G => by
        have z1 := HZ2.out; have z2 := HZ4.out; have z3 := HF1.out
        have hx := (G.block bp (by omega) (fun e => by have h8 : bp = gf := Option.some.inj e; omega)).trans HX4.out
        have hy := (G.block bs (by omega) (fun e => by have h8 : bs = gf := Option.some.inj e; omega)).trans HY4.out
        obtain ⟨y0, y1, y2, y3⟩ := Four.cells hy
        exact ⟨(Four.cells hx).2.2.1, y0, y1, y2, y3⟩)
      have HE := Lib.hid (show ∀ j, sumI (depAt a b j) ts k + cornTo i0 i1 i2 i3 (t.c * S0) (t.c * S1) (t.c * S2) (t.c * S3) 4 j = sumI (depAt a b j) ts (k + 1) from fun j => by rw [HSX.out j, hdep j]; rfl)
      have HDY0 := Lib.hid (show DyL xs (fun j => sumI (depAt a b j) ts k + cornTo i0 i1 i2 i3 (t.c * S0) (t.c * S1) (t.c * S2) (t.c * S3) 0 j) from fun j hj => by
        show Dy .f32 140 _ (sumI (depAt a b j) ts k + 0)
        rw [Int.add_zero]; exact HDY.out j hj)
      clear hdep q0 q1 q2 q3 e0 e1 e2 e3 b0 b1 b2 b3 hc0 hc1 hnn hn' hn'' hm' hm'' HSB HSH HSX HX4 HY4 HZ4 HZ3 HZ2 HF1 HDY
      go_wp2_with fail
      go_loopw [37] (fun i wr => ∃ c : Nat, c ≤ 4 ∧ i = .int .i64 c ∧ Hid (w4.grownBy wr (some gf)) ∧ ∃ xs, Hid (FR w.heap.size wr gf n xs) ∧ Hid (DyL xs (fun j => sumI (depAt a b j) ts k + cornTo i0 i1 i2 i3 (t.c * S0) (t.c * S1) (t.c * S2) (t.c * S3) c j))) (fun i _ => (4 - intOf i).toNat)
      case atStart => exact ⟨0, by omega, rfl, Lib.hid (grown_refl _ _), xs, HR4, HDY0⟩
      case round =>
        clear HR4 HDY0
        obtain ⟨c, hc, rfl, HG, xs, HR, HDY⟩ := hrel
        by_cases hlt4 : c < 4
        · have h4 : c = 0 ∨ c = 1 ∨ c = 2 ∨ c = 3 := by omega
          clear hc hlt4
          rcases h4 with rfl | rfl | rfl | rfl
          · have xk := HR.out.at HI.out.1
            have hf := HR.out.frozen i0
            have cc := (HBX.out wr HG.out).1; have cs := (HBX.out wr HG.out).2.1
            have HK1 := Lib.hid (HDY.out i0 (by rw [HR.out.1]; exact HI.out.1))
            have hj : (i0 : Int) < (n : Int) := by have := HI.out; omega
            have hj0 : (0 : Int) ≤ (i0 : Int) := Int.natCast_nonneg _
            have HP := Lib.hid (HSD.out.1)
            have ix := HK1.out.is; have iy := HCD.out.is; have iz := (HP.out).1.is
            generalize hz : xs.getD i0 0 = z at xk HK1 ix
            have HZ := Lib.hid hz
            clear hz
            have qx := fun W => (index_four' (.int .i64 i0) (.int .i64 i1) (.int .i64 i2) (.int .i64 i3) W).1
            go_wp2_with fail
            clear qx
            refine wp_region_noPanic ?_
            refine wp_region_held_drew (S := fun w' => w'.cell? ⟨bp, 2, none⟩ = some (.float .f32 (E8 t.c)) ∧ w'.cell? ⟨bs, 0, none⟩ = some (.float .f32 s0)) (by kernel_rfl) ⟨cc, cs⟩ (fun hHeld => ?_)
            ((refine wpAnyH_take (i := 0) (v := ?_) rfl (by kernel_rfl) (by kernel_rfl) (by kernel_rfl) (fun _ _ _ h => h) (Or.inl ⟨by rfl, ?_⟩) (by assumption) ?_; rotate_left; (· intro w hSw; (try dsimp only at hSw); go_simp; first | done | with_reducible rfl); (try simp only [List.getElem_toArray, List.getElem_cons_zero, List.getElem_cons_succ, Act.put, List.setIfInBounds_toArray, List.set_cons_zero, List.set_cons_succ])); (refine wpAnyH_take (i := 1) (v := ?_) rfl (by kernel_rfl) (by kernel_rfl) (by kernel_rfl) (fun _ _ _ h => h) (Or.inl ⟨by rfl, ?_⟩) (by assumption) ?_; rotate_left; (· intro w hSw; (try dsimp only at hSw); go_simp; first | done | with_reducible rfl); (try simp only [List.getElem_toArray, List.getElem_cons_zero, List.getElem_cons_succ, Act.put, List.setIfInBounds_toArray, List.set_cons_zero, List.set_cons_succ])); (refine wpAnyH_take (i := 2) (v := ?_) rfl (by kernel_rfl) (by kernel_rfl) (by kernel_rfl) (fun _ _ _ h => h) (Or.inl ⟨by rfl, ?_⟩) (by assumption) ?_; rotate_left; (· intro w hSw; (try dsimp only at hSw); go_simp; first | done | with_reducible rfl); (try simp only [List.getElem_toArray, List.getElem_cons_zero, List.getElem_cons_succ, Act.put, List.setIfInBounds_toArray, List.set_cons_zero, List.set_cons_succ])); (refine wpAnyH_take (i := 4) (v := ?_) rfl (by kernel_rfl) (by kernel_rfl) (by kernel_rfl) (fun _ _ _ h => h) (Or.inl ⟨by rfl, ?_⟩) (by assumption) ?_; rotate_left; (· intro w hSw; (try dsimp only at hSw); go_simp; first | done | with_reducible rfl); (try simp only [List.getElem_toArray, List.getElem_cons_zero, List.getElem_cons_succ, Act.put, List.setIfInBounds_toArray, List.set_cons_zero, List.set_cons_succ])); (refine wpAnyH_take (i := 5) (v := ?_) rfl (by kernel_rfl) (by kernel_rfl) (by kernel_rfl) (fun _ _ _ h => h) (Or.inl ⟨by rfl, ?_⟩) (by assumption) ?_; rotate_left; (· intro w hSw; (try dsimp only at hSw); go_simp; first | done | with_reducible rfl); (try simp only [List.getElem_toArray, List.getElem_cons_zero, List.getElem_cons_succ, Act.put, List.setIfInBounds_toArray, List.set_cons_zero, List.set_cons_succ])); (refine wpAnyH_take (i := 6) (v := ?_) rfl (by kernel_rfl) (by kernel_rfl) (by kernel_rfl) (fun _ _ _ h => h) (Or.inl ⟨by rfl, ?_⟩) (by assumption) ?_; rotate_left; (· intro w hSw; (try dsimp only at hSw); go_simp; first | done | with_reducible rfl); (try simp only [List.getElem_toArray, List.getElem_cons_zero, List.getElem_cons_succ, Act.put, List.setIfInBounds_toArray, List.set_cons_zero, List.set_cons_succ])); (refine wpAnyH_take (i := 7) (v := ?_) rfl (by kernel_rfl) (by kernel_rfl) (by kernel_rfl) (fun _ _ _ h => h) (Or.inl ⟨by rfl, ?_⟩) (by assumption) ?_; rotate_left; (· intro w hSw; (try dsimp only at hSw); go_simp; first | done | with_reducible rfl); (try simp only [List.getElem_toArray, List.getElem_cons_zero, List.getElem_cons_succ, Act.put, List.setIfInBounds_toArray, List.set_cons_zero, List.set_cons_succ])); (refine wpAnyH_take (i := 8) (v := ?_) rfl (by kernel_rfl) (by kernel_rfl) (by kernel_rfl) (fun _ _ _ h => h) (Or.inl ⟨by rfl, ?_⟩) (by assumption) ?_; rotate_left; (· intro w hSw; (try dsimp only at hSw); go_simp; first | done | with_reducible rfl); (try simp only [List.getElem_toArray, List.getElem_cons_zero, List.getElem_cons_succ, Act.put, List.setIfInBounds_toArray, List.set_cons_zero, List.set_cons_succ])))
            refine wpAnyH_ready (rs := [3, 9]) (by kernel_rfl) (by simp) ?_
            refine AllReadyH.cons (i := 3) rfl (fun K hK => ?_) (AllReadyH.cons (i := 9) rfl (fun K hK => ?_) AllReadyH.nil)
            · go_simp
              (refine hK.out _ _ (⟨cc, cs⟩) (fun hHeld => ?_); clear hK K; (try simp only [List.getElem_toArray, List.getElem_cons_zero, List.getElem_cons_succ, Act.put, List.setIfInBounds_toArray, List.set_cons_zero, List.set_cons_succ]))
              (refine wpAnyH_ready (rs := [9]) (by kernel_rfl) (by simp) ?_; refine AllReadyH.cons (i := 9) rfl (fun K hK => ?_) AllReadyH.nil)
              refine hstep_fa rfl .mul 27 27 _ _ rfl rfl .f32 (E8 t.c) s0 rfl rfl iy iz ?_
              intro r1 n1 hr1
              have HQ := Lib.hid (dv_is (HCD.out.mul32 HP.out.1 (w := 140) (by decide) (by have := HP.out.2; omega) (by decide)) hr1)
              have iq := HQ.out.is
              (refine hK.out _ _ (⟨cc, cs⟩) (fun hHeld => ?_); clear hK K; (try simp only [List.getElem_toArray, List.getElem_cons_zero, List.getElem_cons_succ, Act.put, List.setIfInBounds_toArray, List.set_cons_zero, List.set_cons_succ]))
              (refine wpAnyH_ready (rs := [10]) (by kernel_rfl) (by simp) ?_; refine AllReadyH.cons (i := 10) rfl (fun K hK => ?_) AllReadyH.nil)
              refine hstep_fa rfl .add 27 27 _ _ rfl rfl .f32 z r1 rfl rfl ix iq ?_
              intro r2 n2 hr2
              (refine hK.out _ _ (⟨cc, cs⟩) (fun hHeld => ?_); clear hK K; (try simp only [List.getElem_toArray, List.getElem_cons_zero, List.getElem_cons_succ, Act.put, List.setIfInBounds_toArray, List.set_cons_zero, List.set_cons_succ]))
              have HA := Lib.hid (dyis (HK1.out.addv32 HQ.out (by decide) (by have := HP.out.2; have := HBD.out 0 i0; omega)) hr2)
              have PT := FR.put (show FR w.heap.size (wr.drewN (1 + n1 + n2)) gf n xs from HR.out) (j := i0) (by omega) r2
              have HR5 := Lib.hid PT.1
              have HG5 := Lib.hid (grown_trans (grown_trans HG.out (grown_below (row := some gf) (below_drewN (Below.refl wr.heap.size wr) (1 + n1 + n2)))) PT.2)
              have cc5 := (HBX.out _ HG5.out).1; have cs5 := (HBX.out _ HG5.out).2.1
              clear PT
              ((refine wpAnyH_take (i := 11) (v := ?_) rfl (by kernel_rfl) (by kernel_rfl) (by kernel_rfl) (fun _ _ _ h => h) (Or.inl ⟨by rfl, ?_⟩) (by assumption) ?_; rotate_left; (· intro w hSw; (try dsimp only at hSw); go_simp; first | done | with_reducible rfl); (try simp only [List.getElem_toArray, List.getElem_cons_zero, List.getElem_cons_succ, Act.put, List.setIfInBounds_toArray, List.set_cons_zero, List.set_cons_succ])))
              (refine wpAnyH_ready (rs := [12]) (by kernel_rfl) (by simp) ?_; refine AllReadyH.cons (i := 12) rfl (fun K hK => ?_) AllReadyH.nil)
              go_simp
              (refine hK.out _ _ (⟨cc5, cs5⟩) (fun hHeld => ?_); clear hK K; (try simp only [List.getElem_toArray, List.getElem_cons_zero, List.getElem_cons_succ, Act.put, List.setIfInBounds_toArray, List.set_cons_zero, List.set_cons_succ]))
              (refine wpAnyH_done (by kernel_rfl) ?_ _; refine NoPanic.normal ?_)
              clear hHeld xk hf cc cs cc5 cs5 ix iy iz hr2
              go_wp2_with fail
              go_roundw
              case rel => exact ⟨0 + 1, by omega, rfl, HG5, _, HR5, Lib.hid (DyL.put (F := fun j => sumI (depAt a b j) ts k + cornTo i0 i1 i2 i3 (t.c * S0) (t.c * S1) (t.c * S2) (t.c * S3) 0 j) (G := fun j => sumI (depAt a b j) ts k + cornTo i0 i1 i2 i3 (t.c * S0) (t.c * S1) (t.c * S2) (t.c * S3) (0 + 1) j) HDY.out (by rw [HR.out.1]; exact (by omega)) HA.out (fun j => by show _ + cornTo _ _ _ _ _ _ _ _ (0 + 1) j = _ + cornTo _ _ _ _ _ _ _ _ 0 j + at1 _ _ j; rw [corn_s0]; omega))⟩
              case measure => simp [intOf]
            · refine hstep_fa rfl .mul 27 27 _ _ rfl rfl .f32 (E8 t.c) s0 rfl rfl iy iz ?_
              intro r1 n1 hr1
              have HQ := Lib.hid (dv_is (HCD.out.mul32 HP.out.1 (w := 140) (by decide) (by have := HP.out.2; omega) (by decide)) hr1)
              have iq := HQ.out.is
              (refine hK.out _ _ (⟨cc, cs⟩) (fun hHeld => ?_); clear hK K; (try simp only [List.getElem_toArray, List.getElem_cons_zero, List.getElem_cons_succ, Act.put, List.setIfInBounds_toArray, List.set_cons_zero, List.set_cons_succ]))
              (refine wpAnyH_ready (rs := [3]) (by kernel_rfl) (by simp) ?_; refine AllReadyH.cons (i := 3) rfl (fun K hK => ?_) AllReadyH.nil)
              go_simp
              (refine hK.out _ _ (⟨cc, cs⟩) (fun hHeld => ?_); clear hK K; (try simp only [List.getElem_toArray, List.getElem_cons_zero, List.getElem_cons_succ, Act.put, List.setIfInBounds_toArray, List.set_cons_zero, List.set_cons_succ]))
              (refine wpAnyH_ready (rs := [10]) (by kernel_rfl) (by simp) ?_; refine AllReadyH.cons (i := 10) rfl (fun K hK => ?_) AllReadyH.nil)
              refine hstep_fa rfl .add 27 27 _ _ rfl rfl .f32 z r1 rfl rfl ix iq ?_
              intro r2 n2 hr2
              (refine hK.out _ _ (⟨cc, cs⟩) (fun hHeld => ?_); clear hK K; (try simp only [List.getElem_toArray, List.getElem_cons_zero, List.getElem_cons_succ, Act.put, List.setIfInBounds_toArray, List.set_cons_zero, List.set_cons_succ]))
              have HA := Lib.hid (dyis (HK1.out.addv32 HQ.out (by decide) (by have := HP.out.2; have := HBD.out 0 i0; omega)) hr2)
              have PT := FR.put (show FR w.heap.size (wr.drewN (1 + n1 + n2)) gf n xs from HR.out) (j := i0) (by omega) r2
              have HR5 := Lib.hid PT.1
              have HG5 := Lib.hid (grown_trans (grown_trans HG.out (grown_below (row := some gf) (below_drewN (Below.refl wr.heap.size wr) (1 + n1 + n2)))) PT.2)
              have cc5 := (HBX.out _ HG5.out).1; have cs5 := (HBX.out _ HG5.out).2.1
              clear PT
              ((refine wpAnyH_take (i := 11) (v := ?_) rfl (by kernel_rfl) (by kernel_rfl) (by kernel_rfl) (fun _ _ _ h => h) (Or.inl ⟨by rfl, ?_⟩) (by assumption) ?_; rotate_left; (· intro w hSw; (try dsimp only at hSw); go_simp; first | done | with_reducible rfl); (try simp only [List.getElem_toArray, List.getElem_cons_zero, List.getElem_cons_succ, Act.put, List.setIfInBounds_toArray, List.set_cons_zero, List.set_cons_succ])))
              (refine wpAnyH_ready (rs := [12]) (by kernel_rfl) (by simp) ?_; refine AllReadyH.cons (i := 12) rfl (fun K hK => ?_) AllReadyH.nil)
              go_simp
              (refine hK.out _ _ (⟨cc5, cs5⟩) (fun hHeld => ?_); clear hK K; (try simp only [List.getElem_toArray, List.getElem_cons_zero, List.getElem_cons_succ, Act.put, List.setIfInBounds_toArray, List.set_cons_zero, List.set_cons_succ]))
              (refine wpAnyH_done (by kernel_rfl) ?_ _; refine NoPanic.normal ?_)
              clear hHeld xk hf cc cs cc5 cs5 ix iy iz hr2
              go_wp2_with fail
              go_roundw
              case rel => exact ⟨0 + 1, by omega, rfl, HG5, _, HR5, Lib.hid (DyL.put (F := fun j => sumI (depAt a b j) ts k + cornTo i0 i1 i2 i3 (t.c * S0) (t.c * S1) (t.c * S2) (t.c * S3) 0 j) (G := fun j => sumI (depAt a b j) ts k + cornTo i0 i1 i2 i3 (t.c * S0) (t.c * S1) (t.c * S2) (t.c * S3) (0 + 1) j) HDY.out (by rw [HR.out.1]; exact (by omega)) HA.out (fun j => by show _ + cornTo _ _ _ _ _ _ _ _ (0 + 1) j = _ + cornTo _ _ _ _ _ _ _ _ 0 j + at1 _ _ j; rw [corn_s0]; omega))⟩
              case measure => simp [intOf]
          · have xk := HR.out.at HI.out.2.1
            have hf := HR.out.frozen i1
            have cc := (HBX.out wr HG.out).1; have cs := (HBX.out wr HG.out).2.2.1
            have HK1 := Lib.hid (HDY.out i1 (by rw [HR.out.1]; exact HI.out.2.1))
            have hj : (i1 : Int) < (n : Int) := by have := HI.out; omega
            have hj0 : (0 : Int) ≤ (i1 : Int) := Int.natCast_nonneg _
            have HP := Lib.hid (HSD.out.2.1)
            have ix := HK1.out.is; have iy := HCD.out.is; have iz := (HP.out).1.is
            generalize hz : xs.getD i1 0 = z at xk HK1 ix
            have HZ := Lib.hid hz
            clear hz
            have qx := fun W => (index_four' (.int .i64 i0) (.int .i64 i1) (.int .i64 i2) (.int .i64 i3) W).2.1
            go_wp2_with fail
            clear qx
            refine wp_region_noPanic ?_
            refine wp_region_held_drew (S := fun w' => w'.cell? ⟨bp, 2, none⟩ = some (.float .f32 (E8 t.c)) ∧ w'.cell? ⟨bs, 1, none⟩ = some (.float .f32 s1)) (by kernel_rfl) ⟨cc, cs⟩ (fun hHeld => ?_)
            ((refine wpAnyH_take (i := 0) (v := ?_) rfl (by kernel_rfl) (by kernel_rfl) (by kernel_rfl) (fun _ _ _ h => h) (Or.inl ⟨by rfl, ?_⟩) (by assumption) ?_; rotate_left; (· intro w hSw; (try dsimp only at hSw); go_simp; first | done | with_reducible rfl); (try simp only [List.getElem_toArray, List.getElem_cons_zero, List.getElem_cons_succ, Act.put, List.setIfInBounds_toArray, List.set_cons_zero, List.set_cons_succ])); (refine wpAnyH_take (i := 1) (v := ?_) rfl (by kernel_rfl) (by kernel_rfl) (by kernel_rfl) (fun _ _ _ h => h) (Or.inl ⟨by rfl, ?_⟩) (by assumption) ?_; rotate_left; (· intro w hSw; (try dsimp only at hSw); go_simp; first | done | with_reducible rfl); (try simp only [List.getElem_toArray, List.getElem_cons_zero, List.getElem_cons_succ, Act.put, List.setIfInBounds_toArray, List.set_cons_zero, List.set_cons_succ])); (refine wpAnyH_take (i := 2) (v := ?_) rfl (by kernel_rfl) (by kernel_rfl) (by kernel_rfl) (fun _ _ _ h => h) (Or.inl ⟨by rfl, ?_⟩) (by assumption) ?_; rotate_left; (· intro w hSw; (try dsimp only at hSw); go_simp; first | done | with_reducible rfl); (try simp only [List.getElem_toArray, List.getElem_cons_zero, List.getElem_cons_succ, Act.put, List.setIfInBounds_toArray, List.set_cons_zero, List.set_cons_succ])); (refine wpAnyH_take (i := 4) (v := ?_) rfl (by kernel_rfl) (by kernel_rfl) (by kernel_rfl) (fun _ _ _ h => h) (Or.inl ⟨by rfl, ?_⟩) (by assumption) ?_; rotate_left; (· intro w hSw; (try dsimp only at hSw); go_simp; first | done | with_reducible rfl); (try simp only [List.getElem_toArray, List.getElem_cons_zero, List.getElem_cons_succ, Act.put, List.setIfInBounds_toArray, List.set_cons_zero, List.set_cons_succ])); (refine wpAnyH_take (i := 5) (v := ?_) rfl (by kernel_rfl) (by kernel_rfl) (by kernel_rfl) (fun _ _ _ h => h) (Or.inl ⟨by rfl, ?_⟩) (by assumption) ?_; rotate_left; (· intro w hSw; (try dsimp only at hSw); go_simp; first | done | with_reducible rfl); (try simp only [List.getElem_toArray, List.getElem_cons_zero, List.getElem_cons_succ, Act.put, List.setIfInBounds_toArray, List.set_cons_zero, List.set_cons_succ])); (refine wpAnyH_take (i := 6) (v := ?_) rfl (by kernel_rfl) (by kernel_rfl) (by kernel_rfl) (fun _ _ _ h => h) (Or.inl ⟨by rfl, ?_⟩) (by assumption) ?_; rotate_left; (· intro w hSw; (try dsimp only at hSw); go_simp; first | done | with_reducible rfl); (try simp only [List.getElem_toArray, List.getElem_cons_zero, List.getElem_cons_succ, Act.put, List.setIfInBounds_toArray, List.set_cons_zero, List.set_cons_succ])); (refine wpAnyH_take (i := 7) (v := ?_) rfl (by kernel_rfl) (by kernel_rfl) (by kernel_rfl) (fun _ _ _ h => h) (Or.inl ⟨by rfl, ?_⟩) (by assumption) ?_; rotate_left; (· intro w hSw; (try dsimp only at hSw); go_simp; first | done | with_reducible rfl); (try simp only [List.getElem_toArray, List.getElem_cons_zero, List.getElem_cons_succ, Act.put, List.setIfInBounds_toArray, List.set_cons_zero, List.set_cons_succ])); (refine wpAnyH_take (i := 8) (v := ?_) rfl (by kernel_rfl) (by kernel_rfl) (by kernel_rfl) (fun _ _ _ h => h) (Or.inl ⟨by rfl, ?_⟩) (by assumption) ?_; rotate_left; (· intro w hSw; (try dsimp only at hSw); go_simp; first | done | with_reducible rfl); (try simp only [List.getElem_toArray, List.getElem_cons_zero, List.getElem_cons_succ, Act.put, List.setIfInBounds_toArray, List.set_cons_zero, List.set_cons_succ])))
            refine wpAnyH_ready (rs := [3, 9]) (by kernel_rfl) (by simp) ?_
            refine AllReadyH.cons (i := 3) rfl (fun K hK => ?_) (AllReadyH.cons (i := 9) rfl (fun K hK => ?_) AllReadyH.nil)
            · go_simp
              (refine hK.out _ _ (⟨cc, cs⟩) (fun hHeld => ?_); clear hK K; (try simp only [List.getElem_toArray, List.getElem_cons_zero, List.getElem_cons_succ, Act.put, List.setIfInBounds_toArray, List.set_cons_zero, List.set_cons_succ]))
              (refine wpAnyH_ready (rs := [9]) (by kernel_rfl) (by simp) ?_; refine AllReadyH.cons (i := 9) rfl (fun K hK => ?_) AllReadyH.nil)
              refine hstep_fa rfl .mul 27 27 _ _ rfl rfl .f32 (E8 t.c) s1 rfl rfl iy iz ?_
              intro r1 n1 hr1
              have HQ := Lib.hid (dv_is (HCD.out.mul32 HP.out.1 (w := 140) (by decide) (by have := HP.out.2; omega) (by decide)) hr1)
              have iq := HQ.out.is
              (refine hK.out _ _ (⟨cc, cs⟩) (fun hHeld => ?_); clear hK K; (try simp only [List.getElem_toArray, List.getElem_cons_zero, List.getElem_cons_succ, Act.put, List.setIfInBounds_toArray, List.set_cons_zero, List.set_cons_succ]))
              (refine wpAnyH_ready (rs := [10]) (by kernel_rfl) (by simp) ?_; refine AllReadyH.cons (i := 10) rfl (fun K hK => ?_) AllReadyH.nil)
              refine hstep_fa rfl .add 27 27 _ _ rfl rfl .f32 z r1 rfl rfl ix iq ?_
              intro r2 n2 hr2
              (refine hK.out _ _ (⟨cc, cs⟩) (fun hHeld => ?_); clear hK K; (try simp only [List.getElem_toArray, List.getElem_cons_zero, List.getElem_cons_succ, Act.put, List.setIfInBounds_toArray, List.set_cons_zero, List.set_cons_succ]))
              have HA := Lib.hid (dyis (HK1.out.addv32 HQ.out (by decide) (by have := HP.out.2; have := HBD.out 1 i1; omega)) hr2)
              have PT := FR.put (show FR w.heap.size (wr.drewN (1 + n1 + n2)) gf n xs from HR.out) (j := i1) (by omega) r2
              have HR5 := Lib.hid PT.1
              have HG5 := Lib.hid (grown_trans (grown_trans HG.out (grown_below (row := some gf) (below_drewN (Below.refl wr.heap.size wr) (1 + n1 + n2)))) PT.2)
              have cc5 := (HBX.out _ HG5.out).1; have cs5 := (HBX.out _ HG5.out).2.2.1
              clear PT
              ((refine wpAnyH_take (i := 11) (v := ?_) rfl (by kernel_rfl) (by kernel_rfl) (by kernel_rfl) (fun _ _ _ h => h) (Or.inl ⟨by rfl, ?_⟩) (by assumption) ?_; rotate_left; (· intro w hSw; (try dsimp only at hSw); go_simp; first | done | with_reducible rfl); (try simp only [List.getElem_toArray, List.getElem_cons_zero, List.getElem_cons_succ, Act.put, List.setIfInBounds_toArray, List.set_cons_zero, List.set_cons_succ])))
              (refine wpAnyH_ready (rs := [12]) (by kernel_rfl) (by simp) ?_; refine AllReadyH.cons (i := 12) rfl (fun K hK => ?_) AllReadyH.nil)
              go_simp
              (refine hK.out _ _ (⟨cc5, cs5⟩) (fun hHeld => ?_); clear hK K; (try simp only [List.getElem_toArray, List.getElem_cons_zero, List.getElem_cons_succ, Act.put, List.setIfInBounds_toArray, List.set_cons_zero, List.set_cons_succ]))
              (refine wpAnyH_done (by kernel_rfl) ?_ _; refine NoPanic.normal ?_)
              clear hHeld xk hf cc cs cc5 cs5 ix iy iz hr2
              go_wp2_with fail
              go_roundw
              case rel => exact ⟨1 + 1, by omega, rfl, HG5, _, HR5, Lib.hid (DyL.put (F := fun j => sumI (depAt a b j) ts k + cornTo i0 i1 i2 i3 (t.c * S0) (t.c * S1) (t.c * S2) (t.c * S3) 1 j) (G := fun j => sumI (depAt a b j) ts k + cornTo i0 i1 i2 i3 (t.c * S0) (t.c * S1) (t.c * S2) (t.c * S3) (1 + 1) j) HDY.out (by rw [HR.out.1]; exact (by omega)) HA.out (fun j => by show _ + cornTo _ _ _ _ _ _ _ _ (1 + 1) j = _ + cornTo _ _ _ _ _ _ _ _ 1 j + at1 _ _ j; rw [corn_s1]; omega))⟩
              case measure => simp [intOf]
            · refine hstep_fa rfl .mul 27 27 _ _ rfl rfl .f32 (E8 t.c) s1 rfl rfl iy iz ?_
              intro r1 n1 hr1
              have HQ := Lib.hid (dv_is (HCD.out.mul32 HP.out.1 (w := 140) (by decide) (by have := HP.out.2; omega) (by decide)) hr1)
              have iq := HQ.out.is
              (refine hK.out _ _ (⟨cc, cs⟩) (fun hHeld => ?_); clear hK K; (try simp only [List.getElem_toArray, List.getElem_cons_zero, List.getElem_cons_succ, Act.put, List.setIfInBounds_toArray, List.set_cons_zero, List.set_cons_succ]))
              (refine wpAnyH_ready (rs := [3]) (by kernel_rfl) (by simp) ?_; refine AllReadyH.cons (i := 3) rfl (fun K hK => ?_) AllReadyH.nil)
              go_simp
              (refine hK.out _ _ (⟨cc, cs⟩) (fun hHeld => ?_); clear hK K; (try simp only [List.getElem_toArray, List.getElem_cons_zero, List.getElem_cons_succ, Act.put, List.setIfInBounds_toArray, List.set_cons_zero, List.set_cons_succ]))
              (refine wpAnyH_ready (rs := [10]) (by kernel_rfl) (by simp) ?_; refine AllReadyH.cons (i := 10) rfl (fun K hK => ?_) AllReadyH.nil)
              refine hstep_fa rfl .add 27 27 _ _ rfl rfl .f32 z r1 rfl rfl ix iq ?_
              intro r2 n2 hr2
              (refine hK.out _ _ (⟨cc, cs⟩) (fun hHeld => ?_); clear hK K; (try simp only [List.getElem_toArray, List.getElem_cons_zero, List.getElem_cons_succ, Act.put, List.setIfInBounds_toArray, List.set_cons_zero, List.set_cons_succ]))
              have HA := Lib.hid (dyis (HK1.out.addv32 HQ.out (by decide) (by have := HP.out.2; have := HBD.out 1 i1; omega)) hr2)
              have PT := FR.put (show FR w.heap.size (wr.drewN (1 + n1 + n2)) gf n xs from HR.out) (j := i1) (by omega) r2
              have HR5 := Lib.hid PT.1
              have HG5 := Lib.hid (grown_trans (grown_trans HG.out (grown_below (row := some gf) (below_drewN (Below.refl wr.heap.size wr) (1 + n1 + n2)))) PT.2)
              have cc5 := (HBX.out _ HG5.out).1; have cs5 := (HBX.out _ HG5.out).2.2.1
              clear PT
              ((refine wpAnyH_take (i := 11) (v := ?_) rfl (by kernel_rfl) (by kernel_rfl) (by kernel_rfl) (fun _ _ _ h => h) (Or.inl ⟨by rfl, ?_⟩) (by assumption) ?_; rotate_left; (· intro w hSw; (try dsimp only at hSw); go_simp; first | done | with_reducible rfl); (try simp only [List.getElem_toArray, List.getElem_cons_zero, List.getElem_cons_succ, Act.put, List.setIfInBounds_toArray, List.set_cons_zero, List.set_cons_succ])))
              (refine wpAnyH_ready (rs := [12]) (by kernel_rfl) (by simp) ?_; refine AllReadyH.cons (i := 12) rfl (fun K hK => ?_) AllReadyH.nil)
              go_simp
              (refine hK.out _ _ (⟨cc5, cs5⟩) (fun hHeld => ?_); clear hK K; (try simp only [List.getElem_toArray, List.getElem_cons_zero, List.getElem_cons_succ, Act.put, List.setIfInBounds_toArray, List.set_cons_zero, List.set_cons_succ]))
              (refine wpAnyH_done (by kernel_rfl) ?_ _; refine NoPanic.normal ?_)
              clear hHeld xk hf cc cs cc5 cs5 ix iy iz hr2
              go_wp2_with fail
              go_roundw
              case rel => exact ⟨1 + 1, by omega, rfl, HG5, _, HR5, Lib.hid (DyL.put (F := fun j => sumI (depAt a b j) ts k + cornTo i0 i1 i2 i3 (t.c * S0) (t.c * S1) (t.c * S2) (t.c * S3) 1 j) (G := fun j => sumI (depAt a b j) ts k + cornTo i0 i1 i2 i3 (t.c * S0) (t.c * S1) (t.c * S2) (t.c * S3) (1 + 1) j) HDY.out (by rw [HR.out.1]; exact (by omega)) HA.out (fun j => by show _ + cornTo _ _ _ _ _ _ _ _ (1 + 1) j = _ + cornTo _ _ _ _ _ _ _ _ 1 j + at1 _ _ j; rw [corn_s1]; omega))⟩
              case measure => simp [intOf]
          · have xk := HR.out.at HI.out.2.2.1
            have hf := HR.out.frozen i2
            have cc := (HBX.out wr HG.out).1; have cs := (HBX.out wr HG.out).2.2.2.1
            have HK1 := Lib.hid (HDY.out i2 (by rw [HR.out.1]; exact HI.out.2.2.1))
            have hj : (i2 : Int) < (n : Int) := by have := HI.out; omega
            have hj0 : (0 : Int) ≤ (i2 : Int) := Int.natCast_nonneg _
            have HP := Lib.hid (HSD.out.2.2.1)
            have ix := HK1.out.is; have iy := HCD.out.is; have iz := (HP.out).1.is
            generalize hz : xs.getD i2 0 = z at xk HK1 ix
            have HZ := Lib.hid hz
            clear hz
            have qx := fun W => (index_four' (.int .i64 i0) (.int .i64 i1) (.int .i64 i2) (.int .i64 i3) W).2.2.1
            go_wp2_with fail
            clear qx
            refine wp_region_noPanic ?_
            refine wp_region_held_drew (S := fun w' => w'.cell? ⟨bp, 2, none⟩ = some (.float .f32 (E8 t.c)) ∧ w'.cell? ⟨bs, 2, none⟩ = some (.float .f32 s2)) (by kernel_rfl) ⟨cc, cs⟩ (fun hHeld => ?_)
            ((refine wpAnyH_take (i := 0) (v := ?_) rfl (by kernel_rfl) (by kernel_rfl) (by kernel_rfl) (fun _ _ _ h => h) (Or.inl ⟨by rfl, ?_⟩) (by assumption) ?_; rotate_left; (· intro w hSw; (try dsimp only at hSw); go_simp; first | done | with_reducible rfl); (try simp only [List.getElem_toArray, List.getElem_cons_zero, List.getElem_cons_succ, Act.put, List.setIfInBounds_toArray, List.set_cons_zero, List.set_cons_succ])); (refine wpAnyH_take (i := 1) (v := ?_) rfl (by kernel_rfl) (by kernel_rfl) (by kernel_rfl) (fun _ _ _ h => h) (Or.inl ⟨by rfl, ?_⟩) (by assumption) ?_; rotate_left; (· intro w hSw; (try dsimp only at hSw); go_simp; first | done | with_reducible rfl); (try simp only [List.getElem_toArray, List.getElem_cons_zero, List.getElem_cons_succ, Act.put, List.setIfInBounds_toArray, List.set_cons_zero, List.set_cons_succ])); (refine wpAnyH_take (i := 2) (v := ?_) rfl (by kernel_rfl) (by kernel_rfl) (by kernel_rfl) (fun _ _ _ h => h) (Or.inl ⟨by rfl, ?_⟩) (by assumption) ?_; rotate_left; (· intro w hSw; (try dsimp only at hSw); go_simp; first | done | with_reducible rfl); (try simp only [List.getElem_toArray, List.getElem_cons_zero, List.getElem_cons_succ, Act.put, List.setIfInBounds_toArray, List.set_cons_zero, List.set_cons_succ])); (refine wpAnyH_take (i := 4) (v := ?_) rfl (by kernel_rfl) (by kernel_rfl) (by kernel_rfl) (fun _ _ _ h => h) (Or.inl ⟨by rfl, ?_⟩) (by assumption) ?_; rotate_left; (· intro w hSw; (try dsimp only at hSw); go_simp; first | done | with_reducible rfl); (try simp only [List.getElem_toArray, List.getElem_cons_zero, List.getElem_cons_succ, Act.put, List.setIfInBounds_toArray, List.set_cons_zero, List.set_cons_succ])); (refine wpAnyH_take (i := 5) (v := ?_) rfl (by kernel_rfl) (by kernel_rfl) (by kernel_rfl) (fun _ _ _ h => h) (Or.inl ⟨by rfl, ?_⟩) (by assumption) ?_; rotate_left; (· intro w hSw; (try dsimp only at hSw); go_simp; first | done | with_reducible rfl); (try simp only [List.getElem_toArray, List.getElem_cons_zero, List.getElem_cons_succ, Act.put, List.setIfInBounds_toArray, List.set_cons_zero, List.set_cons_succ])); (refine wpAnyH_take (i := 6) (v := ?_) rfl (by kernel_rfl) (by kernel_rfl) (by kernel_rfl) (fun _ _ _ h => h) (Or.inl ⟨by rfl, ?_⟩) (by assumption) ?_; rotate_left; (· intro w hSw; (try dsimp only at hSw); go_simp; first | done | with_reducible rfl); (try simp only [List.getElem_toArray, List.getElem_cons_zero, List.getElem_cons_succ, Act.put, List.setIfInBounds_toArray, List.set_cons_zero, List.set_cons_succ])); (refine wpAnyH_take (i := 7) (v := ?_) rfl (by kernel_rfl) (by kernel_rfl) (by kernel_rfl) (fun _ _ _ h => h) (Or.inl ⟨by rfl, ?_⟩) (by assumption) ?_; rotate_left; (· intro w hSw; (try dsimp only at hSw); go_simp; first | done | with_reducible rfl); (try simp only [List.getElem_toArray, List.getElem_cons_zero, List.getElem_cons_succ, Act.put, List.setIfInBounds_toArray, List.set_cons_zero, List.set_cons_succ])); (refine wpAnyH_take (i := 8) (v := ?_) rfl (by kernel_rfl) (by kernel_rfl) (by kernel_rfl) (fun _ _ _ h => h) (Or.inl ⟨by rfl, ?_⟩) (by assumption) ?_; rotate_left; (· intro w hSw; (try dsimp only at hSw); go_simp; first | done | with_reducible rfl); (try simp only [List.getElem_toArray, List.getElem_cons_zero, List.getElem_cons_succ, Act.put, List.setIfInBounds_toArray, List.set_cons_zero, List.set_cons_succ])))
            refine wpAnyH_ready (rs := [3, 9]) (by kernel_rfl) (by simp) ?_
            refine AllReadyH.cons (i := 3) rfl (fun K hK => ?_) (AllReadyH.cons (i := 9) rfl (fun K hK => ?_) AllReadyH.nil)
            · go_simp
              (refine hK.out _ _ (⟨cc, cs⟩) (fun hHeld => ?_); clear hK K; (try simp only [List.getElem_toArray, List.getElem_cons_zero, List.getElem_cons_succ, Act.put, List.setIfInBounds_toArray, List.set_cons_zero, List.set_cons_succ]))
              (refine wpAnyH_ready (rs := [9]) (by kernel_rfl) (by simp) ?_; refine AllReadyH.cons (i := 9) rfl (fun K hK => ?_) AllReadyH.nil)
              refine hstep_fa rfl .mul 27 27 _ _ rfl rfl .f32 (E8 t.c) s2 rfl rfl iy iz ?_
              intro r1 n1 hr1
              have HQ := Lib.hid (dv_is (HCD.out.mul32 HP.out.1 (w := 140) (by decide) (by have := HP.out.2; omega) (by decide)) hr1)
              have iq := HQ.out.is
              (refine hK.out _ _ (⟨cc, cs⟩) (fun hHeld => ?_); clear hK K; (try simp only [List.getElem_toArray, List.getElem_cons_zero, List.getElem_cons_succ, Act.put, List.setIfInBounds_toArray, List.set_cons_zero, List.set_cons_succ]))
              (refine wpAnyH_ready (rs := [10]) (by kernel_rfl) (by simp) ?_; refine AllReadyH.cons (i := 10) rfl (fun K hK => ?_) AllReadyH.nil)
              refine hstep_fa rfl .add 27 27 _ _ rfl rfl .f32 z r1 rfl rfl ix iq ?_
              intro r2 n2 hr2
              (refine hK.out _ _ (⟨cc, cs⟩) (fun hHeld => ?_); clear hK K; (try simp only [List.getElem_toArray, List.getElem_cons_zero, List.getElem_cons_succ, Act.put, List.setIfInBounds_toArray, List.set_cons_zero, List.set_cons_succ]))
              have HA := Lib.hid (dyis (HK1.out.addv32 HQ.out (by decide) (by have := HP.out.2; have := HBD.out 2 i2; omega)) hr2)
              have PT := FR.put (show FR w.heap.size (wr.drewN (1 + n1 + n2)) gf n xs from HR.out) (j := i2) (by omega) r2
              have HR5 := Lib.hid PT.1
              have HG5 := Lib.hid (grown_trans (grown_trans HG.out (grown_below (row := some gf) (below_drewN (Below.refl wr.heap.size wr) (1 + n1 + n2)))) PT.2)
              have cc5 := (HBX.out _ HG5.out).1; have cs5 := (HBX.out _ HG5.out).2.2.2.1
              clear PT
              ((refine wpAnyH_take (i := 11) (v := ?_) rfl (by kernel_rfl) (by kernel_rfl) (by kernel_rfl) (fun _ _ _ h => h) (Or.inl ⟨by rfl, ?_⟩) (by assumption) ?_; rotate_left; (· intro w hSw; (try dsimp only at hSw); go_simp; first | done | with_reducible rfl); (try simp only [List.getElem_toArray, List.getElem_cons_zero, List.getElem_cons_succ, Act.put, List.setIfInBounds_toArray, List.set_cons_zero, List.set_cons_succ])))
              (refine wpAnyH_ready (rs := [12]) (by kernel_rfl) (by simp) ?_; refine AllReadyH.cons (i := 12) rfl (fun K hK => ?_) AllReadyH.nil)
              go_simp
              (refine hK.out _ _ (⟨cc5, cs5⟩) (fun hHeld => ?_); clear hK K; (try simp only [List.getElem_toArray, List.getElem_cons_zero, List.getElem_cons_succ, Act.put, List.setIfInBounds_toArray, List.set_cons_zero, List.set_cons_succ]))
              (refine wpAnyH_done (by kernel_rfl) ?_ _; refine NoPanic.normal ?_)
              clear hHeld xk hf cc cs cc5 cs5 ix iy iz hr2
              go_wp2_with fail
              go_roundw
              case rel => exact ⟨2 + 1, by omega, rfl, HG5, _, HR5, Lib.hid (DyL.put (F := fun j => sumI (depAt a b j) ts k + cornTo i0 i1 i2 i3 (t.c * S0) (t.c * S1) (t.c * S2) (t.c * S3) 2 j) (G := fun j => sumI (depAt a b j) ts k + cornTo i0 i1 i2 i3 (t.c * S0) (t.c * S1) (t.c * S2) (t.c * S3) (2 + 1) j) HDY.out (by rw [HR.out.1]; exact (by omega)) HA.out (fun j => by show _ + cornTo _ _ _ _ _ _ _ _ (2 + 1) j = _ + cornTo _ _ _ _ _ _ _ _ 2 j + at1 _ _ j; rw [corn_s2]; omega))⟩
              case measure => simp [intOf]
            · refine hstep_fa rfl .mul 27 27 _ _ rfl rfl .f32 (E8 t.c) s2 rfl rfl iy iz ?_
              intro r1 n1 hr1
              have HQ := Lib.hid (dv_is (HCD.out.mul32 HP.out.1 (w := 140) (by decide) (by have := HP.out.2; omega) (by decide)) hr1)
              have iq := HQ.out.is
              (refine hK.out _ _ (⟨cc, cs⟩) (fun hHeld => ?_); clear hK K; (try simp only [List.getElem_toArray, List.getElem_cons_zero, List.getElem_cons_succ, Act.put, List.setIfInBounds_toArray, List.set_cons_zero, List.set_cons_succ]))
              (refine wpAnyH_ready (rs := [3]) (by kernel_rfl) (by simp) ?_; refine AllReadyH.cons (i := 3) rfl (fun K hK => ?_) AllReadyH.nil)
              go_simp
              (refine hK.out _ _ (⟨cc, cs⟩) (fun hHeld => ?_); clear hK K; (try simp only [List.getElem_toArray, List.getElem_cons_zero, List.getElem_cons_succ, Act.put, List.setIfInBounds_toArray, List.set_cons_zero, List.set_cons_succ]))
              (refine wpAnyH_ready (rs := [10]) (by kernel_rfl) (by simp) ?_; refine AllReadyH.cons (i := 10) rfl (fun K hK => ?_) AllReadyH.nil)
              refine hstep_fa rfl .add 27 27 _ _ rfl rfl .f32 z r1 rfl rfl ix iq ?_
              intro r2 n2 hr2
              (refine hK.out _ _ (⟨cc, cs⟩) (fun hHeld => ?_); clear hK K; (try simp only [List.getElem_toArray, List.getElem_cons_zero, List.getElem_cons_succ, Act.put, List.setIfInBounds_toArray, List.set_cons_zero, List.set_cons_succ]))
              have HA := Lib.hid (dyis (HK1.out.addv32 HQ.out (by decide) (by have := HP.out.2; have := HBD.out 2 i2; omega)) hr2)
              have PT := FR.put (show FR w.heap.size (wr.drewN (1 + n1 + n2)) gf n xs from HR.out) (j := i2) (by omega) r2
              have HR5 := Lib.hid PT.1
              have HG5 := Lib.hid (grown_trans (grown_trans HG.out (grown_below (row := some gf) (below_drewN (Below.refl wr.heap.size wr) (1 + n1 + n2)))) PT.2)
              have cc5 := (HBX.out _ HG5.out).1; have cs5 := (HBX.out _ HG5.out).2.2.2.1
              clear PT
              ((refine wpAnyH_take (i := 11) (v := ?_) rfl (by kernel_rfl) (by kernel_rfl) (by kernel_rfl) (fun _ _ _ h => h) (Or.inl ⟨by rfl, ?_⟩) (by assumption) ?_; rotate_left; (· intro w hSw; (try dsimp only at hSw); go_simp; first | done | with_reducible rfl); (try simp only [List.getElem_toArray, List.getElem_cons_zero, List.getElem_cons_succ, Act.put, List.setIfInBounds_toArray, List.set_cons_zero, List.set_cons_succ])))
              (refine wpAnyH_ready (rs := [12]) (by kernel_rfl) (by simp) ?_; refine AllReadyH.cons (i := 12) rfl (fun K hK => ?_) AllReadyH.nil)
              go_simp
              (refine hK.out _ _ (⟨cc5, cs5⟩) (fun hHeld => ?_); clear hK K; (try simp only [List.getElem_toArray, List.getElem_cons_zero, List.getElem_cons_succ, Act.put, List.setIfInBounds_toArray, List.set_cons_zero, List.set_cons_succ]))
              (refine wpAnyH_done (by kernel_rfl) ?_ _; refine NoPanic.normal ?_)
              clear hHeld xk hf cc cs cc5 cs5 ix iy iz hr2
              go_wp2_with fail
              go_roundw
              case rel => exact ⟨2 + 1, by omega, rfl, HG5, _, HR5, Lib.hid (DyL.put (F := fun j => sumI (depAt a b j) ts k + cornTo i0 i1 i2 i3 (t.c * S0) (t.c * S1) (t.c * S2) (t.c * S3) 2 j) (G := fun j => sumI (depAt a b j) ts k + cornTo i0 i1 i2 i3 (t.c * S0) (t.c * S1) (t.c * S2) (t.c * S3) (2 + 1) j) HDY.out (by rw [HR.out.1]; exact (by omega)) HA.out (fun j => by show _ + cornTo _ _ _ _ _ _ _ _ (2 + 1) j = _ + cornTo _ _ _ _ _ _ _ _ 2 j + at1 _ _ j; rw [corn_s2]; omega))⟩
              case measure => simp [intOf]
          · have xk := HR.out.at HI.out.2.2.2
            have hf := HR.out.frozen i3
            have cc := (HBX.out wr HG.out).1; have cs := (HBX.out wr HG.out).2.2.2.2
            have HK1 := Lib.hid (HDY.out i3 (by rw [HR.out.1]; exact HI.out.2.2.2))
            have hj : (i3 : Int) < (n : Int) := by have := HI.out; omega
            have hj0 : (0 : Int) ≤ (i3 : Int) := Int.natCast_nonneg _
            have HP := Lib.hid (HSD.out.2.2.2)
            have ix := HK1.out.is; have iy := HCD.out.is; have iz := (HP.out).1.is
            generalize hz : xs.getD i3 0 = z at xk HK1 ix
            have HZ := Lib.hid hz
            clear hz
            have qx := fun W => (index_four' (.int .i64 i0) (.int .i64 i1) (.int .i64 i2) (.int .i64 i3) W).2.2.2
            go_wp2_with fail
            clear qx
            refine wp_region_noPanic ?_
            refine wp_region_held_drew (S := fun w' => w'.cell? ⟨bp, 2, none⟩ = some (.float .f32 (E8 t.c)) ∧ w'.cell? ⟨bs, 3, none⟩ = some (.float .f32 s3)) (by kernel_rfl) ⟨cc, cs⟩ (fun hHeld => ?_)
            ((refine wpAnyH_take (i := 0) (v := ?_) rfl (by kernel_rfl) (by kernel_rfl) (by kernel_rfl) (fun _ _ _ h => h) (Or.inl ⟨by rfl, ?_⟩) (by assumption) ?_; rotate_left; (· intro w hSw; (try dsimp only at hSw); go_simp; first | done | with_reducible rfl); (try simp only [List.getElem_toArray, List.getElem_cons_zero, List.getElem_cons_succ, Act.put, List.setIfInBounds_toArray, List.set_cons_zero, List.set_cons_succ])); (refine wpAnyH_take (i := 1) (v := ?_) rfl (by kernel_rfl) (by kernel_rfl) (by kernel_rfl) (fun _ _ _ h => h) (Or.inl ⟨by rfl, ?_⟩) (by assumption) ?_; rotate_left; (· intro w hSw; (try dsimp only at hSw); go_simp; first | done | with_reducible rfl); (try simp only [List.getElem_toArray, List.getElem_cons_zero, List.getElem_cons_succ, Act.put, List.setIfInBounds_toArray, List.set_cons_zero, List.set_cons_succ])); (refine wpAnyH_take (i := 2) (v := ?_) rfl (by kernel_rfl) (by kernel_rfl) (by kernel_rfl) (fun _ _ _ h => h) (Or.inl ⟨by rfl, ?_⟩) (by assumption) ?_; rotate_left; (· intro w hSw; (try dsimp only at hSw); go_simp; first | done | with_reducible rfl); (try simp only [List.getElem_toArray, List.getElem_cons_zero, List.getElem_cons_succ, Act.put, List.setIfInBounds_toArray, List.set_cons_zero, List.set_cons_succ])); (refine wpAnyH_take (i := 4) (v := ?_) rfl (by kernel_rfl) (by kernel_rfl) (by kernel_rfl) (fun _ _ _ h => h) (Or.inl ⟨by rfl, ?_⟩) (by assumption) ?_; rotate_left; (· intro w hSw; (try dsimp only at hSw); go_simp; first | done | with_reducible rfl); (try simp only [List.getElem_toArray, List.getElem_cons_zero, List.getElem_cons_succ, Act.put, List.setIfInBounds_toArray, List.set_cons_zero, List.set_cons_succ])); (refine wpAnyH_take (i := 5) (v := ?_) rfl (by kernel_rfl) (by kernel_rfl) (by kernel_rfl) (fun _ _ _ h => h) (Or.inl ⟨by rfl, ?_⟩) (by assumption) ?_; rotate_left; (· intro w hSw; (try dsimp only at hSw); go_simp; first | done | with_reducible rfl); (try simp only [List.getElem_toArray, List.getElem_cons_zero, List.getElem_cons_succ, Act.put, List.setIfInBounds_toArray, List.set_cons_zero, List.set_cons_succ])); (refine wpAnyH_take (i := 6) (v := ?_) rfl (by kernel_rfl) (by kernel_rfl) (by kernel_rfl) (fun _ _ _ h => h) (Or.inl ⟨by rfl, ?_⟩) (by assumption) ?_; rotate_left; (· intro w hSw; (try dsimp only at hSw); go_simp; first | done | with_reducible rfl); (try simp only [List.getElem_toArray, List.getElem_cons_zero, List.getElem_cons_succ, Act.put, List.setIfInBounds_toArray, List.set_cons_zero, List.set_cons_succ])); (refine wpAnyH_take (i := 7) (v := ?_) rfl (by kernel_rfl) (by kernel_rfl) (by kernel_rfl) (fun _ _ _ h => h) (Or.inl ⟨by rfl, ?_⟩) (by assumption) ?_; rotate_left; (· intro w hSw; (try dsimp only at hSw); go_simp; first | done | with_reducible rfl); (try simp only [List.getElem_toArray, List.getElem_cons_zero, List.getElem_cons_succ, Act.put, List.setIfInBounds_toArray, List.set_cons_zero, List.set_cons_succ])); (refine wpAnyH_take (i := 8) (v := ?_) rfl (by kernel_rfl) (by kernel_rfl) (by kernel_rfl) (fun _ _ _ h => h) (Or.inl ⟨by rfl, ?_⟩) (by assumption) ?_; rotate_left; (· intro w hSw; (try dsimp only at hSw); go_simp; first | done | with_reducible rfl); (try simp only [List.getElem_toArray, List.getElem_cons_zero, List.getElem_cons_succ, Act.put, List.setIfInBounds_toArray, List.set_cons_zero, List.set_cons_succ])))
            refine wpAnyH_ready (rs := [3, 9]) (by kernel_rfl) (by simp) ?_
            refine AllReadyH.cons (i := 3) rfl (fun K hK => ?_) (AllReadyH.cons (i := 9) rfl (fun K hK => ?_) AllReadyH.nil)
            · go_simp
              (refine hK.out _ _ (⟨cc, cs⟩) (fun hHeld => ?_); clear hK K; (try simp only [List.getElem_toArray, List.getElem_cons_zero, List.getElem_cons_succ, Act.put, List.setIfInBounds_toArray, List.set_cons_zero, List.set_cons_succ]))
              (refine wpAnyH_ready (rs := [9]) (by kernel_rfl) (by simp) ?_; refine AllReadyH.cons (i := 9) rfl (fun K hK => ?_) AllReadyH.nil)
              refine hstep_fa rfl .mul 27 27 _ _ rfl rfl .f32 (E8 t.c) s3 rfl rfl iy iz ?_
              intro r1 n1 hr1
              have HQ := Lib.hid (dv_is (HCD.out.mul32 HP.out.1 (w := 140) (by decide) (by have := HP.out.2; omega) (by decide)) hr1)
              have iq := HQ.out.is
              (refine hK.out _ _ (⟨cc, cs⟩) (fun hHeld => ?_); clear hK K; (try simp only [List.getElem_toArray, List.getElem_cons_zero, List.getElem_cons_succ, Act.put, List.setIfInBounds_toArray, List.set_cons_zero, List.set_cons_succ]))
              (refine wpAnyH_ready (rs := [10]) (by kernel_rfl) (by simp) ?_; refine AllReadyH.cons (i := 10) rfl (fun K hK => ?_) AllReadyH.nil)
              refine hstep_fa rfl .add 27 27 _ _ rfl rfl .f32 z r1 rfl rfl ix iq ?_
              intro r2 n2 hr2
              (refine hK.out _ _ (⟨cc, cs⟩) (fun hHeld => ?_); clear hK K; (try simp only [List.getElem_toArray, List.getElem_cons_zero, List.getElem_cons_succ, Act.put, List.setIfInBounds_toArray, List.set_cons_zero, List.set_cons_succ]))
              have HA := Lib.hid (dyis (HK1.out.addv32 HQ.out (by decide) (by have := HP.out.2; have := HBD.out 3 i3; omega)) hr2)
              have PT := FR.put (show FR w.heap.size (wr.drewN (1 + n1 + n2)) gf n xs from HR.out) (j := i3) (by omega) r2
              have HR5 := Lib.hid PT.1
              have HG5 := Lib.hid (grown_trans (grown_trans HG.out (grown_below (row := some gf) (below_drewN (Below.refl wr.heap.size wr) (1 + n1 + n2)))) PT.2)
              have cc5 := (HBX.out _ HG5.out).1; have cs5 := (HBX.out _ HG5.out).2.2.2.2
              clear PT
              ((refine wpAnyH_take (i := 11) (v := ?_) rfl (by kernel_rfl) (by kernel_rfl) (by kernel_rfl) (fun _ _ _ h => h) (Or.inl ⟨by rfl, ?_⟩) (by assumption) ?_; rotate_left; (· intro w hSw; (try dsimp only at hSw); go_simp; first | done | with_reducible rfl); (try simp only [List.getElem_toArray, List.getElem_cons_zero, List.getElem_cons_succ, Act.put, List.setIfInBounds_toArray, List.set_cons_zero, List.set_cons_succ])))
              (refine wpAnyH_ready (rs := [12]) (by kernel_rfl) (by simp) ?_; refine AllReadyH.cons (i := 12) rfl (fun K hK => ?_) AllReadyH.nil)
              go_simp
              (refine hK.out _ _ (⟨cc5, cs5⟩) (fun hHeld => ?_); clear hK K; (try simp only [List.getElem_toArray, List.getElem_cons_zero, List.getElem_cons_succ, Act.put, List.setIfInBounds_toArray, List.set_cons_zero, List.set_cons_succ]))
              (refine wpAnyH_done (by kernel_rfl) ?_ _; refine NoPanic.normal ?_)
              clear hHeld xk hf cc cs cc5 cs5 ix iy iz hr2
              go_wp2_with fail
              go_roundw
              case rel => exact ⟨3 + 1, by omega, rfl, HG5, _, HR5, Lib.hid (DyL.put (F := fun j => sumI (depAt a b j) ts k + cornTo i0 i1 i2 i3 (t.c * S0) (t.c * S1) (t.c * S2) (t.c * S3) 3 j) (G := fun j => sumI (depAt a b j) ts k + cornTo i0 i1 i2 i3 (t.c * S0) (t.c * S1) (t.c * S2) (t.c * S3) (3 + 1) j) HDY.out (by rw [HR.out.1]; exact (by omega)) HA.out (fun j => by show _ + cornTo _ _ _ _ _ _ _ _ (3 + 1) j = _ + cornTo _ _ _ _ _ _ _ _ 3 j + at1 _ _ j; rw [corn_s3]; omega))⟩
              case measure => simp [intOf]
            · refine hstep_fa rfl .mul 27 27 _ _ rfl rfl .f32 (E8 t.c) s3 rfl rfl iy iz ?_
              intro r1 n1 hr1
              have HQ := Lib.hid (dv_is (HCD.out.mul32 HP.out.1 (w := 140) (by decide) (by have := HP.out.2; omega) (by decide)) hr1)
              have iq := HQ.out.is
              (refine hK.out _ _ (⟨cc, cs⟩) (fun hHeld => ?_); clear hK K; (try simp only [List.getElem_toArray, List.getElem_cons_zero, List.getElem_cons_succ, Act.put, List.setIfInBounds_toArray, List.set_cons_zero, List.set_cons_succ]))
              (refine wpAnyH_ready (rs := [3]) (by kernel_rfl) (by simp) ?_; refine AllReadyH.cons (i := 3) rfl (fun K hK => ?_) AllReadyH.nil)
              go_simp
              (refine hK.out _ _ (⟨cc, cs⟩) (fun hHeld => ?_); clear hK K; (try simp only [List.getElem_toArray, List.getElem_cons_zero, List.getElem_cons_succ, Act.put, List.setIfInBounds_toArray, List.set_cons_zero, List.set_cons_succ]))
              (refine wpAnyH_ready (rs := [10]) (by kernel_rfl) (by simp) ?_; refine AllReadyH.cons (i := 10) rfl (fun K hK => ?_) AllReadyH.nil)
              refine hstep_fa rfl .add 27 27 _ _ rfl rfl .f32 z r1 rfl rfl ix iq ?_
              intro r2 n2 hr2
              (refine hK.out _ _ (⟨cc, cs⟩) (fun hHeld => ?_); clear hK K; (try simp only [List.getElem_toArray, List.getElem_cons_zero, List.getElem_cons_succ, Act.put, List.setIfInBounds_toArray, List.set_cons_zero, List.set_cons_succ]))
              have HA := Lib.hid (dyis (HK1.out.addv32 HQ.out (by decide) (by have := HP.out.2; have := HBD.out 3 i3; omega)) hr2)
              have PT := FR.put (show FR w.heap.size (wr.drewN (1 + n1 + n2)) gf n xs from HR.out) (j := i3) (by omega) r2
              have HR5 := Lib.hid PT.1
              have HG5 := Lib.hid (grown_trans (grown_trans HG.out (grown_below (row := some gf) (below_drewN (Below.refl wr.heap.size wr) (1 + n1 + n2)))) PT.2)
              have cc5 := (HBX.out _ HG5.out).1; have cs5 := (HBX.out _ HG5.out).2.2.2.2
              clear PT
              ((refine wpAnyH_take (i := 11) (v := ?_) rfl (by kernel_rfl) (by kernel_rfl) (by kernel_rfl) (fun _ _ _ h => h) (Or.inl ⟨by rfl, ?_⟩) (by assumption) ?_; rotate_left; (· intro w hSw; (try dsimp only at hSw); go_simp; first | done | with_reducible rfl); (try simp only [List.getElem_toArray, List.getElem_cons_zero, List.getElem_cons_succ, Act.put, List.setIfInBounds_toArray, List.set_cons_zero, List.set_cons_succ])))
              (refine wpAnyH_ready (rs := [12]) (by kernel_rfl) (by simp) ?_; refine AllReadyH.cons (i := 12) rfl (fun K hK => ?_) AllReadyH.nil)
              go_simp
              (refine hK.out _ _ (⟨cc5, cs5⟩) (fun hHeld => ?_); clear hK K; (try simp only [List.getElem_toArray, List.getElem_cons_zero, List.getElem_cons_succ, Act.put, List.setIfInBounds_toArray, List.set_cons_zero, List.set_cons_succ]))
              (refine wpAnyH_done (by kernel_rfl) ?_ _; refine NoPanic.normal ?_)
              clear hHeld xk hf cc cs cc5 cs5 ix iy iz hr2
              go_wp2_with fail
              go_roundw
              case rel => exact ⟨3 + 1, by omega, rfl, HG5, _, HR5, Lib.hid (DyL.put (F := fun j => sumI (depAt a b j) ts k + cornTo i0 i1 i2 i3 (t.c * S0) (t.c * S1) (t.c * S2) (t.c * S3) 3 j) (G := fun j => sumI (depAt a b j) ts k + cornTo i0 i1 i2 i3 (t.c * S0) (t.c * S1) (t.c * S2) (t.c * S3) (3 + 1) j) HDY.out (by rw [HR.out.1]; exact (by omega)) HA.out (fun j => by show _ + cornTo _ _ _ _ _ _ _ _ (3 + 1) j = _ + cornTo _ _ _ _ _ _ _ _ 3 j + at1 _ _ j; rw [corn_s3]; omega))⟩
              case measure => simp [intOf]
        · obtain rfl : c = 4 := by omega
          clear hc hlt4
          go_wp2_with fail
          go_roundw
          case rel => exact ⟨k + 1, by omega, by go_num, Lib.hid (grown_trans HG4.out HG.out), xs, HR, Lib.hid (fun j hj => by have h5 := HDY.out j hj; show Dy .f32 140 _ (sumI (depAt a b j) ts (k + 1)); rw [← HE.out j]; exact h5)⟩
          case measure => simp [intOf]; omega
    · obtain rfl : k = ts.length := by omega
      clear hlt
      go_wp2
      go_ret2
      exact ⟨⟨_, xs, rfl, by unfold FOwn; rw [HR.out.1]; exact HR.out.2, by rw [HR.out.1]; exact HNN.out.symm, HDY.out⟩, below_row HB5.out HB5.out.size (Nat.le_of_lt HGF.out) HG.out⟩
end Go.Proofs.Ytahgnjmdlhidpaa
