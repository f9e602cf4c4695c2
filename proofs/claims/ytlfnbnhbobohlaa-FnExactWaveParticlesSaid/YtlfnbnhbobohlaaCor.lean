/-
  Places in eighths: the cell, the corners.
-/
import Derived.Test.YtlfnbnhbobohlaaPl
import Derived.Test.YtlfnbnhbobohlaaShift
namespace Go.Proofs.Ytlfnbnhbobohlaa
open Go.Fl Go.RowKit

theorem below_up {w w1 w2 : World} (h : Below w.heap.size w w1) (k : Below w1.heap.size w1 w2) : Below w.heap.size w w2 :=
  h.trans ⟨k.os, k.tape, k.output, k.size, fun i hi => k.block i (Nat.lt_of_lt_of_le hi h.size)⟩

theorem small_grid {a b : Int} (ha : 4 ≤ a) (ha' : a ≤ 7) (hb : 4 ≤ b) (hb' : b ≤ 7) : gridOk a b = true := by
  unfold gridOk; exact decide_eq_true (by omega)

theorem between (a n : Int) (ha : 4 ≤ a) (ha' : a ≤ 7) : 0 ≤ n % (8 * a) ∧ n % (8 * a) < 56 := by
  have k1 := Int.emod_nonneg n (show 8 * a ≠ 0 by omega)
  have k2 := Int.emod_lt_of_pos n (show 0 < 8 * a by omega)
  omega


/-- The index of a corner. -/
def cornIx (a b x y : Int) : Int := x % a + a * (y % b)
theorem cornIx_nn (a b x y : Int) (ha : 4 ≤ a) (hb : 4 ≤ b) : 0 ≤ cornIx a b x y :=
  Int.add_nonneg (emod_facts a x ha).1 (Int.mul_nonneg (by omega) (emod_facts b y hb).1)
theorem iIndex_any (a b x y : Int) (w : World) (ha : 4 ≤ a ∧ a ≤ 16) (hb : 4 ≤ b ∧ b ≤ 16) :
    Calls Try.prog 71 #[GV a b, .int .i64 x, .int .i64 y] w fun e w' => e = .returned (.int .i64 (cornIx a b x y)) ∧ Below w.heap.size w w' := by
  have h : ((cornIx a b x y).toNat : Int) = cornIx a b x y := Int.toNat_of_nonneg (cornIx_nn a b x y ha.1 hb.1)
  have := indexOf_any a b x y (cornIx a b x y).toNat w ha hb h
  rw [h] at this
  exact this



theorem four_far {W : World} {k g o : Nat} {v0 v1 v2 v3 u : Value} (h : k ≠ g) (e : W.cell? ⟨g, o, none⟩ = some u) : ((((W.setCell ⟨k, 0, none⟩ v0).setCell ⟨k, 1, none⟩ v1).setCell ⟨k, 2, none⟩ v2).setCell ⟨k, 3, none⟩ v3).cell? ⟨g, o, none⟩ = some u := by
  rw [World.cell?_setCell_far _ _ _ _ h, World.cell?_setCell_far _ _ _ _ h, World.cell?_setCell_far _ _ _ _ h, World.cell?_setCell_far _ _ _ _ h]
  exact e

abbrev CornV (a b x y : Int) : Value := .agg #[.int .i64 (cornIx a b x y), .int .i64 (cornIx a b (x + 1) y), .int .i64 (cornIx a b x (y + 1)), .int .i64 (cornIx a b (x + 1) (y + 1))]

set_option maxHeartbeats 2000000 in
set_option maxRecDepth 100000 in
theorem iCorners_e8 (a b : Int) (ha : 4 ≤ a) (ha' : a ≤ 7) (hb : 4 ≤ b) (hb' : b ≤ 7) (n m : Int) (n0 : -112 ≤ n) (n1 : n < 248) (m0 : -112 ≤ m) (m1 : m < 248) (w : World) :
    Calls Try.prog 101 #[GV a b, .complex .f32 (E8 n) (E8 m)] w fun e w' => e = .returned (CornV a b (n % (8 * a) / 8) (m % (8 * b) / 8)) ∧ Below w.heap.size w w' := by
  have hq := between a n ha ha'
  have hp := between b m hb hb'
  have HP2 := Lib.hid ((gp_new w a b 27).below ((Below.refl _ _).alloc (Nat.le_refl _) (.cells #[.int .i64 0, .int .i64 0, .int .i64 0, .int .i64 0] 115)))
  have HB2 := Lib.hid (below_up ((Below.refl w.heap.size w).alloc (Nat.le_refl _) (.cells #[.int .i64 a, .int .i64 b] 27)) ((Below.refl _ _).alloc (Nat.le_refl _) (.cells #[.int .i64 0, .int .i64 0, .int .i64 0, .int .i64 0] 115)))
  have HZ2 := Lib.hid (show ((w.alloc (.cells #[.int .i64 a, .int .i64 b] 27)).alloc (.cells #[.int .i64 0, .int .i64 0, .int .i64 0, .int .i64 0] 115)).heap[w.heap.size + 1]? = some (.cells #[.int .i64 0, .int .i64 0, .int .i64 0, .int .i64 0] 115) by
    have := heap_alloc_new (w.alloc (.cells #[.int .i64 a, .int .i64 b] 27)) (.cells #[.int .i64 0, .int .i64 0, .int .i64 0, .int .i64 0] 115)
    rwa [show (w.alloc (.cells #[.int .i64 a, .int .i64 b] 27)).heap.size = w.heap.size + 1 by simp] at this)
  have HS2 := Lib.hid (show w.heap.size + 1 < ((w.alloc (.cells #[.int .i64 a, .int .i64 b] 27)).alloc (.cells #[.int .i64 0, .int .i64 0, .int .i64 0, .int .i64 0] 115)).heap.size by simp)
  obtain ⟨x, hx⟩ : ∃ x, x = n % (8 * a) / 8 := ⟨_, rfl⟩
  obtain ⟨y, hy⟩ : ∃ y, y = m % (8 * b) / 8 := ⟨_, rfl⟩
  rw [← hx, ← hy]
  have HXY := Lib.hid (And.intro hx hy)
  have hx0 : 0 ≤ x ∧ x < 7 := by omega
  have hy0 : 0 ≤ y ∧ y < 7 := by omega
  have hv1 : IntKind.i64.wrap (x + 1) = x + 1 := by rw [wrap_i64]; exact wrap64_of (by omega) (by omega)
  have hv2 : IntKind.i64.wrap (y + 1) = y + 1 := by rw [wrap_i64]; exact wrap64_of (by omega) (by omega)
  clear hx hy hx0 hy0
  go_enter Try.func101, Try.ntmps101
  go_wp2_with fail
  generalize (w.alloc (.cells #[.int .i64 a, .int .i64 b] 27)).alloc (.cells #[.int .i64 0, .int .i64 0, .int .i64 0, .int .i64 0] 115) = w2 at HP2 HB2 HZ2 HS2 ⊢
  refine (iWrapped_e8 a b ha ha' hb hb' n m n0 n1 m0 m1 _).mono ?_
  rintro e w3 ⟨rfl, h3⟩
  have HD3 := Lib.hid h3
  clear h3
  go_wp2_with fail
  refine (iCorner_e8 _ _ hq.1 hq.2 hp.1 hp.2 _).mono ?_
  rintro e w4 ⟨rfl, h4⟩
  obtain rfl := h4.symm
  rw [← HXY.out.1, ← HXY.out.2]
  go_wp2_with fail
  have c0 := (HP2.out.ever _ HD3.out).1
  have c1 := (HP2.out.ever _ HD3.out).2
  have hd3 := HD3.out.drew
  refine wp_region_noPanic ?_
  refine wp_region_held_drew (S := fun w' => w'.cell? ⟨w.heap.size, 0, none⟩ = some (.int .i64 a) ∧ w'.cell? ⟨w.heap.size, 1, none⟩ = some (.int .i64 b)) (by kernel_rfl) ⟨c0, c1⟩ (fun hHeld => ?_)
  ((refine wpAnyH_take (i := 0) (v := ?_) rfl (by kernel_rfl) (by kernel_rfl) (by kernel_rfl) (fun _ _ _ h => h) (Or.inl ⟨by rfl, ?_⟩) (by assumption) ?_; rotate_left; (· intro w hSw; (try dsimp only at hSw); go_simp; first | done | with_reducible rfl); (try simp only [List.getElem_toArray, List.getElem_cons_zero, Act.put, List.setIfInBounds_toArray, List.set_cons_zero, List.set_cons_succ])))
  ((refine wpAnyH_take (i := 1) (v := ?_) rfl (by kernel_rfl) (by kernel_rfl) (by kernel_rfl) (fun _ _ _ h => h) (Or.inl ⟨by rfl, ?_⟩) (by assumption) ?_; rotate_left; (· intro w hSw; (try dsimp only at hSw); go_simp; first | done | with_reducible rfl); (try simp only [List.getElem_toArray, List.getElem_cons_zero, List.getElem_cons_succ, Act.put, List.setIfInBounds_toArray, List.set_cons_zero, List.set_cons_succ])); (refine wpAnyH_take (i := 2) (v := ?_) rfl (by kernel_rfl) (by kernel_rfl) (by kernel_rfl) (fun _ _ _ h => h) (Or.inl ⟨by rfl, ?_⟩) (by assumption) ?_; rotate_left; (· intro w hSw; (try dsimp only at hSw); go_simp; first | done | with_reducible rfl); (try simp only [List.getElem_toArray, List.getElem_cons_zero, List.getElem_cons_succ, Act.put, List.setIfInBounds_toArray, List.set_cons_zero, List.set_cons_succ])); (refine wpAnyH_take (i := 4) (v := ?_) rfl (by kernel_rfl) (by kernel_rfl) (by kernel_rfl) (fun _ _ _ h => h) (Or.inl ⟨by rfl, ?_⟩) (by assumption) ?_; rotate_left; (· intro w hSw; (try dsimp only at hSw); go_simp; first | done | with_reducible rfl); (try simp only [List.getElem_toArray, List.getElem_cons_zero, List.getElem_cons_succ, Act.put, List.setIfInBounds_toArray, List.set_cons_zero, List.set_cons_succ])); (refine wpAnyH_take (i := 5) (v := ?_) rfl (by kernel_rfl) (by kernel_rfl) (by kernel_rfl) (fun _ _ _ h => h) (Or.inl ⟨by rfl, ?_⟩) (by assumption) ?_; rotate_left; (· intro w hSw; (try dsimp only at hSw); go_simp; first | done | with_reducible rfl); (try simp only [List.getElem_toArray, List.getElem_cons_zero, List.getElem_cons_succ, Act.put, List.setIfInBounds_toArray, List.set_cons_zero, List.set_cons_succ])); (refine wpAnyH_take (i := 6) (v := ?_) rfl (by kernel_rfl) (by kernel_rfl) (by kernel_rfl) (fun _ _ _ h => h) (Or.inl ⟨by rfl, ?_⟩) (by assumption) ?_; rotate_left; (· intro w hSw; (try dsimp only at hSw); go_simp; first | done | with_reducible rfl); (try simp only [List.getElem_toArray, List.getElem_cons_zero, List.getElem_cons_succ, Act.put, List.setIfInBounds_toArray, List.set_cons_zero, List.set_cons_succ])); (refine wpAnyH_take (i := 7) (v := ?_) rfl (by kernel_rfl) (by kernel_rfl) (by kernel_rfl) (fun _ _ _ h => h) (Or.inl ⟨by rfl, ?_⟩) (by assumption) ?_; rotate_left; (· intro w hSw; (try dsimp only at hSw); go_simp; first | done | with_reducible rfl); (try simp only [List.getElem_toArray, List.getElem_cons_zero, List.getElem_cons_succ, Act.put, List.setIfInBounds_toArray, List.set_cons_zero, List.set_cons_succ])); (refine wpAnyH_take (i := 9) (v := ?_) rfl (by kernel_rfl) (by kernel_rfl) (by kernel_rfl) (fun _ _ _ h => h) (Or.inl ⟨by rfl, ?_⟩) (by assumption) ?_; rotate_left; (· intro w hSw; (try dsimp only at hSw); go_simp; first | done | with_reducible rfl); (try simp only [List.getElem_toArray, List.getElem_cons_zero, List.getElem_cons_succ, Act.put, List.setIfInBounds_toArray, List.set_cons_zero, List.set_cons_succ])); (refine wpAnyH_take (i := 10) (v := ?_) rfl (by kernel_rfl) (by kernel_rfl) (by kernel_rfl) (fun _ _ _ h => h) (Or.inl ⟨by rfl, ?_⟩) (by assumption) ?_; rotate_left; (· intro w hSw; (try dsimp only at hSw); go_simp; first | done | with_reducible rfl); (try simp only [List.getElem_toArray, List.getElem_cons_zero, List.getElem_cons_succ, Act.put, List.setIfInBounds_toArray, List.set_cons_zero, List.set_cons_succ])); (refine wpAnyH_take (i := 11) (v := ?_) rfl (by kernel_rfl) (by kernel_rfl) (by kernel_rfl) (fun _ _ _ h => h) (Or.inl ⟨by rfl, ?_⟩) (by assumption) ?_; rotate_left; (· intro w hSw; (try dsimp only at hSw); go_simp; first | done | with_reducible rfl); (try simp only [List.getElem_toArray, List.getElem_cons_zero, List.getElem_cons_succ, Act.put, List.setIfInBounds_toArray, List.set_cons_zero, List.set_cons_succ])); (refine wpAnyH_take (i := 12) (v := ?_) rfl (by kernel_rfl) (by kernel_rfl) (by kernel_rfl) (fun _ _ _ h => h) (Or.inl ⟨by rfl, ?_⟩) (by assumption) ?_; rotate_left; (· intro w hSw; (try dsimp only at hSw); go_simp; first | done | with_reducible rfl); (try simp only [List.getElem_toArray, List.getElem_cons_zero, List.getElem_cons_succ, Act.put, List.setIfInBounds_toArray, List.set_cons_zero, List.set_cons_succ])); (refine wpAnyH_take (i := 14) (v := ?_) rfl (by kernel_rfl) (by kernel_rfl) (by kernel_rfl) (fun _ _ _ h => h) (Or.inl ⟨by rfl, ?_⟩) (by assumption) ?_; rotate_left; (· intro w hSw; (try dsimp only at hSw); go_simp; first | done | with_reducible rfl); (try simp only [List.getElem_toArray, List.getElem_cons_zero, List.getElem_cons_succ, Act.put, List.setIfInBounds_toArray, List.set_cons_zero, List.set_cons_succ])); (refine wpAnyH_take (i := 15) (v := ?_) rfl (by kernel_rfl) (by kernel_rfl) (by kernel_rfl) (fun _ _ _ h => h) (Or.inl ⟨by rfl, ?_⟩) (by assumption) ?_; rotate_left; (· intro w hSw; (try dsimp only at hSw); go_simp; first | done | with_reducible rfl); (try simp only [List.getElem_toArray, List.getElem_cons_zero, List.getElem_cons_succ, Act.put, List.setIfInBounds_toArray, List.set_cons_zero, List.set_cons_succ])); (refine wpAnyH_take (i := 16) (v := ?_) rfl (by kernel_rfl) (by kernel_rfl) (by kernel_rfl) (fun _ _ _ h => h) (Or.inl ⟨by rfl, ?_⟩) (by assumption) ?_; rotate_left; (· intro w hSw; (try dsimp only at hSw); go_simp; first | done | with_reducible rfl); (try simp only [List.getElem_toArray, List.getElem_cons_zero, List.getElem_cons_succ, Act.put, List.setIfInBounds_toArray, List.set_cons_zero, List.set_cons_succ])); (refine wpAnyH_take (i := 17) (v := ?_) rfl (by kernel_rfl) (by kernel_rfl) (by kernel_rfl) (fun _ _ _ h => h) (Or.inl ⟨by rfl, ?_⟩) (by assumption) ?_; rotate_left; (· intro w hSw; (try dsimp only at hSw); go_simp; first | done | with_reducible rfl); (try simp only [List.getElem_toArray, List.getElem_cons_zero, List.getElem_cons_succ, Act.put, List.setIfInBounds_toArray, List.set_cons_zero, List.set_cons_succ])); (refine wpAnyH_take (i := 18) (v := ?_) rfl (by kernel_rfl) (by kernel_rfl) (by kernel_rfl) (fun _ _ _ h => h) (Or.inl ⟨by rfl, ?_⟩) (by assumption) ?_; rotate_left; (· intro w hSw; (try dsimp only at hSw); go_simp; first | done | with_reducible rfl); (try simp only [List.getElem_toArray, List.getElem_cons_zero, List.getElem_cons_succ, Act.put, List.setIfInBounds_toArray, List.set_cons_zero, List.set_cons_succ])))
  (refine wpAnyH_ready (rs := [3]) (by kernel_rfl) (by simp) ?_; refine AllReadyH.cons (i := 3) rfl (fun K hK => ?_) AllReadyH.nil)
  go_simp
  refine (iIndex_any a b x y _ ⟨ha, by omega⟩ ⟨hb, by omega⟩).mono ?_; rintro e w5 ⟨rfl, hb5⟩
  have HD5 := Lib.hid (hd3.trans (hb5.mono hd3.size))
  clear hb5
  go_wp2_with fail
  (refine hK.out _ _ (⟨(HP2.out.ever _ HD5.out).1, (HP2.out.ever _ HD5.out).2⟩) (fun hHeld => ?_); clear hK K; (try simp only [List.getElem_toArray, List.getElem_cons_zero, List.getElem_cons_succ, Act.put, List.setIfInBounds_toArray, List.set_cons_zero, List.set_cons_succ]))
  (refine wpAnyH_ready (rs := [8]) (by kernel_rfl) (by simp) ?_; refine AllReadyH.cons (i := 8) rfl (fun K hK => ?_) AllReadyH.nil)
  go_simp
  refine (iIndex_any a b (x + 1) y _ ⟨ha, by omega⟩ ⟨hb, by omega⟩).mono ?_; rintro e w6 ⟨rfl, hb6⟩
  have HD6 := Lib.hid (HD5.out.trans (hb6.mono HD5.out.size))
  clear hb6
  go_wp2_with fail
  (refine hK.out _ _ (⟨(HP2.out.ever _ HD6.out).1, (HP2.out.ever _ HD6.out).2⟩) (fun hHeld => ?_); clear hK K; (try simp only [List.getElem_toArray, List.getElem_cons_zero, List.getElem_cons_succ, Act.put, List.setIfInBounds_toArray, List.set_cons_zero, List.set_cons_succ]))
  (refine wpAnyH_ready (rs := [13]) (by kernel_rfl) (by simp) ?_; refine AllReadyH.cons (i := 13) rfl (fun K hK => ?_) AllReadyH.nil)
  go_simp
  refine (iIndex_any a b x (y + 1) _ ⟨ha, by omega⟩ ⟨hb, by omega⟩).mono ?_; rintro e w7 ⟨rfl, hb7⟩
  have HD7 := Lib.hid (HD6.out.trans (hb7.mono HD6.out.size))
  clear hb7
  go_wp2_with fail
  (refine hK.out _ _ (⟨(HP2.out.ever _ HD7.out).1, (HP2.out.ever _ HD7.out).2⟩) (fun hHeld => ?_); clear hK K; (try simp only [List.getElem_toArray, List.getElem_cons_zero, List.getElem_cons_succ, Act.put, List.setIfInBounds_toArray, List.set_cons_zero, List.set_cons_succ]))
  (refine wpAnyH_ready (rs := [19]) (by kernel_rfl) (by simp) ?_; refine AllReadyH.cons (i := 19) rfl (fun K hK => ?_) AllReadyH.nil)
  go_simp
  refine (iIndex_any a b (x + 1) (y + 1) _ ⟨ha, by omega⟩ ⟨hb, by omega⟩).mono ?_; rintro e w8 ⟨rfl, hb8⟩
  have HD8 := Lib.hid (HD7.out.trans (hb8.mono HD7.out.size))
  clear hb8
  go_wp2_with fail
  (refine hK.out _ _ (⟨(HP2.out.ever _ HD8.out).1, (HP2.out.ever _ HD8.out).2⟩) (fun hHeld => ?_); clear hK K; (try simp only [List.getElem_toArray, List.getElem_cons_zero, List.getElem_cons_succ, Act.put, List.setIfInBounds_toArray, List.set_cons_zero, List.set_cons_succ]))
  ((refine wpAnyH_take (i := 20) (v := ?_) rfl (by kernel_rfl) (by kernel_rfl) (by kernel_rfl) (fun _ _ _ h => h) (Or.inl ⟨by rfl, ?_⟩) (by assumption) ?_; rotate_left; (· intro w hSw; (try dsimp only at hSw); go_simp; first | done | with_reducible rfl); (try simp only [List.getElem_toArray, List.getElem_cons_zero, List.getElem_cons_succ, Act.put, List.setIfInBounds_toArray, List.set_cons_zero, List.set_cons_succ])))
  have hz8 := (HD8.out.block (w.heap.size + 1) HS2.out).trans HZ2.out
  have z0 : w8.cell? ⟨w.heap.size + 1, 0, none⟩ = some (.int .i64 0) := by rw [Joins.cell_of_block hz8]; rfl
  have z1 : w8.cell? ⟨w.heap.size + 1, 1, none⟩ = some (.int .i64 0) := by rw [Joins.cell_of_block hz8]; rfl
  have z2 : w8.cell? ⟨w.heap.size + 1, 2, none⟩ = some (.int .i64 0) := by rw [Joins.cell_of_block hz8]; rfl
  have z3 : w8.cell? ⟨w.heap.size + 1, 3, none⟩ = some (.int .i64 0) := by rw [Joins.cell_of_block hz8]; rfl
  have f0 : w8.frozen? ⟨w.heap.size + 1, 0, none⟩ = false := by simp [World.frozen?, hz8]
  have f1 : w8.frozen? ⟨w.heap.size + 1, 1, none⟩ = false := by simp [World.frozen?, hz8]
  have f2 : w8.frozen? ⟨w.heap.size + 1, 2, none⟩ = false := by simp [World.frozen?, hz8]
  have f3 : w8.frozen? ⟨w.heap.size + 1, 3, none⟩ = false := by simp [World.frozen?, hz8]
  clear hz8
  (refine wpAnyH_ready (rs := [21]) (by kernel_rfl) (by simp) ?_; refine AllReadyH.cons (i := 21) rfl (fun K hK => ?_) AllReadyH.nil)
  go_simp
  have HE := Lib.hid (((((HB2.out.trans (HD8.out.mono HB2.out.size)).setCell (p := ⟨w.heap.size + 1, 0, none⟩) (by simp) (.int .i64 (cornIx a b x y))).setCell (p := ⟨w.heap.size + 1, 1, none⟩) (by simp) (.int .i64 (cornIx a b (x + 1) y))).setCell (p := ⟨w.heap.size + 1, 2, none⟩) (by simp) (.int .i64 (cornIx a b x (y + 1)))).setCell (p := ⟨w.heap.size + 1, 3, none⟩) (by simp) (.int .i64 (cornIx a b (x + 1) (y + 1))))
  have e0 := (HP2.out.ever _ HD8.out).1
  have e1 := (HP2.out.ever _ HD8.out).2
  (refine hK.out _ _ (⟨four_far (by omega) e0, four_far (by omega) e1⟩) (fun hHeld => ?_); clear hK K; (try simp only [List.getElem_toArray, List.getElem_cons_zero, List.getElem_cons_succ, Act.put, List.setIfInBounds_toArray, List.set_cons_zero, List.set_cons_succ]))
  (refine wpAnyH_done (by kernel_rfl) ?_ _; refine NoPanic.normal ?_)
  clear hHeld e0 e1
  go_wp2_with fail
  refine bodyPost_ret (v := CornV a b x y) (by simp [results, Try.results101, go_sem, z0, z1, z2, z3]) rfl ?_
  exact ⟨rfl, HE.out⟩
end Go.Proofs.Ytlfnbnhbobohlaa
