/-
  Places in eighths: the shares of the corners.
-/
import Derived.Test.YtlfnbnhbobohlaaCor
namespace Go.Proofs.Ytlfnbnhbobohlaa
open Go.Fl Go.RowKit

def sh0 (i j : Int) : Nat := fop .mul .f32 (fop .sub .f32 1065353216 (E8 i)) (fop .sub .f32 1065353216 (E8 j))
def sh1 (i j : Int) : Nat := fop .mul .f32 (E8 i) (fop .sub .f32 1065353216 (E8 j))
def sh2 (i j : Int) : Nat := fop .mul .f32 (fop .sub .f32 1065353216 (E8 i)) (E8 j)
def sh3 (i j : Int) : Nat := fop .mul .f32 (E8 i) (E8 j)
def okSh4 (x : Nat) : Bool := isCanon .f32 x && fin .f32 x && !fcmp .lss .f32 x 0 && fcmp .eql .f32 x x
set_option maxRecDepth 100000 in
theorem tab_sh : ((List.range 64).all fun k => okSh4 (sh0 ((k / 8 : Nat) : Int) ((k % 8 : Nat) : Int)) && okSh4 (sh1 ((k / 8 : Nat) : Int) ((k % 8 : Nat) : Int)) && okSh4 (sh2 ((k / 8 : Nat) : Int) ((k % 8 : Nat) : Int)) && okSh4 (sh3 ((k / 8 : Nat) : Int) ((k % 8 : Nat) : Int)) &&
    fop .add .f32 (fop .add .f32 (fop .add .f32 (fop .add .f32 0 (sh0 ((k / 8 : Nat) : Int) ((k % 8 : Nat) : Int))) (sh1 ((k / 8 : Nat) : Int) ((k % 8 : Nat) : Int))) (sh2 ((k / 8 : Nat) : Int) ((k % 8 : Nat) : Int))) (sh3 ((k / 8 : Nat) : Int) ((k % 8 : Nat) : Int)) == 1065353216) = true := by decide +kernel
theorem sh_facts (i j : Int) (i0 : 0 ≤ i) (i1 : i < 8) (j0 : 0 ≤ j) (j1 : j < 8) : okSh4 (sh0 i j) = true ∧ okSh4 (sh1 i j) = true ∧ okSh4 (sh2 i j) = true ∧ okSh4 (sh3 i j) = true ∧
    fop .add .f32 (fop .add .f32 (fop .add .f32 (fop .add .f32 0 (sh0 i j)) (sh1 i j)) (sh2 i j)) (sh3 i j) = 1065353216 := by
  have h := List.all_eq_true.1 tab_sh (i.toNat * 8 + j.toNat) (List.mem_range.2 (by omega))
  have e1 : (((i.toNat * 8 + j.toNat) / 8 : Nat) : Int) = i := by omega
  have e2 : (((i.toNat * 8 + j.toNat) % 8 : Nat) : Int) = j := by omega
  simp only [e1, e2, Bool.and_eq_true, beq_iff_eq] at h
  exact ⟨h.1.1.1.1, h.1.1.1.2, h.1.1.2, h.1.2, h.2⟩
theorem eq_sh {r x : Nat} (h : okSh4 x = true) (i : Is .f32 r x) : r = x := by
  simp only [okSh4, Bool.and_eq_true] at h
  exact i.same (nan_of_fin h.1.1.2)
theorem is_sh {x : Nat} (h : okSh4 x = true) : Is .f32 x x := by
  simp only [okSh4, Bool.and_eq_true] at h
  exact Is.const h.1.1.1

abbrev ShV (i j : Int) : Value := .agg #[.float .f32 (sh0 i j), .float .f32 (sh1 i j), .float .f32 (sh2 i j), .float .f32 (sh3 i j)]

set_option maxHeartbeats 2000000 in
set_option maxRecDepth 100000 in
theorem iShares_e8 (a b : Int) (ha : 4 ≤ a) (ha' : a ≤ 7) (hb : 4 ≤ b) (hb' : b ≤ 7) (n m : Int) (n0 : -112 ≤ n) (n1 : n < 248) (m0 : -112 ≤ m) (m1 : m < 248) (w : World) :
    Calls Try.prog 102 #[GV a b, .complex .f32 (E8 n) (E8 m)] w fun e w' => e = .returned (ShV (n % (8 * a) % 8) (m % (8 * b) % 8)) ∧ Below w.heap.size w w' := by
  have hq := between a n ha ha'
  have hp := between b m hb hb'
  have HB2 := Lib.hid (below_up ((Below.refl w.heap.size w).alloc (Nat.le_refl _) (.cells #[.int .i64 a, .int .i64 b] 27)) ((Below.refl _ _).alloc (Nat.le_refl _) (.cells #[.float .f32 0, .float .f32 0, .float .f32 0, .float .f32 0] 117)))
  have HZ2 := Lib.hid (show ((w.alloc (.cells #[.int .i64 a, .int .i64 b] 27)).alloc (.cells #[.float .f32 0, .float .f32 0, .float .f32 0, .float .f32 0] 117)).heap[w.heap.size + 1]? = some (.cells #[.float .f32 0, .float .f32 0, .float .f32 0, .float .f32 0] 117) by
    have := heap_alloc_new (w.alloc (.cells #[.int .i64 a, .int .i64 b] 27)) (.cells #[.float .f32 0, .float .f32 0, .float .f32 0, .float .f32 0] 117)
    rwa [show (w.alloc (.cells #[.int .i64 a, .int .i64 b] 27)).heap.size = w.heap.size + 1 by simp] at this)
  have HS2 := Lib.hid (show w.heap.size + 1 < ((w.alloc (.cells #[.int .i64 a, .int .i64 b] 27)).alloc (.cells #[.float .f32 0, .float .f32 0, .float .f32 0, .float .f32 0] 117)).heap.size by simp)
  go_enter Try.func102, Try.ntmps102
  go_wp2_with fail
  generalize (w.alloc (.cells #[.int .i64 a, .int .i64 b] 27)).alloc (.cells #[.float .f32 0, .float .f32 0, .float .f32 0, .float .f32 0] 117) = w2 at HB2 HZ2 HS2 ⊢
  refine (iWrapped_e8 a b ha ha' hb hb' n m n0 n1 m0 m1 _).mono ?_
  rintro e w3 ⟨rfl, h3⟩
  generalize hqe : n % (8 * a) = q at hq ⊢
  generalize hpe : m % (8 * b) = p at hp ⊢
  have HQ := Lib.hid (And.intro hqe hpe)
  clear hqe hpe
  have HD3 := Lib.hid h3
  have hz8 := (h3.block (w.heap.size + 1) HS2.out).trans HZ2.out
  have z0 : w3.cell? ⟨w.heap.size + 1, 0, none⟩ = some (.float .f32 0) := by rw [Joins.cell_of_block hz8]; rfl
  have z1 : w3.cell? ⟨w.heap.size + 1, 1, none⟩ = some (.float .f32 0) := by rw [Joins.cell_of_block hz8]; rfl
  have z2 : w3.cell? ⟨w.heap.size + 1, 2, none⟩ = some (.float .f32 0) := by rw [Joins.cell_of_block hz8]; rfl
  have z3 : w3.cell? ⟨w.heap.size + 1, 3, none⟩ = some (.float .f32 0) := by rw [Joins.cell_of_block hz8]; rfl
  have f0 : w3.frozen? ⟨w.heap.size + 1, 0, none⟩ = false := by simp [World.frozen?, hz8]
  have f1 : w3.frozen? ⟨w.heap.size + 1, 1, none⟩ = false := by simp [World.frozen?, hz8]
  have f2 : w3.frozen? ⟨w.heap.size + 1, 2, none⟩ = false := by simp [World.frozen?, hz8]
  have f3 : w3.frozen? ⟨w.heap.size + 1, 3, none⟩ = false := by simp [World.frozen?, hz8]
  clear hz8 h3
  go_wp2_with fail
  refine (iCorner_e8 q p hq.1 hq.2 hp.1 hp.2 _).mono ?_
  rintro e w4 ⟨rfl, h4⟩
  obtain rfl := h4.symm
  have iq := (is_e8 q (by omega) (by omega)).1
  have ip := (is_e8 p (by omega) (by omega)).1
  have iq8 := side32 (q / 8) (by omega) (by omega)
  have ip8 := side32 (p / 8) (by omega) (by omega)
  have gq := Lib.hid (show ∀ r, Is .f32 r (fop .sub .f32 (E8 q) (floatOfInt .f32 (q / 8))) → Is .f32 r (E8 (q % 8)) from fun r h => by rw [← (int_e8 q hq.1 hq.2).2]; exact h)
  have gp := Lib.hid (show ∀ r, Is .f32 r (fop .sub .f32 (E8 p) (floatOfInt .f32 (p / 8))) → Is .f32 r (E8 (p % 8)) from fun r h => by rw [← (int_e8 p hp.1 hp.2).2]; exact h)
  have SF := Lib.hid (sh_facts (q % 8) (p % 8) (by omega) (by omega) (by omega) (by omega))
  have g0 := Lib.hid (show ∀ r, Is .f32 r (fop .mul .f32 (fop .sub .f32 1065353216 (E8 (q % 8))) (fop .sub .f32 1065353216 (E8 (p % 8)))) → r = sh0 (q % 8) (p % 8) from fun r h => eq_sh SF.out.1 h)
  have g1 := Lib.hid (show ∀ r, Is .f32 r (fop .mul .f32 (E8 (q % 8)) (fop .sub .f32 1065353216 (E8 (p % 8)))) → r = sh1 (q % 8) (p % 8) from fun r h => eq_sh SF.out.2.1 h)
  have g2 := Lib.hid (show ∀ r, Is .f32 r (fop .mul .f32 (fop .sub .f32 1065353216 (E8 (q % 8))) (E8 (p % 8))) → r = sh2 (q % 8) (p % 8) from fun r h => eq_sh SF.out.2.2.1 h)
  have g3 := Lib.hid (show ∀ r, Is .f32 r (fop .mul .f32 (E8 (q % 8)) (E8 (p % 8))) → r = sh3 (q % 8) (p % 8) from fun r h => eq_sh SF.out.2.2.2.1 h)
  go_wp2_with (first | ((apply wpList_farith; rfl; rfl; rfl; rfl; (first | with_reducible assumption | exact Is.const rfl); (first | with_reducible assumption | exact Is.const rfl); intro r n hr); first | (with_reducible have e0 := g0.out _ hr; subst e0) | (with_reducible have e0 := g1.out _ hr; subst e0) | (with_reducible have e0 := g2.out _ hr; subst e0) | (with_reducible have e0 := g3.out _ hr; subst e0) | (with_reducible replace hr := gq.out _ hr) | (with_reducible replace hr := gp.out _ hr) | skip) | (apply wpList_same; rfl; rfl; exact U32; exact U32))
  refine bodyPost_ret (v := ShV (q % 8) (p % 8)) (by simp [results, Try.results102, go_sem, z0, z1, z2, z3]) rfl ?_
  exact ⟨by rw [← HQ.out.1, ← HQ.out.2], ((((below_drewN (HB2.out.trans (HD3.out.mono HB2.out.size)) _).setCell (by simp) _).setCell (by simp) _).setCell (by simp) _).setCell (by simp) _⟩
end Go.Proofs.Ytlfnbnhbobohlaa
