/-
  Sums of complex numbers in eighths.
-/
import Derived.Test.YtihhlfafglmgnaaLng
import Derived.Laws.ComplexArith
namespace Go.Proofs.Ytihhlfafglmgnaa
open Go.Fl Go.RowKit

theorem fb_some {op : BinOp} {k : FloatKind} {x y : Nat} (h : nan k (fop op k x y) = false) : floatBits op k x y = some (fop op k x y) := by
  unfold fop at h ⊢
  cases hb : floatBits op k x y with
  | some r => rfl
  | none => rw [hb] at h; simp only [nan_qn] at h; cases h

/-- A place in eighths and whole cells. -/
theorem csum_e8 (P : Program) (t : TypeId) (n m a b : Int) (n0 : -64 ≤ n) (n1 : n < 192) (m0 : -64 ≤ m) (m1 : m < 192) (a0 : 4 ≤ a) (a1 : a ≤ 7) (b0 : 4 ≤ b) (b1 : b ≤ 6) (w : World) :
    (binOp .add t (.complex .f32 (E8 n) (E8 m)) (.complex .f32 (floatOfInt .f32 a) (Op.negFloat .f32 (floatOfInt .f32 b)))).run P w = .ok (.complex .f32 (E8 (n + 8 * a)) (E8 (m - 8 * b))) w := by
  refine run_complex_sum w .add (.inl rfl) t .f32 _ _ _ _ _ _ ?_
  have e1 := (add_e8 n a n0 n1 a0 a1).1
  have e2 := (add_e8 m b m0 m1 b0 (by omega)).2
  have f1 := nan_of_fin (is_e8 (n + 8 * a) (by omega) (by omega)).2
  have f2 := nan_of_fin (is_e8 (m - 8 * b) (by omega) (by omega)).2
  rw [← e1] at f1
  rw [← e2] at f2
  unfold cSumBits
  rw [fb_some f1, fb_some f2, e1, e2]
  rfl

/-- Whole cells do not turn what is between the edges. -/
theorem mod_add (n a : Int) : (n + 8 * a) % (8 * a) = n % (8 * a) := Int.add_emod_right ..
theorem mod_sub (m b : Int) : (m - 8 * b) % (8 * b) = m % (8 * b) := Int.sub_emod_right ..
end Go.Proofs.Ytihhlfafglmgnaa
