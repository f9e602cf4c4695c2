/-
  The laws' marks in lists of complex numbers.
-/
import Derived.Test.YtdoohjmjbkkmkaaCl
namespace Go.Proofs.Ytdoohjmjbkkmkaa
open Go.Fl Go.RowKit

theorem conv_mark : ∀ i : Fin 257, cConvBits .f64 (floatOfInt .f64 ((i.val : Int) + 1)) 4607182418800017408 .f32 = some (floatOfInt .f32 ((i.val : Int) + 1), 1065353216) := by decide +kernel
def marksC (n : Nat) : List (Nat × Nat) := (List.range n).map fun i : Nat => (floatOfInt .f32 ((i : Int) + 1), 1065353216)
theorem marksC_len (n : Nat) : (marksC n).length = n := by simp [marksC]
theorem marksC_at (n k : Nat) (h : k < n) : (marksC n)[k]? = some (floatOfInt .f32 ((k : Int) + 1), 1065353216) := by
  unfold marksC
  rw [List.getElem?_map, List.getElem?_range h, Option.map_some]
theorem marksC_get (n k : Nat) (h : k < n) : (marksC n).getD k (0, 0) = (floatOfInt .f32 ((k : Int) + 1), 1065353216) := by
  rw [List.getD_eq_getElem?_getD, marksC_at n k h, Option.getD_some]
theorem conv_run (k : Nat) (hk : k < 257) (w : World) : (convert 108 59 (.complex .f64 (floatOfInt .f64 ((k : Int) + 1)) 4607182418800017408)).run Try.prog w = .ok (.complex .f32 (floatOfInt .f32 ((k : Int) + 1)) 1065353216) w :=
  run_convert_complex w _ _ _ _ _ _ _ _ (by rw [C64]; rfl) C32 (conv_mark ⟨k, hk⟩)


theorem ord_self (x : Nat) (h : nan .f32 x = false) : (FloatKind.f32.format.order x x == some Ordering.eq) = true := by
  have := fcmp_eql_self .f32 x
  rw [h] at this
  exact this
theorem ord_one : (FloatKind.f32.format.order 1065353216 1065353216 == some Ordering.eq) = true := ord_self _ (by decide)

end Go.Proofs.Ytdoohjmjbkkmkaa
