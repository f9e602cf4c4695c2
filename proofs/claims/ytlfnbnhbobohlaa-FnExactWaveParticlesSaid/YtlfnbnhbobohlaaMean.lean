/-
  Means of fields, and fields less their means, of the program and of the model.
-/
import Derived.Test.YtlfnbnhbobohlaaFields
import Derived.Test.YtlfnbnhbobohlaaSum
namespace Go.Proofs.Ytlfnbnhbobohlaa
open Go.Fl Go.RowKit
set_option linter.unusedSimpArgs false

theorem intWord32_is (n : Int) : Is .f32 (floatOfInt .f32 n) (floatOfInt .f32 n) :=
  ⟨cn_of _ (show nan .f32 (FloatKind.f32.format.write (.number (n < 0) n.natAbs 0)) = false from nan_write _ (by intro s t e; cases e)), nearest_lt ..⟩

theorem fres_le {B C : Nat} {w : World} {v : Value} {n : Nat} {F : Nat → Nat} (h : FRes B w v n F) (hl : C ≤ B) : FRes C w v n F := by
  obtain ⟨rs, h1, h2, h3⟩ := h
  exact ⟨rs, h1, h2, Go.Joins.ownsRow_le h3 hl⟩

/-- The mean of a list. -/
def meanF (xs : List Nat) : Nat := fop .quo .f32 (sumTo .f32 xs xs.length) (floatOfInt .f32 (xs.length : Int))
/-- A list less its mean. -/
def lvlF (xs : List Nat) (i : Nat) : Nat := fop .sub .f32 (cn .f32 (xs.getD i 0)) (meanF xs)



def okMeanOf (a b : Int) (xs : List Nat) : Bool := fieldOk a b xs.length
def valMeanOf (a b : Int) (xs : List Nat) : Nat := if okMeanOf a b xs then meanF xs else 0


end Go.Proofs.Ytlfnbnhbobohlaa
