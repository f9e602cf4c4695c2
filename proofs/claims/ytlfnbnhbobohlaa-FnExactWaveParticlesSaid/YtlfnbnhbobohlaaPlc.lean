/-
  What the laws of the second part draw: places.
-/
import Derived.Test.YtlfnbnhbobohlaaLng
import Derived.Test.YtlfnbnhbobohlaaSrc
import Derived.Test.YtlfnbnhbobohlaaGrid
namespace Go.Proofs.Ytlfnbnhbobohlaa
open Go.Fl Go.RowKit Go.Nl

set_option maxRecDepth 100000 in
theorem tab_byte : ((List.range 256).all fun n => isCanon .f32 (floatOfInt .f32 ((n : Int) - 64))) = true := by decide +kernel
theorem is_byte (x : Int) (h0 : 0 ≤ x) (h1 : x ≤ 255) : Is .f32 (floatOfInt .f32 (x - 64)) (floatOfInt .f32 (x - 64)) := by
  have h := List.all_eq_true.1 tab_byte x.toNat (List.mem_range.2 (by omega))
  simp only [show ((x.toNat : Nat) : Int) = x by omega] at h
  exact Is.const h

abbrev PlV (n m : Int) : List Value := [.float .f32 (E8 n), .float .f32 (E8 m)]

end Go.Proofs.Ytlfnbnhbobohlaa
