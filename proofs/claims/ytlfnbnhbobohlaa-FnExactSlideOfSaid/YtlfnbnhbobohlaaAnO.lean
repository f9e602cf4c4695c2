/-
  AngleOf.
-/
import Derived.Test.YtlfnbnhbobohlaaAngC
namespace Go.Proofs.Ytlfnbnhbobohlaa
open Go.Fl Go.RowKit

set_option maxHeartbeats 1000000 in
theorem iAngleOf_any (y Y x X : Nat) (iy : Is .f32 y Y) (ix : Is .f32 x X) (w : World) :
    Calls Try.prog 90 #[.complex .f32 x y] w fun e w' => (∃ r, e = .returned (.float .f32 r) ∧ Is .f32 r (angT Y X)) ∧ ∃ n, w' = w.drewN n := by
  go_enter Try.func90, Try.ntmps90
  go_wp2_with (go_at_call 127; refine (iAngle_any y Y x X iy ix _).mono ?_; rintro e w' ⟨⟨r, rfl, hr⟩, n, rfl⟩)
  go_ret
  exact ⟨⟨_, rfl, by assumption⟩, _, rfl⟩
end Go.Proofs.Ytlfnbnhbobohlaa
