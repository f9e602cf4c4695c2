/-
  NarrowNumber.
-/
import Derived.Test.YtpnmledanloboaaMath
import Derived.Test.YtpnmledanloboaaLoose
namespace Go.Proofs.Ytpnmledanloboaa
open Go.Fl Go.RowKit

theorem iNarrow_any (x X : Nat) (ix : Is .f64 x X) (hf : fits X) (w : World) : Calls Try.prog 113 #[.float .f64 x] w fun e w' => (∃ r, e = .returned (.float .f32 r) ∧ Is .f32 r (nar X)) ∧ ∃ n, w' = w.drewN n := by
  go_enter Try.func113, Try.ntmps113
  go_wp2_with (apply wpList_nar; rfl; rfl; (first | with_reducible assumption | exact Is.const rfl); exact U64; exact U32; (with_reducible assumption); intro r n hr)
  go_ret
  exact ⟨⟨_, rfl, hr⟩, _, rfl⟩
end Go.Proofs.Ytpnmledanloboaa
