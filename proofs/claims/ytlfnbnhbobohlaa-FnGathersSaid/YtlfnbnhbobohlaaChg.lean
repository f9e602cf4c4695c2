/-
  The charge of a list of particles, exactly; numbers chosen by bytes; equal fields.
-/
import Derived.Test.YtlfnbnhbobohlaaDepH
import Derived.Test.YtlfnbnhbobohlaaDvC
import Derived.Test.YtlfnbnhbobohlaaNl
namespace Go.Proofs.Ytlfnbnhbobohlaa
open Go.Fl Go.RowKit
set_option linter.unusedSimpArgs false
set_option linter.unusedVariables false



set_option maxHeartbeats 1000000 in
theorem lEqual_any (u v : Value) (xs ys : List Nat) (F : Nat → Int) (w : World) (hu : FS .f32 w u xs) (hv : FS .f32 w v ys) (hl : xs.length = ys.length) (hn : xs.length ≤ 256) (hx : DyL xs F) (hy : DyL ys F) :
    Calls Try.prog 61 #[u, v] w fun e w' => e = .returned (.bool true) ∧ ∃ n, w' = w.drewN n := by
  have HU := Lib.hid hu; have HV := Lib.hid hv; have HX := Lib.hid hx; have HY := Lib.hid hy; have HL := Lib.hid hl
  obtain ⟨a1, c1, rfl, hlc, hcm, hwf, hmem⟩ := hu
  obtain ⟨a2, c2, rfl, hlc2, hcm2, hwf2, hmem2⟩ := hv
  have hl2 : (ys.length : Int) = (xs.length : Int) := by omega
  clear hmem hmem2 hx hy hlc hlc2 hcm hcm2 hwf hwf2 hl
  go_enter Try.func61, Try.ntmps61
  go_wp2
  go_loopw [5] (fun i wr => ∃ k : Nat, k ≤ xs.length ∧ i = .int .i64 k ∧ ∃ n, wr = w.drewN n) (fun i _ => xs.length - (intOf i).toNat)
  case atStart => exact ⟨0, Nat.zero_le _, rfl, 0, rfl⟩
  case round =>
    obtain ⟨k, hk, rfl, n, rfl⟩ := hrel
    by_cases hlt : k < xs.length
    · obtain ⟨b1, o1, e1, hcx⟩ := FS.at HU.out (Below.refl _ w) hlt
      obtain ⟨b2, o2, e2, hcy⟩ := FS.at HV.out (Below.refl _ w) (show k < ys.length by have := HL.out; omega)
      obtain rfl := e1
      obtain rfl := e2
      have dx := HX.out k hlt; have dy := HY.out k (show k < ys.length by have := HL.out; omega)
      have ix := dx.is; have iy := dy.is
      have hq : fcmp .neq .f32 (xs.getD k 0) (ys.getD k 0) = false := by rw [dx.dv.neq dy.dv]; simp
      generalize xs.getD k 0 = x at hcx ix hq
      generalize ys.getD k 0 = y at hcy iy hq
      have hj : (k : Int) < (xs.length : Int) := by omega
      have hj2 : (k : Int) < (ys.length : Int) := by omega
      clear dx dy
      go_wp2_with (first | ((with_reducible apply Loose.wp_start); kernel_rfl; kernel_rfl) | ((with_reducible apply Loose.start_cons)) | ((with_reducible apply Loose.start_nil)) | ((with_reducible apply Loose.walk_nil); intro n) | ((with_reducible apply Loose.walk_skip); exact rfl; (go_simp; first | done | exact rfl)) | ((with_reducible apply Loose.step_fc); rfl; rfl; rfl; rfl; (first | with_reducible assumption | exact Is.const rfl); (first | with_reducible assumption | exact Is.const rfl); (first | with_reducible assumption | exact rfl); exact rfl; (go_simp; first | done | exact rfl)) | ((with_reducible apply Loose.step_fa); rfl; rfl; rfl; rfl; (first | with_reducible assumption | exact Is.const rfl); (first | with_reducible assumption | exact Is.const rfl); exact rfl; (intro r; go_simp; first | done | exact rfl); intro r hr) | ((with_reducible apply Loose.step_wid); rfl; rfl; (first | with_reducible assumption | exact Is.const rfl); exact U32; exact U64; exact rfl; (intro r; go_simp; first | done | exact rfl); intro r hr) | ((with_reducible apply Loose.step_nar); rfl; rfl; (first | with_reducible assumption | exact Is.const rfl); exact U64; exact U32; (with_reducible assumption); exact rfl; (intro r; go_simp; first | done | exact rfl); intro r hr) | ((with_reducible apply Loose.step_assign); rfl; rfl; (with_reducible assumption); exact rfl; (intro r; go_simp; first | done | exact rfl); intro r hr) | ((with_reducible apply Loose.step_move); rfl; rfl; (with_reducible assumption); exact rfl; (intro r; go_simp; first | done | exact rfl); intro r hr) | ((with_reducible apply Loose.step_same); rfl; rfl; exact U32; exact U32; (first | with_reducible assumption | exact Is.const rfl); exact rfl; (intro r; go_simp; first | done | exact rfl); intro r hr) | ((with_reducible apply Loose.step_same); rfl; rfl; exact U64; exact U64; (first | with_reducible assumption | exact Is.const rfl); exact rfl; (intro r; go_simp; first | done | exact rfl); intro r hr) | ((with_reducible apply Loose.step_eq); rfl; (intro n; go_simp; first | done | exact rfl); exact rfl; (go_simp; first | done | exact rfl)))
      go_roundw
      case rel => exact ⟨k + 1, by omega, by go_num, _, rfl⟩
      case measure => simp [intOf]; omega
    · obtain rfl : k = xs.length := by omega
      clear hlt
      go_wp2
      go_ret
      exact ⟨rfl, _, rfl⟩
end Go.Proofs.Ytlfnbnhbobohlaa
