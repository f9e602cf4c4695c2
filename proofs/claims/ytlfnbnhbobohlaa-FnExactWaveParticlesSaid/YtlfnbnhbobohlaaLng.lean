/-
  The laws' bound on inputs; sums of eighths.
-/
import Derived.Test.YtlfnbnhbobohlaaEi
namespace Go.Proofs.Ytlfnbnhbobohlaa
open Go.Fl Go.RowKit

theorem lLong_any (a a' : Option Addr) (n c n' c' : Nat) (w : World) : Calls Try.prog 50 #[.slice a n c, .slice a' n' c'] w fun e w' => e = .returned (.bool (decide (48 < n ∨ 48 < n'))) ∧ w' = w := by
  by_cases h : 48 < n
  · have h1 : (48 : Int) < (n : Int) := by omega
    go_enter Try.func50, Try.ntmps50
    go_wp2
    go_ret
    exact ⟨by simp [h], rfl⟩
  · have h1 : ¬ (48 : Int) < (n : Int) := by omega
    by_cases h' : 48 < n'
    · have h2 : (48 : Int) < (n' : Int) := by omega
      go_enter Try.func50, Try.ntmps50
      go_wp2
      go_ret
      exact ⟨by first | (simp; done) | (simp; omega) | simp [h'], rfl⟩
    · have h2 : ¬ (48 : Int) < (n' : Int) := by omega
      go_enter Try.func50, Try.ntmps50
      go_wp2
      go_ret
      exact ⟨by first | (simp; done) | (simp; omega) | simp [h'], rfl⟩

set_option maxRecDepth 100000
theorem tab_add : ((List.range 1024).all fun k => fop .add .f32 (E8 (((k / 4 : Nat) : Int) - 64)) (floatOfInt .f32 (((k % 4 : Nat) : Int) + 4)) == E8 ((((k / 4 : Nat) : Int) - 64) + 8 * (((k % 4 : Nat) : Int) + 4))) = true := by decide +kernel
theorem tab_sub : ((List.range 1024).all fun k => fop .add .f32 (E8 (((k / 4 : Nat) : Int) - 64)) (Op.negFloat .f32 (floatOfInt .f32 (((k % 4 : Nat) : Int) + 4))) == E8 ((((k / 4 : Nat) : Int) - 64) - 8 * (((k % 4 : Nat) : Int) + 4))) = true := by decide +kernel
theorem add_e8 (n s : Int) (n0 : -64 ≤ n) (n1 : n < 192) (s0 : 4 ≤ s) (s1 : s ≤ 7) : fop .add .f32 (E8 n) (floatOfInt .f32 s) = E8 (n + 8 * s) ∧ fop .add .f32 (E8 n) (Op.negFloat .f32 (floatOfInt .f32 s)) = E8 (n - 8 * s) := by
  have h1 := List.all_eq_true.1 tab_add ((n + 64).toNat * 4 + (s - 4).toNat) (List.mem_range.2 (by omega))
  have h2 := List.all_eq_true.1 tab_sub ((n + 64).toNat * 4 + (s - 4).toNat) (List.mem_range.2 (by omega))
  have e1 : ((((n + 64).toNat * 4 + (s - 4).toNat) / 4 : Nat) : Int) = n + 64 := by omega
  have e2 : ((((n + 64).toNat * 4 + (s - 4).toNat) % 4 : Nat) : Int) = s - 4 := by omega
  simp only [e1, e2, beq_iff_eq, show n + 64 - 64 = n by omega, show s - 4 + 4 = s by omega] at h1 h2
  exact ⟨h1, h2⟩
theorem narrow_e8 : E8 10 = 1067450368 ∧ E8 20 = 1075838976 := by decide +kernel
end Go.Proofs.Ytlfnbnhbobohlaa
