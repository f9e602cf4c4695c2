/-
  The functions of package math that the program calls, by contract.
-/
import Derived.Test.YtlfnbnhbobohlaaFn
import Derived.Test.YtlfnbnhbobohlaaChecked
import Derived.WalkLawsBesides
import Derived.Lib.Hide
namespace Go.Proofs.Ytlfnbnhbobohlaa
open Go.Fl Go.RowKit

theorem U32 : Try.prog.underlying 46 = some (.float .f32) := Try.underlying46
theorem UI : Try.prog.underlying 2 = some (.int .i64) := Try.underlying2
theorem U64 : Try.prog.underlying 58 = some (.float .f64) := Try.underlying58

@[go_sem] theorem call_f64bits (b : Nat) (w : World) : (callFunc 156 #[.float .f64 b]).run Try.prog w = .ok (.value (.int .u64 b)) w := by kernel_rfl
@[go_sem] theorem call_f32from (n : Int) (w : World) : (callFunc 160 #[.int .u32 n]).run Try.prog w = .ok (.value (.float .f32 n.toNat)) w := by kernel_rfl
@[go_sem] theorem call_f64from (n : Int) (w : World) : (callFunc 142 #[.int .u64 n]).run Try.prog w = .ok (.value (.float .f64 n.toNat)) w := by kernel_rfl

theorem isNaN_any (x X : Nat) (ix : Is .f64 x X) (w : World) : Calls Try.prog 141 #[.float .f64 x] w fun e w' => e = .returned (.bool (nan .f64 X)) ∧ w = w' := by
  rw [← fcmp_neq_self]
  go_enter Try.func141, Try.ntmps141
  go_wp2_with (apply wpList_fcmp; rfl; rfl; rfl; rfl; (first | with_reducible assumption | exact Is.const rfl); (first | with_reducible assumption | exact Is.const rfl); (first | with_reducible assumption | exact rfl))
  go_ret
  exact ⟨rfl, rfl⟩

theorem abs_bits (x : Nat) (hx : x < 18446744073709551616) : (bits .andNot .u64 (x : Int) 9223372036854775808).toNat = x % 2 ^ 63 := by
  rw [u64_andNot _ _ (by omega) (by omega) (by decide) (by decide)]
  show x &&& (2 ^ 63 - 1) = _
  exact Nat.and_two_pow_sub_one_eq_mod x 63

theorem abs_any (x : Nat) (hx : x < 18446744073709551616) (w : World) : Calls Try.prog 143 #[.float .f64 x] w fun e w' => e = .returned (.float .f64 (x % 2 ^ 63)) ∧ w = w' := by
  go_enter Try.func143, Try.ntmps143
  go_wp2
  go_ret
  exact ⟨congrArg (fun n => Ending.returned (.float .f64 n)) (abs_bits x hx), rfl⟩

theorem isInf_any (x X : Nat) (ix : Is .f64 x X) (w : World) : Calls Try.prog 140 #[.float .f64 x, .int .i64 0] w fun e w' => e = .returned (.bool (fcmp .gtr .f64 (fabs X) 9218868437227405311)) ∧ w = w' := by
  have ia := ix.abs
  have hl : x < 18446744073709551616 := by have := ix.lt; rwa [w64] at this
  go_enter Try.func140, Try.ntmps140
  go_wp2_with (first | (apply wpList_fcmp; rfl; rfl; rfl; rfl; (first | with_reducible assumption | exact Is.const rfl); (first | with_reducible assumption | exact Is.const rfl); (first | with_reducible assumption | exact rfl)) | (go_at_call 143; refine (abs_any _ hl _).mono ?_; rintro e w' ⟨rfl, rfl⟩))
  go_ret
  exact ⟨rfl, rfl⟩

theorem sign_bits (x : Nat) (hx : x < 18446744073709551616) : (bits .or .u64 (bits .andNot .u64 0 9223372036854775808) (bits .and .u64 (x : Int) 9223372036854775808)).toNat = x / 2 ^ 63 * 2 ^ 63 := by
  have h0 : bits .andNot .u64 0 9223372036854775808 = 0 := by decide
  have h1 : x &&& 9223372036854775808 < 2 ^ 64 := Nat.and_lt_two_pow _ (by decide)
  rw [h0, u64_and _ _ (by omega) (by omega) (by decide) (by decide)]
  show (bits .or .u64 0 ((x &&& 9223372036854775808 : Nat) : Int)).toNat = _
  rw [u64_or _ _ (by omega) (by omega) (by omega) (by omega)]
  show 0 ||| (x &&& 9223372036854775808) = _
  rw [Nat.zero_or]
  have e : 9223372036854775808 = (2 ^ 1 - 1) * 2 ^ 63 := by decide
  apply Nat.eq_of_testBit_eq
  intro i
  rw [e, Nat.testBit_and, ← Nat.shiftLeft_eq, show x / 2 ^ 63 * 2 ^ 63 = (x / 2 ^ 63) <<< 63 from (Nat.shiftLeft_eq _ 63).symm, Nat.testBit_shiftLeft, Nat.testBit_shiftLeft]
  by_cases h : 63 ≤ i
  · simp only [h, decide_true, Bool.true_and]
    rw [Nat.testBit_two_pow_sub_one, Nat.testBit_div_two_pow, show i - 63 + 63 = i by omega]
    by_cases h2 : i < 64
    · have : i - 63 < 1 := by omega
      simp [this]
    · have : x.testBit i = false := Nat.testBit_lt_two_pow (Nat.lt_of_lt_of_le hx (by
        have := Nat.pow_le_pow_right (show 0 < 2 by decide) (show 64 ≤ i by omega)
        exact this))
      simp [this]
  · simp [h]

theorem copysign_any (x : Nat) (hx : x < 18446744073709551616) (w : World) : Calls Try.prog 165 #[.float .f64 0, .float .f64 x] w fun e w' => e = .returned (.float .f64 (x / 2 ^ 63 * 2 ^ 63)) ∧ w = w' := by
  go_enter Try.func165, Try.ntmps165
  go_wp2
  go_ret
  exact ⟨congrArg (fun n => Ending.returned (.float .f64 n)) (sign_bits x hx), rfl⟩
/-! ### the laws' own comparison -/
theorem sameFloat_any (a b A : Nat) (ia : Is .f64 a A) (ib : Is .f64 b A) (w : World) : Calls Try.prog 41 #[.float .f64 a, .float .f64 b] w fun e w' => e = .returned (.bool true) ∧ ∃ n, w' = w.drewN n := by
  by_cases hn : nan .f64 A = true
  · have hc : fcmp .neq .f64 A A = true := by rw [fcmp_neq_self, hn]
    clear hn
    go_enter Try.func41, Try.ntmps41
    go_wp2_with (first | (apply wpList_fcmp; rfl; rfl; rfl; rfl; (first | with_reducible assumption | exact Is.const rfl); (first | with_reducible assumption | exact Is.const rfl); (first | with_reducible assumption | exact rfl)) | (apply wpList_farith; rfl; rfl; rfl; rfl; (first | with_reducible assumption | exact Is.const rfl); (first | with_reducible assumption | exact Is.const rfl); intro r n hr))
    go_ret
    exact ⟨rfl, 0, rfl⟩
  · have hn' : nan .f64 A = false := by simpa using hn
    have hc : fcmp .neq .f64 A A = false := by rw [fcmp_neq_self, hn']
    by_cases hz : fcmp .eql .f64 A 0 = true
    · clear hn hn'
      go_enter Try.func41, Try.ntmps41
      go_wp2_with (first | (apply wpList_fcmp; rfl; rfl; rfl; rfl; (first | with_reducible assumption | exact Is.const rfl); (first | with_reducible assumption | exact Is.const rfl); (first | with_reducible assumption | exact rfl)) | (apply wpList_farith; rfl; rfl; rfl; rfl; (first | with_reducible assumption | exact Is.const rfl); (first | with_reducible assumption | exact Is.const rfl); intro r n hr))
      go_ret
      exact ⟨by simp, _, rfl⟩
    · have hz' : fcmp .eql .f64 A 0 = false := by simpa using hz
      have he : fcmp .eql .f64 A A = true := by rw [fcmp_eql_self, hn']; rfl
      clear hn hn' hz
      go_enter Try.func41, Try.ntmps41
      go_wp2_with (first | (apply wpList_fcmp; rfl; rfl; rfl; rfl; (first | with_reducible assumption | exact Is.const rfl); (first | with_reducible assumption | exact Is.const rfl); (first | with_reducible assumption | exact rfl)) | (apply wpList_farith; rfl; rfl; rfl; rfl; (first | with_reducible assumption | exact Is.const rfl); (first | with_reducible assumption | exact Is.const rfl); intro r n hr))
      go_ret
      exact ⟨rfl, 0, rfl⟩

end Go.Proofs.Ytlfnbnhbobohlaa
