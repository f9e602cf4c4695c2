/-
  The functions of package math that the program calls, by contract.
-/
import Derived.Test.YtmalbjncjlhbaaaGreatDoorFn
import Derived.Test.YtmalbjncjlhbaaaGreatDoorChecked
import Derived.WalkLawsBesides
import Derived.Lib.Hide
namespace Go.Proofs.YtmalbjncjlhbaaaGreatDoor
open Go.Fl Go.RowKit

theorem U32 : Tryz.prog.underlying 24 = some (.float .f32) := Tryz.underlying24
theorem UI : Tryz.prog.underlying 2 = some (.int .i64) := Tryz.underlying2
theorem U64 : Tryz.prog.underlying 44 = some (.float .f64) := Tryz.underlying44

@[go_sem] theorem call_f32bits (b : Nat) (w : World) : (callFunc 44 #[.float .f32 b]).run Tryz.prog w = .ok (.value (.int .u32 b)) w := by kernel_rfl
@[go_sem] theorem call_f64bits (b : Nat) (w : World) : (callFunc 78 #[.float .f64 b]).run Tryz.prog w = .ok (.value (.int .u64 b)) w := by kernel_rfl
@[go_sem] theorem call_f32from (n : Int) (w : World) : (callFunc 43 #[.int .u32 n]).run Tryz.prog w = .ok (.value (.float .f32 n.toNat)) w := by kernel_rfl
@[go_sem] theorem call_f64from (n : Int) (w : World) : (callFunc 77 #[.int .u64 n]).run Tryz.prog w = .ok (.value (.float .f64 n.toNat)) w := by kernel_rfl

theorem isNaN_any (x X : Nat) (ix : Is .f64 x X) (w : World) : Calls Tryz.prog 88 #[.float .f64 x] w fun e w' => e = .returned (.bool (nan .f64 X)) ∧ w = w' := by
  rw [← fcmp_neq_self]
  go_enter Tryz.func88, Tryz.ntmps88
  go_wp2_with (apply wpList_fcmp; rfl; rfl; rfl; rfl; (first | with_reducible assumption | exact Is.const rfl); (first | with_reducible assumption | exact Is.const rfl); (first | with_reducible assumption | exact rfl))
  go_ret
  exact ⟨rfl, rfl⟩

theorem abs_bits (x : Nat) (hx : x < 18446744073709551616) : (bits .andNot .u64 (x : Int) 9223372036854775808).toNat = x % 2 ^ 63 := by
  rw [u64_andNot _ _ (by omega) (by omega) (by decide) (by decide)]
  show x &&& (2 ^ 63 - 1) = _
  exact Nat.and_two_pow_sub_one_eq_mod x 63

theorem abs_any (x : Nat) (hx : x < 18446744073709551616) (w : World) : Calls Tryz.prog 53 #[.float .f64 x] w fun e w' => e = .returned (.float .f64 (x % 2 ^ 63)) ∧ w = w' := by
  go_enter Tryz.func53, Tryz.ntmps53
  go_wp2
  go_ret
  exact ⟨congrArg (fun n => Ending.returned (.float .f64 n)) (abs_bits x hx), rfl⟩

theorem signbit_any (x : Nat) (hx : x < 18446744073709551616) (w : World) : Calls Tryz.prog 108 #[.float .f64 x] w fun e w' => e = .returned (.bool (decide (2 ^ 63 ≤ x))) ∧ w = w' := by
  have e : decide (wrap64 (x : Int) < 0) = decide (2 ^ 63 ≤ x) := by
    unfold wrap64; rw [Bool.eq_iff_iff]; simp; omega
  have H := Lib.hid e; clear e
  go_enter Tryz.func108, Tryz.ntmps108
  go_wp2
  go_ret
  exact ⟨congrArg (fun b => Ending.returned (.bool b)) H.out, rfl⟩

theorem isInf_any (x X : Nat) (ix : Is .f64 x X) (w : World) : Calls Tryz.prog 87 #[.float .f64 x, .int .i64 0] w fun e w' => e = .returned (.bool (fcmp .gtr .f64 (fabs X) 9218868437227405311)) ∧ w = w' := by
  have ia := ix.abs
  have hl : x < 18446744073709551616 := by have := ix.lt; rwa [w64] at this
  go_enter Tryz.func87, Tryz.ntmps87
  go_wp2_with (first | (apply wpList_fcmp; rfl; rfl; rfl; rfl; (first | with_reducible assumption | exact Is.const rfl); (first | with_reducible assumption | exact Is.const rfl); (first | with_reducible assumption | exact rfl)) | (go_at_call 53; refine (abs_any _ hl _).mono ?_; rintro e w' ⟨rfl, rfl⟩))
  go_ret
  exact ⟨rfl, rfl⟩

theorem sign_bits (x : Nat) (hx : x < 18446744073709551616) : (bits .or .u64 (bits .andNot .u64 0 9223372036854775808) (bits .and .u64 (x : Int) 9223372036854775808)).toNat = x / 2 ^ 63 * 2 ^ 63 := by
  have h0 : bits .andNot .u64 0 9223372036854775808 = 0 := by decide
  have h1 : x &&& 9223372036854775808 < 2 ^ 64 := Nat.and_lt_two_pow _ (by decide)
  rw [h0, u64_and _ _ (by omega) (by omega) (by decide) (by decide)]
  show (bits .or .u64 0 ((x &&& 9223372036854775808 : Nat) : Int)).toNat = _
  rw [u64_or _ _ (by omega) (by omega) (by omega) (by omega)]
  show 0 ||| (x &&& 9223372036854775808) = _
  rw [Nat.zero_or]
  have e : 9223372036854775808 = (2 ^ 1 - 1) * 2 ^ 63 := by decide
  apply Nat.eq_of_testBit_eq
  intro i
  rw [e, Nat.testBit_and, ← Nat.shiftLeft_eq, show x / 2 ^ 63 * 2 ^ 63 = (x / 2 ^ 63) <<< 63 from (Nat.shiftLeft_eq _ 63).symm, Nat.testBit_shiftLeft, Nat.testBit_shiftLeft]
  by_cases h : 63 ≤ i
  · simp only [h, decide_true, Bool.true_and]
    rw [Nat.testBit_two_pow_sub_one, Nat.testBit_div_two_pow, show i - 63 + 63 = i by omega]
    by_cases h2 : i < 64
    · have : i - 63 < 1 := by omega
      simp [this]
    · have : x.testBit i = false := Nat.testBit_lt_two_pow (Nat.lt_of_lt_of_le hx (by
        have := Nat.pow_le_pow_right (show 0 < 2 by decide) (show 64 ≤ i by omega)
        exact this))
      simp [this]
  · simp [h]

theorem copysign_any (x : Nat) (hx : x < 18446744073709551616) (w : World) : Calls Tryz.prog 45 #[.float .f64 0, .float .f64 x] w fun e w' => e = .returned (.float .f64 (x / 2 ^ 63 * 2 ^ 63)) ∧ w = w' := by
  go_enter Tryz.func45, Tryz.ntmps45
  go_wp2
  go_ret
  exact ⟨congrArg (fun n => Ending.returned (.float .f64 n)) (sign_bits x hx), rfl⟩
/-! ### the laws' own comparison -/

end Go.Proofs.YtmalbjncjlhbaaaGreatDoor
