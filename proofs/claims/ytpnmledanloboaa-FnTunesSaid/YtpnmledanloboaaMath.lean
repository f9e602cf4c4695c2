/-
  The functions of package math that the program calls, by contract.
-/
import Derived.Test.YtpnmledanloboaaFn
import Derived.Test.YtpnmledanloboaaChecked
import Derived.WalkLawsBesides
import Derived.Lib.Hide
namespace Go.Proofs.Ytpnmledanloboaa
open Go.Fl Go.RowKit

theorem U32 : Try.prog.underlying 23 = some (.float .f32) := Try.underlying23
theorem UI : Try.prog.underlying 2 = some (.int .i64) := Try.underlying2
theorem U64 : Try.prog.underlying 28 = some (.float .f64) := Try.underlying28

@[go_sem] theorem call_f32bits (b : Nat) (w : World) : (callFunc 135 #[.float .f32 b]).run Try.prog w = .ok (.value (.int .u32 b)) w := by kernel_rfl
@[go_sem] theorem call_f64bits (b : Nat) (w : World) : (callFunc 128 #[.float .f64 b]).run Try.prog w = .ok (.value (.int .u64 b)) w := by kernel_rfl
@[go_sem] theorem call_f32from (n : Int) (w : World) : (callFunc 139 #[.int .u32 n]).run Try.prog w = .ok (.value (.float .f32 n.toNat)) w := by kernel_rfl
@[go_sem] theorem call_f64from (n : Int) (w : World) : (callFunc 127 #[.int .u64 n]).run Try.prog w = .ok (.value (.float .f64 n.toNat)) w := by kernel_rfl

theorem isNaN_any (x X : Nat) (ix : Is .f64 x X) (w : World) : Calls Try.prog 132 #[.float .f64 x] w fun e w' => e = .returned (.bool (nan .f64 X)) ∧ w = w' := by
  rw [← fcmp_neq_self]
  go_enter Try.func132, Try.ntmps132
  go_wp2_with (apply wpList_fcmp; rfl; rfl; rfl; rfl; (first | with_reducible assumption | exact Is.const rfl); (first | with_reducible assumption | exact Is.const rfl); (first | with_reducible assumption | exact rfl))
  go_ret
  exact ⟨rfl, rfl⟩

theorem abs_bits (x : Nat) (hx : x < 18446744073709551616) : (bits .andNot .u64 (x : Int) 9223372036854775808).toNat = x % 2 ^ 63 := by
  rw [u64_andNot _ _ (by omega) (by omega) (by decide) (by decide)]
  show x &&& (2 ^ 63 - 1) = _
  exact Nat.and_two_pow_sub_one_eq_mod x 63

theorem abs_any (x : Nat) (hx : x < 18446744073709551616) (w : World) : Calls Try.prog 111 #[.float .f64 x] w fun e w' => e = .returned (.float .f64 (x % 2 ^ 63)) ∧ w = w' := by
  go_enter Try.func111, Try.ntmps111
  go_wp2
  go_ret
  exact ⟨congrArg (fun n => Ending.returned (.float .f64 n)) (abs_bits x hx), rfl⟩

theorem isInf_any (x X : Nat) (ix : Is .f64 x X) (w : World) : Calls Try.prog 131 #[.float .f64 x, .int .i64 0] w fun e w' => e = .returned (.bool (fcmp .gtr .f64 (fabs X) 9218868437227405311)) ∧ w = w' := by
  have ia := ix.abs
  have hl : x < 18446744073709551616 := by have := ix.lt; rwa [w64] at this
  go_enter Try.func131, Try.ntmps131
  go_wp2_with (first | (apply wpList_fcmp; rfl; rfl; rfl; rfl; (first | with_reducible assumption | exact Is.const rfl); (first | with_reducible assumption | exact Is.const rfl); (first | with_reducible assumption | exact rfl)) | (go_at_call 111; refine (abs_any _ hl _).mono ?_; rintro e w' ⟨rfl, rfl⟩))
  go_ret
  exact ⟨rfl, rfl⟩

/-! ### the laws' own comparison -/
theorem sameFloat_any (a b A : Nat) (ia : Is .f64 a A) (ib : Is .f64 b A) (w : World) : Calls Try.prog 18 #[.float .f64 a, .float .f64 b] w fun e w' => e = .returned (.bool true) ∧ ∃ n, w' = w.drewN n := by
  by_cases hn : nan .f64 A = true
  · have hc : fcmp .neq .f64 A A = true := by rw [fcmp_neq_self, hn]
    clear hn
    go_enter Try.func18, Try.ntmps18
    go_wp2_with (first | (apply wpList_fcmp; rfl; rfl; rfl; rfl; (first | with_reducible assumption | exact Is.const rfl); (first | with_reducible assumption | exact Is.const rfl); (first | with_reducible assumption | exact rfl)) | (apply wpList_farith; rfl; rfl; rfl; rfl; (first | with_reducible assumption | exact Is.const rfl); (first | with_reducible assumption | exact Is.const rfl); intro r n hr))
    go_ret
    exact ⟨rfl, 0, rfl⟩
  · have hn' : nan .f64 A = false := by simpa using hn
    have hc : fcmp .neq .f64 A A = false := by rw [fcmp_neq_self, hn']
    by_cases hz : fcmp .eql .f64 A 0 = true
    · clear hn hn'
      go_enter Try.func18, Try.ntmps18
      go_wp2_with (first | (apply wpList_fcmp; rfl; rfl; rfl; rfl; (first | with_reducible assumption | exact Is.const rfl); (first | with_reducible assumption | exact Is.const rfl); (first | with_reducible assumption | exact rfl)) | (apply wpList_farith; rfl; rfl; rfl; rfl; (first | with_reducible assumption | exact Is.const rfl); (first | with_reducible assumption | exact Is.const rfl); intro r n hr))
      go_ret
      exact ⟨by simp, _, rfl⟩
    · have hz' : fcmp .eql .f64 A 0 = false := by simpa using hz
      have he : fcmp .eql .f64 A A = true := by rw [fcmp_eql_self, hn']; rfl
      clear hn hn' hz
      go_enter Try.func18, Try.ntmps18
      go_wp2_with (first | (apply wpList_fcmp; rfl; rfl; rfl; rfl; (first | with_reducible assumption | exact Is.const rfl); (first | with_reducible assumption | exact Is.const rfl); (first | with_reducible assumption | exact rfl)) | (apply wpList_farith; rfl; rfl; rfl; rfl; (first | with_reducible assumption | exact Is.const rfl); (first | with_reducible assumption | exact Is.const rfl); intro r n hr))
      go_ret
      exact ⟨rfl, 0, rfl⟩

end Go.Proofs.Ytpnmledanloboaa
