/-
  Places in eighths: finite, within the edges, their corners.
-/
import Derived.Test.YtlfnbnhbobohlaaEi
import Derived.Test.YtlfnbnhbobohlaaGrid
namespace Go.Proofs.Ytlfnbnhbobohlaa
open Go.Fl Go.RowKit

theorem iWide3_any (x X : Nat) (ix : Is .f64 x X) (w : World) : Calls Try.prog 121 #[.float .f64 x] w fun e w' => e = .returned (.bool (fin .f64 X)) ∧ w = w' := by
  rw [← finWide]
  by_cases hc : fcmp .gtr .f64 (fabs X) 9218868437227405311 = true
  · rw [hc]
    go_enter Try.func121, Try.ntmps121
    go_wp2_with (first | (go_at_call 140; refine (isInf_any _ _ ix _).mono ?_; rintro e w' ⟨rfl, rfl⟩) | (go_at_call 141; refine (isNaN_any _ _ ix _).mono ?_; rintro e w' ⟨rfl, rfl⟩))
    go_ret
    exact ⟨rfl, rfl⟩
  · have hc' : fcmp .gtr .f64 (fabs X) 9218868437227405311 = false := by simpa using hc
    clear hc
    rw [hc']
    go_enter Try.func121, Try.ntmps121
    go_wp2_with (first | (go_at_call 140; refine (isInf_any _ _ ix _).mono ?_; rintro e w' ⟨rfl, rfl⟩) | (go_at_call 141; refine (isNaN_any _ _ ix _).mono ?_; rintro e w' ⟨rfl, rfl⟩))
    go_ret
    exact ⟨by simp, rfl⟩

theorem iFinite3_any (x X : Nat) (ix : Is .f32 x X) (w : World) : Calls Try.prog 91 #[.float .f32 x] w fun e w' => e = .returned (.bool (fin .f32 X)) ∧ ∃ n, w' = w.drewN n := by
  rw [← fin_wid]
  go_enter Try.func91, Try.ntmps91
  go_wp2_with (first | (apply wpList_wid; rfl; rfl; (first | with_reducible assumption | exact Is.const rfl); exact U32; exact U64; intro r n hr) | (go_at_call 121; refine (iWide3_any _ _ (by assumption) _).mono ?_; rintro e w' ⟨rfl, rfl⟩))
  go_ret
  exact ⟨rfl, _, rfl⟩


theorem iFiniteC_e8 (n m : Int) (n0 : -112 ≤ n) (n1 : n < 248) (m0 : -112 ≤ m) (m1 : m < 248) (w : World) : Calls Try.prog 99 #[.complex .f32 (E8 n) (E8 m)] w fun e w' => e = .returned (.bool true) ∧ ∃ n, w' = w.drewN n := by
  obtain ⟨i1, g1⟩ := is_e8 n n0 n1
  obtain ⟨i2, g2⟩ := is_e8 m m0 m1
  go_enter Try.func99, Try.ntmps99
  go_wp2_with fail
  refine (iFinite3_any _ _ i1 _).mono ?_
  rintro e w' ⟨rfl, k, rfl⟩
  rw [g1]
  go_wp2_with fail
  refine (iFinite3_any _ _ i2 _).mono ?_
  rintro e w' ⟨rfl, k', rfl⟩
  rw [g2]
  go_wp2_with fail
  go_ret
  exact ⟨rfl, _, rfl⟩


theorem iCorner_e8 (n m : Int) (n0 : 0 ≤ n) (n1 : n < 56) (m0 : 0 ≤ m) (m1 : m < 56) (w : World) :
    Calls Try.prog 129 #[.complex .f32 (E8 n) (E8 m)] w fun e w' => e = .returned (.tuple #[.int .i64 (n / 8), .int .i64 (m / 8)]) ∧ w' = w := by
  have c1 : ∀ w, (convert 46 2 (.float .f32 (E8 n))).run Try.prog w = .ok (.int .i64 (n / 8)) w := fun w =>
    run_convert_float_int (P := Try.prog) w _ _ .f32 .i64 (E8 n) (n / 8) (by rw [U32]; rfl) Try.underlying2 (int_e8 n n0 n1).1
  have c2 : ∀ w, (convert 46 2 (.float .f32 (E8 m))).run Try.prog w = .ok (.int .i64 (m / 8)) w := fun w =>
    run_convert_float_int (P := Try.prog) w _ _ .f32 .i64 (E8 m) (m / 8) (by rw [U32]; rfl) Try.underlying2 (int_e8 m m0 m1).1
  go_enter Try.func129, Try.ntmps129
  go_wp2_with fail
  go_ret2
  exact ⟨rfl, rfl⟩
end Go.Proofs.Ytlfnbnhbobohlaa
