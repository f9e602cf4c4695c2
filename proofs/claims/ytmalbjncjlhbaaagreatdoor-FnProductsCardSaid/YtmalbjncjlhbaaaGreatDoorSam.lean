/-
  The same number, of the program.
-/
import Derived.Test.YtmalbjncjlhbaaaGreatDoorMath
import Derived.Test.YtmalbjncjlhbaaaGreatDoorLoose
namespace Go.Proofs.YtmalbjncjlhbaaaGreatDoor
open Go.Fl Go.RowKit

theorem sam64 {x X : Nat} (h : Is .f64 x X) : x < 18446744073709551616 := by have := h.lt; rwa [w64] at this

theorem hasSign_any (x X : Nat) (ix : Is .f32 x X) (hn : nan .f32 X = false) (w : World) : Calls Tryz.prog 94 #[.float .f32 x] w fun e w' => e = .returned (.bool (neg FloatKind.f32.format X)) ∧ ∃ n, w' = w.drewN n := by
  have key : ∀ r, Is .f64 r (wid X) → decide (2 ^ 63 ≤ r) = neg FloatKind.f32.format X := by
    intro r hr
    have e := hr.same (by rw [nan_wid, hn])
    rw [← neg64 hr.lt, e, neg_wid hn]
  go_enter Tryz.func94, Tryz.ntmps94
  go_wp2_with (first | (apply wpList_wid; rfl; rfl; (first | with_reducible assumption | exact Is.const rfl); exact U32; exact U64; intro r n hr) | (go_at_call 108; refine (signbit_any _ (sam64 hr) _).mono ?_; rintro e w' ⟨rfl, rfl⟩))
  go_ret
  exact ⟨rfl, _, rfl⟩

theorem iSameNumber_any (x X y Y : Nat) (ix : Is .f32 x X) (iy : Is .f32 y Y) (w : World) : Calls Tryz.prog 72 #[.float .f32 x, .float .f32 y] w fun e w' => e = .returned (.bool (decide (X = Y))) ∧ ∃ n, w' = w.drewN n := by
  by_cases hx : nan .f32 X = true
  · have hcx : fcmp .neq .f32 X X = true := by rw [fcmp_neq_self, hx]
    by_cases hy : nan .f32 Y = true
    · have hcy : fcmp .neq .f32 Y Y = true := by rw [fcmp_neq_self, hy]
      have e : decide (X = Y) = true := by
        have := ix.canon; have := iy.canon
        rw [cn_nan _ hx] at *; rw [cn_nan _ hy] at *
        exact decide_eq_true (by omega)
      rw [e]; clear e hx hy
      go_enter Tryz.func72, Tryz.ntmps72
      go_wp2_with (apply wpList_fcmp; rfl; rfl; rfl; rfl; (first | with_reducible assumption | exact Is.const rfl); (first | with_reducible assumption | exact Is.const rfl); (first | with_reducible assumption | exact rfl))
      go_ret
      exact ⟨rfl, 0, rfl⟩
    · have hy' : nan .f32 Y = false := by simpa using hy
      have hcy : fcmp .neq .f32 Y Y = false := by rw [fcmp_neq_self, hy']
      have e : decide (X = Y) = false := decide_eq_false (by intro h; rw [h] at hx; exact hy hx)
      rw [e]; clear e hx hy hy'
      go_enter Tryz.func72, Tryz.ntmps72
      go_wp2_with (apply wpList_fcmp; rfl; rfl; rfl; rfl; (first | with_reducible assumption | exact Is.const rfl); (first | with_reducible assumption | exact Is.const rfl); (first | with_reducible assumption | exact rfl))
      go_ret
      exact ⟨rfl, 0, rfl⟩
  · have hx' : nan .f32 X = false := by simpa using hx
    have hcx : fcmp .neq .f32 X X = false := by rw [fcmp_neq_self, hx']
    by_cases hy : nan .f32 Y = true
    · have hcy : fcmp .neq .f32 Y Y = true := by rw [fcmp_neq_self, hy]
      have e : decide (X = Y) = false := decide_eq_false (by intro h; rw [← h] at hy; exact hx hy)
      rw [e]; clear e hx hy hx'
      go_enter Tryz.func72, Tryz.ntmps72
      go_wp2_with (apply wpList_fcmp; rfl; rfl; rfl; rfl; (first | with_reducible assumption | exact Is.const rfl); (first | with_reducible assumption | exact Is.const rfl); (first | with_reducible assumption | exact rfl))
      go_ret
      exact ⟨rfl, 0, rfl⟩
    · have hy' : nan .f32 Y = false := by simpa using hy
      have hcy : fcmp .neq .f32 Y Y = false := by rw [fcmp_neq_self, hy']
      have hsx : X = x := (ix.same hx').symm
      have hsy : Y = y := (iy.same hy').symm
      have e := same_eq (by rw [hsx]; exact ix.lt) (by rw [hsy]; exact iy.lt) hx' hy'
      rw [← e]; clear e hx hy hsx hsy
      by_cases hc : fcmp .eql .f32 X Y = true
      · rw [hc, Bool.true_and]
        go_enter Tryz.func72, Tryz.ntmps72
        go_wp2_with (first | (apply wpList_fcmp; rfl; rfl; rfl; rfl; (first | with_reducible assumption | exact Is.const rfl); (first | with_reducible assumption | exact Is.const rfl); (first | with_reducible assumption | exact rfl)) | (go_at_call 94; refine (hasSign_any _ _ (by assumption) (by assumption) _).mono ?_; rintro e w' ⟨rfl, n, rfl⟩))
        go_ret
        exact ⟨rfl, _, rfl⟩
      · have hc' : fcmp .eql .f32 X Y = false := by simpa using hc
        rw [hc', Bool.false_and]
        clear hc
        go_enter Tryz.func72, Tryz.ntmps72
        go_wp2_with (first | (apply wpList_fcmp; rfl; rfl; rfl; rfl; (first | with_reducible assumption | exact Is.const rfl); (first | with_reducible assumption | exact Is.const rfl); (first | with_reducible assumption | exact rfl)))
        go_ret
        exact ⟨rfl, 0, rfl⟩

theorem iSameComplex_any (x X y Y x' X' y' Y' : Nat) (ix : Is .f32 x X) (iy : Is .f32 y Y) (ix' : Is .f32 x' X') (iy' : Is .f32 y' Y') (w : World) :
    Calls Tryz.prog 34 #[.complex .f32 x y, .complex .f32 x' y'] w fun e w' => e = .returned (.bool (decide (X = X' ∧ Y = Y'))) ∧ ∃ n, w' = w.drewN n := by
  by_cases h : X = X'
  · have h1 : decide (X = X') = true := decide_eq_true h
    have e : decide (X = X' ∧ Y = Y') = decide (Y = Y') := by simp [h]
    rw [e]
    clear e
    go_enter Tryz.func34, Tryz.ntmps34
    go_wp2_with fail
    refine (iSameNumber_any _ _ _ _ ix ix' _).mono ?_
    rintro e w' ⟨rfl, k, rfl⟩
    rw [h1]
    go_wp2_with fail
    refine (iSameNumber_any _ _ _ _ iy iy' _).mono ?_
    rintro e w' ⟨rfl, k', rfl⟩
    go_wp2_with fail
    go_ret
    exact ⟨rfl, _, rfl⟩
  · have h1 : decide (X = X') = false := decide_eq_false h
    have e : decide (X = X' ∧ Y = Y') = false := by simp [h]
    rw [e]
    clear e
    go_enter Tryz.func34, Tryz.ntmps34
    go_wp2_with fail
    refine (iSameNumber_any _ _ _ _ ix ix' _).mono ?_
    rintro e w' ⟨rfl, k, rfl⟩
    rw [h1]
    go_wp2_with fail
    go_ret
    exact ⟨rfl, _, rfl⟩
end Go.Proofs.YtmalbjncjlhbaaaGreatDoor
