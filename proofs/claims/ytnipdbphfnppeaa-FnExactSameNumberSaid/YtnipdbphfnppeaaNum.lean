/-
  Chapter 1, single numbers: contracts of the program's functions and of the model's.
-/
import Derived.Test.YtnipdbphfnppeaaMath
namespace Go.Proofs.Ytnipdbphfnppeaa
open Go.Fl Go.RowKit

theorem lt64 {x X : Nat} (h : Is .f64 x X) : x < 18446744073709551616 := by have := h.lt; rwa [w64] at this
theorem lt32 {x X : Nat} (h : Is .f32 x X) : x < 4294967296 := by have := h.lt; rwa [w32] at this

/-! ### bits -/
theorem bits_of {x X : Nat} (ix : Is .f32 x X) (h : nan .f32 X = false) : bits32 X = x := by
  unfold bits32; rw [h]; exact (ix.same h).symm

theorem wrap_nat (x : Nat) (h : x < 4294967296) : wrap64 (x : Int) = (x : Int) := by unfold wrap64; omega

theorem sBits_any (x X : Nat) (ix : Is .f32 x X) (w : World) : Calls Try.prog 29 #[.float .f32 x] w fun e w' => e = .returned (.int .i64 (bits32 X : Int)) ∧ w = w' := by
  have hl := lt32 ix
  by_cases hn : nan .f32 X = true
  · have hc : fcmp .neq .f32 X X = true := by rw [fcmp_neq_self, hn]
    have e : bits32 X = 2143289344 := by unfold bits32; rw [if_pos hn]
    rw [e]
    clear e hn
    go_enter Try.func29, Try.ntmps29
    go_wp2_with (apply wpList_fcmp; rfl; rfl; rfl; rfl; (first | with_reducible assumption | exact Is.const rfl); (first | with_reducible assumption | exact Is.const rfl); (first | with_reducible assumption | exact rfl))
    go_ret
    exact ⟨rfl, rfl⟩
  · have hn' : nan .f32 X = false := by simpa using hn
    have hc : fcmp .neq .f32 X X = false := by rw [fcmp_neq_self, hn']
    rw [bits_of ix hn']
    clear hn hn'
    go_enter Try.func29, Try.ntmps29
    go_wp2_with (apply wpList_fcmp; rfl; rfl; rfl; rfl; (first | with_reducible assumption | exact Is.const rfl); (first | with_reducible assumption | exact Is.const rfl); (first | with_reducible assumption | exact rfl))
    go_ret
    exact ⟨rfl, rfl⟩

theorem iBitsOf_any (x X : Nat) (ix : Is .f32 x X) (w : World) : Calls Try.prog 15 #[.float .f32 x] w fun e w' => e = .returned (.int .i64 (bits32 X : Int)) ∧ w = w' := by
  have hl := lt32 ix
  by_cases hn : nan .f32 X = true
  · have hc : fcmp .neq .f32 X X = true := by rw [fcmp_neq_self, hn]
    have e : bits32 X = 2143289344 := by unfold bits32; rw [if_pos hn]
    rw [e]
    clear e hn
    go_enter Try.func15, Try.ntmps15
    go_wp2_with (apply wpList_fcmp; rfl; rfl; rfl; rfl; (first | with_reducible assumption | exact Is.const rfl); (first | with_reducible assumption | exact Is.const rfl); (first | with_reducible assumption | exact rfl))
    go_ret
    exact ⟨rfl, rfl⟩
  · have hn' : nan .f32 X = false := by simpa using hn
    have hc : fcmp .neq .f32 X X = false := by rw [fcmp_neq_self, hn']
    rw [bits_of ix hn']
    clear hn hn'
    go_enter Try.func15, Try.ntmps15
    go_wp2_with (apply wpList_fcmp; rfl; rfl; rfl; rfl; (first | with_reducible assumption | exact Is.const rfl); (first | with_reducible assumption | exact Is.const rfl); (first | with_reducible assumption | exact rfl))
    go_ret
    exact ⟨rfl, rfl⟩

theorem sBitsOf_any (x X : Nat) (ix : Is .f32 x X) (w : World) : Calls Try.prog 14 #[.float .f32 x] w fun e w' => e = .returned (.int .i64 (bits32 X : Int)) ∧ w = w' := by
  go_enter Try.func14, Try.ntmps14
  go_wp2_with (go_at_call 29; refine (sBits_any _ _ ix _).mono ?_; rintro e w' ⟨rfl, rfl⟩)
  go_ret
  exact ⟨rfl, rfl⟩

/-! ### same -/
theorem sSame_any (x X y Y : Nat) (ix : Is .f32 x X) (iy : Is .f32 y Y) (w : World) : Calls Try.prog 25 #[.float .f32 x, .float .f32 y] w fun e w' => e = .returned (.bool (decide (X = Y))) ∧ w = w' := by
  have e : ((bits32 X : Int) == (bits32 Y : Int)) = decide (X = Y) := by
    rw [Bool.eq_iff_iff]; simp [Int.ofNat_inj, bits32_eq ix.canon iy.canon]
  have H := Lib.hid e; clear e
  go_enter Try.func25, Try.ntmps25
  go_wp2_with (go_at_call 29; refine (sBits_any _ _ (by assumption) _).mono ?_; rintro e w' ⟨rfl, rfl⟩)
  go_ret
  exact ⟨congrArg (fun b => Ending.returned (.bool b)) H.out, rfl⟩

theorem sSameNumber_any (x X y Y : Nat) (ix : Is .f32 x X) (iy : Is .f32 y Y) (w : World) : Calls Try.prog 10 #[.float .f32 x, .float .f32 y] w fun e w' => e = .returned (.bool (decide (X = Y))) ∧ w = w' := by
  go_enter Try.func10, Try.ntmps10
  go_wp2_with (go_at_call 25; refine (sSame_any _ _ _ _ ix iy _).mono ?_; rintro e w' ⟨rfl, rfl⟩)
  go_ret
  exact ⟨rfl, rfl⟩

theorem hasSign_any (x X : Nat) (ix : Is .f32 x X) (hn : nan .f32 X = false) (w : World) : Calls Try.prog 26 #[.float .f32 x] w fun e w' => e = .returned (.bool (neg FloatKind.f32.format X)) ∧ ∃ n, w' = w.drewN n := by
  have key : ∀ r, Is .f64 r (wid X) → decide (2 ^ 63 ≤ r) = neg FloatKind.f32.format X := by
    intro r hr
    have e := hr.same (by rw [nan_wid, hn])
    rw [← neg64 hr.lt, e, neg_wid hn]
  go_enter Try.func26, Try.ntmps26
  go_wp2_with (first | (apply wpList_wid; rfl; rfl; (first | with_reducible assumption | exact Is.const rfl); exact U32; exact U64; intro r n hr) | (go_at_call 38; refine (signbit_any _ (lt64 hr) _).mono ?_; rintro e w' ⟨rfl, rfl⟩))
  go_ret
  exact ⟨rfl, _, rfl⟩

theorem iSameNumber_any (x X y Y : Nat) (ix : Is .f32 x X) (iy : Is .f32 y Y) (w : World) : Calls Try.prog 11 #[.float .f32 x, .float .f32 y] w fun e w' => e = .returned (.bool (decide (X = Y))) ∧ ∃ n, w' = w.drewN n := by
  by_cases hx : nan .f32 X = true
  · have hcx : fcmp .neq .f32 X X = true := by rw [fcmp_neq_self, hx]
    by_cases hy : nan .f32 Y = true
    · have hcy : fcmp .neq .f32 Y Y = true := by rw [fcmp_neq_self, hy]
      have e : decide (X = Y) = true := by
        have := ix.canon; have := iy.canon
        rw [cn_nan _ hx] at *; rw [cn_nan _ hy] at *
        exact decide_eq_true (by omega)
      rw [e]; clear e hx hy
      go_enter Try.func11, Try.ntmps11
      go_wp2_with (apply wpList_fcmp; rfl; rfl; rfl; rfl; (first | with_reducible assumption | exact Is.const rfl); (first | with_reducible assumption | exact Is.const rfl); (first | with_reducible assumption | exact rfl))
      go_ret
      exact ⟨rfl, 0, rfl⟩
    · have hy' : nan .f32 Y = false := by simpa using hy
      have hcy : fcmp .neq .f32 Y Y = false := by rw [fcmp_neq_self, hy']
      have e : decide (X = Y) = false := decide_eq_false (by intro h; rw [h] at hx; exact hy hx)
      rw [e]; clear e hx hy hy'
      go_enter Try.func11, Try.ntmps11
      go_wp2_with (apply wpList_fcmp; rfl; rfl; rfl; rfl; (first | with_reducible assumption | exact Is.const rfl); (first | with_reducible assumption | exact Is.const rfl); (first | with_reducible assumption | exact rfl))
      go_ret
      exact ⟨rfl, 0, rfl⟩
  · have hx' : nan .f32 X = false := by simpa using hx
    have hcx : fcmp .neq .f32 X X = false := by rw [fcmp_neq_self, hx']
    by_cases hy : nan .f32 Y = true
    · have hcy : fcmp .neq .f32 Y Y = true := by rw [fcmp_neq_self, hy]
      have e : decide (X = Y) = false := decide_eq_false (by intro h; rw [← h] at hy; exact hx hy)
      rw [e]; clear e hx hy hx'
      go_enter Try.func11, Try.ntmps11
      go_wp2_with (apply wpList_fcmp; rfl; rfl; rfl; rfl; (first | with_reducible assumption | exact Is.const rfl); (first | with_reducible assumption | exact Is.const rfl); (first | with_reducible assumption | exact rfl))
      go_ret
      exact ⟨rfl, 0, rfl⟩
    · have hy' : nan .f32 Y = false := by simpa using hy
      have hcy : fcmp .neq .f32 Y Y = false := by rw [fcmp_neq_self, hy']
      have hsx : X = x := (ix.same hx').symm
      have hsy : Y = y := (iy.same hy').symm
      have e := same_eq (by rw [hsx]; exact ix.lt) (by rw [hsy]; exact iy.lt) hx' hy'
      rw [← e]; clear e hx hy hsx hsy
      by_cases hc : fcmp .eql .f32 X Y = true
      · rw [hc, Bool.true_and]
        go_enter Try.func11, Try.ntmps11
        go_wp2_with (first | (apply wpList_fcmp; rfl; rfl; rfl; rfl; (first | with_reducible assumption | exact Is.const rfl); (first | with_reducible assumption | exact Is.const rfl); (first | with_reducible assumption | exact rfl)) | (go_at_call 26; refine (hasSign_any _ _ (by assumption) (by assumption) _).mono ?_; rintro e w' ⟨rfl, n, rfl⟩))
        go_ret
        exact ⟨rfl, _, rfl⟩
      · have hc' : fcmp .eql .f32 X Y = false := by simpa using hc
        rw [hc', Bool.false_and]
        clear hc
        go_enter Try.func11, Try.ntmps11
        go_wp2_with (first | (apply wpList_fcmp; rfl; rfl; rfl; rfl; (first | with_reducible assumption | exact Is.const rfl); (first | with_reducible assumption | exact Is.const rfl); (first | with_reducible assumption | exact rfl)))
        go_ret
        exact ⟨rfl, 0, rfl⟩

/-! ### finite -/
theorem sFinite_any (x X : Nat) (ix : Is .f32 x X) (w : World) : Calls Try.prog 27 #[.float .f32 x] w fun e w' => e = .returned (.bool (fin .f32 X)) ∧ ∃ n, w' = w.drewN n := by
  rw [← sub_self]
  go_enter Try.func27, Try.ntmps27
  go_wp2_with (first | (apply wpList_fcmp; rfl; rfl; rfl; rfl; (first | with_reducible assumption | exact Is.const rfl); (first | with_reducible assumption | exact Is.const rfl); (first | with_reducible assumption | exact rfl)) | (apply wpList_farith; rfl; rfl; rfl; rfl; (first | with_reducible assumption | exact Is.const rfl); (first | with_reducible assumption | exact Is.const rfl); intro r n hr))
  go_ret
  exact ⟨rfl, _, rfl⟩

theorem sIsFinite_any (x X : Nat) (ix : Is .f32 x X) (w : World) : Calls Try.prog 12 #[.float .f32 x] w fun e w' => e = .returned (.bool (fin .f32 X)) ∧ ∃ n, w' = w.drewN n := by
  go_enter Try.func12, Try.ntmps12
  go_wp2_with (go_at_call 27; refine (sFinite_any _ _ ix _).mono ?_; rintro e w' ⟨rfl, n, rfl⟩)
  go_ret
  exact ⟨rfl, _, rfl⟩

theorem iWide_any (x X : Nat) (ix : Is .f64 x X) (w : World) : Calls Try.prog 28 #[.float .f64 x] w fun e w' => e = .returned (.bool (fin .f64 X)) ∧ w = w' := by
  rw [← finWide]
  by_cases hc : fcmp .gtr .f64 (fabs X) 9218868437227405311 = true
  · rw [hc]
    go_enter Try.func28, Try.ntmps28
    go_wp2_with (first | (go_at_call 39; refine (isInf_any _ _ ix _).mono ?_; rintro e w' ⟨rfl, rfl⟩) | (go_at_call 40; refine (isNaN_any _ _ ix _).mono ?_; rintro e w' ⟨rfl, rfl⟩))
    go_ret
    exact ⟨rfl, rfl⟩
  · have hc' : fcmp .gtr .f64 (fabs X) 9218868437227405311 = false := by simpa using hc
    clear hc
    rw [hc']
    go_enter Try.func28, Try.ntmps28
    go_wp2_with (first | (go_at_call 39; refine (isInf_any _ _ ix _).mono ?_; rintro e w' ⟨rfl, rfl⟩) | (go_at_call 40; refine (isNaN_any _ _ ix _).mono ?_; rintro e w' ⟨rfl, rfl⟩))
    go_ret
    exact ⟨by simp, rfl⟩

theorem iIsFinite_any (x X : Nat) (ix : Is .f32 x X) (w : World) : Calls Try.prog 13 #[.float .f32 x] w fun e w' => e = .returned (.bool (fin .f32 X)) ∧ ∃ n, w' = w.drewN n := by
  rw [← fin_wid]
  go_enter Try.func13, Try.ntmps13
  go_wp2_with (first | (apply wpList_wid; rfl; rfl; (first | with_reducible assumption | exact Is.const rfl); exact U32; exact U64; intro r n hr) | (go_at_call 28; refine (iWide_any _ _ (by assumption) _).mono ?_; rintro e w' ⟨rfl, rfl⟩))
  go_ret
  exact ⟨rfl, _, rfl⟩

end Go.Proofs.Ytnipdbphfnppeaa
