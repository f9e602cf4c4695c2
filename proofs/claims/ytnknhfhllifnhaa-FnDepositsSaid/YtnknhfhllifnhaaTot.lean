/-
  The sum of a field, exactly.
-/
import Derived.Test.YtnknhfhllifnhaaDep
namespace Go.Proofs.Ytnknhfhllifnhaa
open Go.Fl Go.RowKit
set_option linter.unusedSimpArgs false
set_option linter.unusedVariables false

theorem iSumOf_yes (v : Value) (xs : List Nat) (w : World) (hv : FS .f32 w v xs) (hn : xs.length ≤ 256) : Calls Try.prog 153 #[v] w fun e w' => (∃ r, e = .returned (.tuple #[.float .f32 r, .bool true]) ∧ Is .f32 r (sumTo .f32 xs xs.length)) ∧ ∃ n, w' = w.drewN n := by
  obtain ⟨a, cap, rfl, hlc, hcm, hwf, hmem⟩ := hv
  unfold maxLen at hcm
  have hd : decide ((256 : Int) < (xs.length : Int)) = false := by simp; omega
  go_enter Try.func153, Try.ntmps153
  go_wp2
  go_loopw [4, 13] (fun s i wr => ∃ k : Nat, k ≤ xs.length ∧ i = .int .i64 k ∧ (∃ r, s = .float .f32 r ∧ Is .f32 r (sumTo .f32 xs k)) ∧ ∃ n, wr = w.drewN n) (fun _ i _ => xs.length - (intOf i).toNat)
  case atStart => exact ⟨0, Nat.zero_le _, rfl, ⟨_, rfl, Is.const rfl⟩, 0, rfl⟩
  case round =>
    obtain ⟨k, hk, rfl, ⟨r, rfl, hr⟩, n, rfl⟩ := hrel
    by_cases hlt : k < xs.length
    · rcases hmem with rfl | ⟨b, off, rfl, hb, hc⟩
      · simp at hlt
      have hcell := hc k hlt
      have hx := FS.is hwf k hlt
      have hs := Lib.hid (sumTo_succ .f32 xs k hlt)
      clear hc hd
      generalize xs.getD k 0 = x at hcell hx hs
      go_wp2_with (apply wpList_farith; rfl; rfl; rfl; rfl; (first | with_reducible assumption | exact Is.const rfl); (first | with_reducible assumption | exact Is.const rfl); intro r n hr)
      go_roundw
      case rel => exact ⟨k + 1, by omega, by go_num, ⟨_, rfl, by rw [hs.out]; assumption⟩, _, rfl⟩
      case measure => simp [intOf]; omega
    · have : k = xs.length := by omega
      subst this
      clear hlt hd
      go_wp2
      go_ret2
      exact ⟨⟨_, rfl, hr⟩, _, rfl⟩

theorem iSumNumbers_yes (v : Value) (xs : List Nat) (w : World) (hv : FS .f32 w v xs) (hn : xs.length ≤ 256) : Calls Try.prog 83 #[v] w fun e w' => (∃ r, e = .returned (.tuple #[.float .f32 r, .bool true]) ∧ Is .f32 r (sumTo .f32 xs xs.length)) ∧ ∃ n, w' = w.drewN n := by
  go_enter Try.func83, Try.ntmps83
  go_wp2_with (go_at_call 153; refine (iSumOf_yes _ _ _ hv hn).mono ?_; rintro e w' ⟨⟨r, rfl, hr⟩, n, rfl⟩)
  go_ret2
  exact ⟨⟨_, rfl, hr⟩, _, rfl⟩

theorem iTotalOf_yes (v : Value) (xs : List Nat) (w : World) (hv : FS .f32 w v xs) (hn : xs.length ≤ 256) : Calls Try.prog 14 #[v] w fun e w' => (∃ r, e = .returned (.tuple #[.float .f32 r, .bool true]) ∧ Is .f32 r (sumTo .f32 xs xs.length)) ∧ ∃ n, w' = w.drewN n := by
  go_enter Try.func14, Try.ntmps14
  go_wp2_with (go_at_call 83; refine (iSumNumbers_yes _ _ _ hv hn).mono ?_; rintro e w' ⟨⟨r, rfl, hr⟩, n, rfl⟩)
  go_ret2
  exact ⟨⟨_, rfl, hr⟩, _, rfl⟩

theorem sumTo_dy {xs : List Nat} {F : Nat → Int} (h : DyL xs F) (M : Int) (hM : ∀ j, -M ≤ F j ∧ F j ≤ M) (k : Nat) (hk : k ≤ xs.length) (hb : M * xs.length < 16777216) : Dy .f32 140 (sumTo .f32 xs k) (sumN F k) := by
  induction k with
  | zero => exact dy_zero32 _
  | succ k ih =>
    have d := h k (by omega)
    rw [sumTo_succ .f32 xs k (by omega), cn_of .f32 d.nan]
    have h2 := sumN_le F M (k + 1) hM
    have hM0 : 0 ≤ M := by have := hM 0; omega
    have h3 : M * ((k + 1 : Nat) : Int) ≤ M * (xs.length : Int) := Int.mul_le_mul_of_nonneg_left (by omega) hM0
    show Dy .f32 140 _ (sumN F k + F k)
    have e : sumN F (k + 1) = sumN F k + F k := rfl
    exact (ih (by omega)).add32 d (by decide) (by omega)
theorem dy_units {x : Nat} {n : Int} (h : Dy .f32 146 x n) : Dy .f32 140 x (n * 64) := by
  refine ⟨h.lt, h.fin, ?_, ?_⟩
  · rw [h.sg]; exact decide_eq_decide.2 (by omega)
  · rw [h.val, Int.mul_assoc]
    congr 1
end Go.Proofs.Ytnknhfhllifnhaa
