/-
  Totals of fields, of the program and of the model.
-/
import Derived.Test.YtnimmmcpdicajaaSum
namespace Go.Proofs.Ytnimmmcpdicajaa
open Go.Fl Go.RowKit

theorem iTotalOf_yes (v : Value) (xs : List Nat) (w : World) (hv : FS .f32 w v xs) (hn : xs.length ≤ 256) : Calls Try.prog 29 #[v] w fun e w' => (∃ r, e = .returned (.tuple #[.float .f32 r, .bool true]) ∧ Is .f32 r (sumTo .f32 xs xs.length)) ∧ ∃ n, w' = w.drewN n := by
  go_enter Try.func29, Try.ntmps29
  go_wp2_with (go_at_call 69; refine (iSumNumbers_yes _ _ _ hv hn).mono ?_; rintro e w' ⟨⟨r, rfl, hr⟩, n, rfl⟩)
  go_ret2
  exact ⟨⟨_, rfl, hr⟩, _, rfl⟩

theorem iTotalOf_no (v : Value) (xs : List Nat) (w : World) (hv : FS .f32 w v xs) (hn : 256 < xs.length) : Calls Try.prog 29 #[v] w fun e w' => e = .returned (.tuple #[.float .f32 0, .bool false]) ∧ w = w' := by
  go_enter Try.func29, Try.ntmps29
  go_wp2_with (go_at_call 69; refine (iSumNumbers_no _ _ _ hv hn).mono ?_; rintro e w' ⟨rfl, rfl⟩)
  go_ret2
  exact ⟨rfl, rfl⟩

theorem sTotal_any (v : Value) (xs : List Nat) (w : World) (hv : FS .f32 w v xs) (hn : xs.length ≤ 1048576) : Calls Try.prog 68 #[v] w fun e w' => (∃ r, e = .returned (.float .f32 r) ∧ Is .f32 r (sumTo .f32 xs xs.length)) ∧ ∃ n, w' = w.drewN n := by
  obtain ⟨a, cap, rfl, hlc, hcm, hwf, hmem⟩ := hv
  unfold maxLen at hcm
  go_enter Try.func68, Try.ntmps68
  go_wp2
  go_loopw [3, 4] (fun s i wr => ∃ k : Nat, k ≤ xs.length ∧ i = .int .i64 k ∧ (∃ r, s = .float .f32 r ∧ Is .f32 r (sumTo .f32 xs k)) ∧ ∃ n, wr = w.drewN n) (fun _ i _ => xs.length - (intOf i).toNat)
  case atStart => exact ⟨0, Nat.zero_le _, rfl, ⟨_, rfl, Is.const rfl⟩, 0, rfl⟩
  case round =>
    obtain ⟨k, hk, rfl, ⟨r, rfl, hr⟩, n, rfl⟩ := hrel
    by_cases hlt : k < xs.length
    · rcases hmem with rfl | ⟨b, off, rfl, hb, hc⟩
      · simp at hlt
      have hcell := hc k hlt
      have hx := FS.is hwf k hlt
      have hs := Lib.hid (sumTo_succ .f32 xs k hlt)
      clear hc
      generalize xs.getD k 0 = x at hcell hx hs
      go_wp2_with (apply wpList_farith; rfl; rfl; rfl; rfl; (first | with_reducible assumption | exact Is.const rfl); (first | with_reducible assumption | exact Is.const rfl); intro r n hr)
      go_roundw
      case rel => exact ⟨k + 1, by omega, by go_num, ⟨_, rfl, by rw [hs.out]; assumption⟩, _, rfl⟩
      case measure => simp [intOf]; omega
    · have : k = xs.length := by omega
      subst this
      clear hlt
      go_wp2
      go_ret
      exact ⟨⟨_, rfl, hr⟩, _, rfl⟩

theorem sTotalOf_yes (v : Value) (xs : List Nat) (w : World) (hv : FS .f32 w v xs) (hn : xs.length ≤ 256) : Calls Try.prog 28 #[v] w fun e w' => (∃ r, e = .returned (.tuple #[.float .f32 r, .bool true]) ∧ Is .f32 r (sumTo .f32 xs xs.length)) ∧ ∃ n, w' = w.drewN n := by
  have hv' := Lib.hid hv
  obtain ⟨a, cap, rfl, hlc, hcm, hwf, hmem⟩ := hv
  have hd : decide ((256 : Int) < (xs.length : Int)) = false := by simp; omega
  clear hmem
  go_enter Try.func28, Try.ntmps28
  go_wp2_with (go_at_call 68; refine (sTotal_any _ _ _ hv'.out (by omega)).mono ?_; rintro e w' ⟨⟨r, rfl, hr⟩, n, rfl⟩)
  go_ret2
  exact ⟨⟨_, rfl, hr⟩, _, rfl⟩

theorem sTotalOf_no (v : Value) (xs : List Nat) (w : World) (hv : FS .f32 w v xs) (hn : 256 < xs.length) (hm : xs.length ≤ 1048576) : Calls Try.prog 28 #[v] w fun e w' => e = .returned (.tuple #[.float .f32 0, .bool false]) ∧ w = w' := by
  obtain ⟨a, cap, rfl, hlc, hcm, hwf, hmem⟩ := hv
  unfold maxLen at hcm
  have hd : decide ((256 : Int) < (xs.length : Int)) = true := by simp; omega
  clear hmem
  go_enter Try.func28, Try.ntmps28
  go_wp2
  go_ret2
  exact ⟨rfl, rfl⟩
end Go.Proofs.Ytnimmmcpdicajaa
