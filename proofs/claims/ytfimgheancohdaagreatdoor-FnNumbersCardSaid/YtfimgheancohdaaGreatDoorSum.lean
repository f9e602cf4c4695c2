/-
  Sums and products of lists, and the laws' own copies and comparisons of lists.
-/
import Derived.Test.YtfimgheancohdaaGreatDoorLists
import Derived.Test.YtfimgheancohdaaGreatDoorMath
import Derived.Test.YtfimgheancohdaaGreatDoorLoose
namespace Go.Proofs.YtfimgheancohdaaGreatDoor
open Go.Fl Go.RowKit


theorem F32info : (Tryz.prog.info? 24).map (fun i => (i.zero, i.size, i.bytes)) = some (some (.float .f32 0), 1, 4) := by kernel_rfl



theorem iSumOf_yes (v : Value) (xs : List Nat) (w : World) (hv : FS .f32 w v xs) (hn : xs.length ≤ 256) : Calls Tryz.prog 47 #[v] w fun e w' => (∃ r, e = .returned (.tuple #[.float .f32 r, .bool true]) ∧ Is .f32 r (sumTo .f32 xs xs.length)) ∧ ∃ n, w' = w.drewN n := by
  obtain ⟨a, cap, rfl, hlc, hcm, hwf, hmem⟩ := hv
  unfold maxLen at hcm
  have hd : decide ((256 : Int) < (xs.length : Int)) = false := by simp; omega
  go_enter Tryz.func47, Tryz.ntmps47
  go_wp2
  go_loopw [4, 13] (fun s i wr => ∃ k : Nat, k ≤ xs.length ∧ i = .int .i64 k ∧ (∃ r, s = .float .f32 r ∧ Is .f32 r (sumTo .f32 xs k)) ∧ ∃ n, wr = w.drewN n) (fun _ i _ => xs.length - (intOf i).toNat)
  case atStart => exact ⟨0, Nat.zero_le _, rfl, ⟨_, rfl, Is.const rfl⟩, 0, rfl⟩
  case round =>
    obtain ⟨k, hk, rfl, ⟨r, rfl, hr⟩, n, rfl⟩ := hrel
    by_cases hlt : k < xs.length
    · rcases hmem with rfl | ⟨b, off, rfl, hb, hc⟩
      · simp at hlt
      have hcell := hc k hlt
      have hx := FS.is hwf k hlt
      have hs := Lib.hid (sumTo_succ .f32 xs k hlt)
      clear hc hd
      generalize xs.getD k 0 = x at hcell hx hs
      go_wp2_with (apply wpList_farith; rfl; rfl; rfl; rfl; (first | with_reducible assumption | exact Is.const rfl); (first | with_reducible assumption | exact Is.const rfl); intro r n hr)
      go_roundw
      case rel => exact ⟨k + 1, by omega, by go_num, ⟨_, rfl, by rw [hs.out]; assumption⟩, _, rfl⟩
      case measure => simp [intOf]; omega
    · have : k = xs.length := by omega
      subst this
      clear hlt hd
      go_wp2
      go_ret2
      exact ⟨⟨_, rfl, hr⟩, _, rfl⟩

theorem iSumOf_no (v : Value) (xs : List Nat) (w : World) (hv : FS .f32 w v xs) (hn : 256 < xs.length) : Calls Tryz.prog 47 #[v] w fun e w' => e = .returned (.tuple #[.float .f32 0, .bool false]) ∧ w = w' := by
  obtain ⟨a, cap, rfl, hlc, hcm, hwf, hmem⟩ := hv
  unfold maxLen at hcm
  have hd : decide ((256 : Int) < (xs.length : Int)) = true := by simp; omega
  go_enter Tryz.func47, Tryz.ntmps47
  go_wp2
  go_ret2
  exact ⟨rfl, rfl⟩

theorem iSumNumbers_yes (v : Value) (xs : List Nat) (w : World) (hv : FS .f32 w v xs) (hn : xs.length ≤ 256) : Calls Tryz.prog 12 #[v] w fun e w' => (∃ r, e = .returned (.tuple #[.float .f32 r, .bool true]) ∧ Is .f32 r (sumTo .f32 xs xs.length)) ∧ ∃ n, w' = w.drewN n := by
  go_enter Tryz.func12, Tryz.ntmps12
  go_wp2_with (go_at_call 47; refine (iSumOf_yes _ _ _ hv hn).mono ?_; rintro e w' ⟨⟨r, rfl, hr⟩, n, rfl⟩)
  go_ret2
  exact ⟨⟨_, rfl, hr⟩, _, rfl⟩

theorem iSumNumbers_no (v : Value) (xs : List Nat) (w : World) (hv : FS .f32 w v xs) (hn : 256 < xs.length) : Calls Tryz.prog 12 #[v] w fun e w' => e = .returned (.tuple #[.float .f32 0, .bool false]) ∧ w = w' := by
  go_enter Tryz.func12, Tryz.ntmps12
  go_wp2_with (go_at_call 47; refine (iSumOf_no _ _ _ hv hn).mono ?_; rintro e w' ⟨rfl, rfl⟩)
  go_ret2
  exact ⟨rfl, rfl⟩



end Go.Proofs.YtfimgheancohdaaGreatDoor
