/-
  Products of lists.
-/
import Derived.Test.YtajnaobfeipdaaaSum
namespace Go.Proofs.Ytajnaobfeipdaaa
open Go.Fl Go.RowKit


theorem mulNumber_any (x y X Y : Nat) (ix : Is .f32 x X) (iy : Is .f32 y Y) (w : World) : Calls Try.prog 102 #[.float .f32 x, .float .f32 y] w fun e w' => (∃ r, e = .returned (.float .f32 r) ∧ Is .f32 r (fop .mul .f32 X Y)) ∧ ∃ n, w' = w.drewN n := by
  go_enter Try.func102, Try.ntmps102
  go_wp2_with (first | (apply wpList_farith; rfl; rfl; rfl; rfl; (first | with_reducible assumption | exact Is.const rfl); (first | with_reducible assumption | exact Is.const rfl); intro r n hr) | (apply wpList_same; rfl; rfl; exact U32; exact U32))
  go_ret
  exact ⟨⟨_, rfl, hr⟩, _, rfl⟩

theorem iDotOf_yes (u v : Value) (xs ys : List Nat) (w : World) (hu : FS .f32 w u xs) (hv : FS .f32 w v ys) (hlen : xs.length = ys.length) (hn : xs.length ≤ 256) :
    Calls Try.prog 101 #[u, v, .func (.func 102) #[] #[]] w fun e w' => (∃ r, e = .returned (.tuple #[.float .f32 r, .bool true]) ∧ Is .f32 r (dotTo .f32 xs ys xs.length)) ∧ ∃ n, w' = w.drewN n := by
  obtain ⟨a, cap, rfl, hlc, hcm, hwf, hmem⟩ := hu
  obtain ⟨a', cap', rfl, hlc', hcm', hwf', hmem'⟩ := hv
  rw [← hlen]
  have HL := Lib.hid hlen
  rw [← hlen] at hlc'
  clear hlen
  unfold maxLen at hcm hcm'
  have hd : decide ((256 : Int) < (xs.length : Int)) = false := by simp; omega
  go_enter Try.func101, Try.ntmps101
  go_wp2
  go_loopw [8, 24] (fun s i wr => ∃ k : Nat, k ≤ xs.length ∧ i = .int .i64 k ∧ (∃ r, s = .float .f32 r ∧ Is .f32 r (dotTo .f32 xs ys k)) ∧ ∃ n, wr = w.drewN n) (fun _ i _ => xs.length - (intOf i).toNat)
  case atStart => exact ⟨0, Nat.zero_le _, rfl, ⟨_, rfl, Is.const rfl⟩, 0, rfl⟩
  case round =>
    obtain ⟨k, hk, rfl, ⟨r, rfl, hr⟩, n, rfl⟩ := hrel
    clear hd
    by_cases hlt : k < xs.length
    · rcases hmem with rfl | ⟨b, off, rfl, hb, hc⟩
      · simp at hlt
      rcases hmem' with rfl | ⟨b', off', rfl, hb', hc'⟩
      · have := HL.out; simp at this; subst this; simp at hlt
      have hcell := hc k hlt
      have hcell' := hc' k (by have := HL.out; omega)
      have hx := FS.is hwf k hlt
      have hy := FS.is hwf' k (by have := HL.out; omega)
      have hs : dotTo .f32 xs ys (k + 1) = fop .add .f32 (dotTo .f32 xs ys k) (fop .mul .f32 (cn .f32 (xs.getD k 0)) (cn .f32 (ys.getD k 0))) := rfl
      have HS := Lib.hid hs
      clear hc hc' hs
      generalize xs.getD k 0 = x at hcell hx HS
      generalize ys.getD k 0 = y at hcell' hy HS
      go_wp2_with (first | ((with_reducible apply Loose.wp_start); kernel_rfl; kernel_rfl) | ((with_reducible apply Loose.start_cons)) | ((with_reducible apply Loose.start_nil)) | ((with_reducible apply Loose.walk_nil); intro n) | ((with_reducible apply Loose.walk_skip); exact rfl; (go_simp; first | done | exact rfl)) | ((with_reducible apply Loose.step_fc); rfl; rfl; rfl; rfl; (first | with_reducible assumption | exact Is.const rfl); (first | with_reducible assumption | exact Is.const rfl); (first | with_reducible assumption | exact rfl); exact rfl; (go_simp; first | done | exact rfl)) | ((with_reducible apply Loose.step_fa); rfl; rfl; rfl; rfl; (first | with_reducible assumption | exact Is.const rfl); (first | with_reducible assumption | exact Is.const rfl); exact rfl; (intro r; go_simp; first | done | exact rfl); intro r hr) | ((with_reducible apply Loose.step_wid); rfl; rfl; (first | with_reducible assumption | exact Is.const rfl); exact U32; exact U64; exact rfl; (intro r; go_simp; first | done | exact rfl); intro r hr) | ((with_reducible apply Loose.step_nar); rfl; rfl; (first | with_reducible assumption | exact Is.const rfl); exact U64; exact U32; (with_reducible assumption); exact rfl; (intro r; go_simp; first | done | exact rfl); intro r hr) | ((with_reducible apply Loose.step_assign); rfl; rfl; (with_reducible assumption); exact rfl; (intro r; go_simp; first | done | exact rfl); intro r hr) | ((with_reducible apply Loose.step_move); rfl; rfl; (with_reducible assumption); exact rfl; (intro r; go_simp; first | done | exact rfl); intro r hr) | ((with_reducible apply Loose.step_same); rfl; rfl; exact U32; exact U32; (first | with_reducible assumption | exact Is.const rfl); exact rfl; (intro r; go_simp; first | done | exact rfl); intro r hr) | ((with_reducible apply Loose.step_same); rfl; rfl; exact U64; exact U64; (first | with_reducible assumption | exact Is.const rfl); exact rfl; (intro r; go_simp; first | done | exact rfl); intro r hr) | ((with_reducible apply Loose.step_eq); rfl; (intro n; go_simp; first | done | exact rfl); exact rfl; (go_simp; first | done | exact rfl)) | (go_at_call 102; refine (mulNumber_any _ _ _ _ (by assumption) (by assumption) _).mono ?_; rintro e w' ⟨⟨r, rfl, hr⟩, n, rfl⟩) | (apply wpList_farith; rfl; rfl; rfl; rfl; (first | with_reducible assumption | exact Is.const rfl); (first | with_reducible assumption | exact Is.const rfl); intro r n hr) | (apply wpList_same; rfl; rfl; exact U32; exact U32))
      go_roundw
      case rel => exact ⟨k + 1, by omega, by go_num, ⟨_, rfl, by rw [HS.out]; assumption⟩, _, rfl⟩
      case measure => simp [intOf]; omega
    · have : k = xs.length := by omega
      subst this
      clear hlt
      go_wp2
      go_ret2
      exact ⟨⟨_, rfl, hr⟩, _, rfl⟩

theorem iDotOf_no (u v : Value) (xs ys : List Nat) (w : World) (hu : FS .f32 w u xs) (hv : FS .f32 w v ys) (hbad : ¬ (xs.length = ys.length ∧ xs.length ≤ 256)) :
    Calls Try.prog 101 #[u, v, .func (.func 102) #[] #[]] w fun e w' => e = .returned (.tuple #[.float .f32 0, .bool false]) ∧ w = w' := by
  obtain ⟨a, cap, rfl, hlc, hcm, hwf, hmem⟩ := hu
  obtain ⟨a', cap', rfl, hlc', hcm', hwf', hmem'⟩ := hv
  clear hmem hmem'
  unfold maxLen at hcm hcm'
  by_cases h : 256 < xs.length
  · have hd : decide ((256 : Int) < (xs.length : Int)) = true := by simp; omega
    clear hbad
    go_enter Try.func101, Try.ntmps101
    go_wp2
    go_ret2
    exact ⟨rfl, rfl⟩
  · have hd : decide ((256 : Int) < (xs.length : Int)) = false := by simp; omega
    have he : ((xs.length : Int) == (ys.length : Int)) = false := by rw [Bool.eq_false_iff]; intro h2; have := beq_iff_eq.1 h2; omega
    have hne : ((xs.length : Int) != (ys.length : Int)) = true := by rw [bne, he]; rfl
    clear hbad
    go_enter Try.func101, Try.ntmps101
    go_wp2
    go_ret2
    exact ⟨rfl, rfl⟩

theorem iDotNumbers_yes (u v : Value) (xs ys : List Nat) (w : World) (hu : FS .f32 w u xs) (hv : FS .f32 w v ys) (hlen : xs.length = ys.length) (hn : xs.length ≤ 256) :
    Calls Try.prog 74 #[u, v] w fun e w' => (∃ r, e = .returned (.tuple #[.float .f32 r, .bool true]) ∧ Is .f32 r (dotTo .f32 xs ys xs.length)) ∧ ∃ n, w' = w.drewN n := by
  have HL := Lib.hid hlen
  clear hlen
  go_enter Try.func74, Try.ntmps74
  go_wp2_with (go_at_call 101; refine (iDotOf_yes _ _ _ _ _ hu hv HL.out hn).mono ?_; rintro e w' ⟨⟨r, rfl, hr⟩, n, rfl⟩)
  go_ret2
  exact ⟨⟨_, rfl, hr⟩, _, rfl⟩

theorem iDotNumbers_no (u v : Value) (xs ys : List Nat) (w : World) (hu : FS .f32 w u xs) (hv : FS .f32 w v ys) (hbad : ¬ (xs.length = ys.length ∧ xs.length ≤ 256)) :
    Calls Try.prog 74 #[u, v] w fun e w' => e = .returned (.tuple #[.float .f32 0, .bool false]) ∧ w = w' := by
  have HB := Lib.hid hbad
  clear hbad
  go_enter Try.func74, Try.ntmps74
  go_wp2_with (go_at_call 101; refine (iDotOf_no _ _ _ _ _ hu hv HB.out).mono ?_; rintro e w' ⟨rfl, rfl⟩)
  go_ret2
  exact ⟨rfl, rfl⟩


end Go.Proofs.Ytajnaobfeipdaaa
