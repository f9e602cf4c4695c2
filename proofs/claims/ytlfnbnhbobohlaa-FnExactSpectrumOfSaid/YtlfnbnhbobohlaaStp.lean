/-
  The first index whose number is at least twice the first one, of the program and of the model.
-/
import Derived.Test.YtlfnbnhbobohlaaFields
namespace Go.Proofs.Ytlfnbnhbobohlaa
open Go.Fl Go.RowKit
set_option linter.unusedSimpArgs false
set_option linter.unusedVariables false

def firstD (p : Nat → Bool) : Nat → Nat → Option Nat
  | 0, _ => none
  | n + 1, k => if p k = true then some k else firstD p n (k + 1)
theorem firstD_skip (p : Nat → Bool) (n : Nat) : ∀ k, k ≤ n → (∀ j, j < k → p j = false) → firstD p n 0 = firstD p (n - k) k
  | 0, _, _ => rfl
  | k + 1, hk, h => by
    rw [firstD_skip p n k (by omega) (fun j hj => h j (by omega)), show n - k = (n - (k + 1)) + 1 by omega, firstD, h k (by omega)]
    simp
theorem firstD_at (p : Nat → Bool) {n k : Nat} (hk : k < n) (h : ∀ j, j < k → p j = false) (hp : p k = true) : firstD p n 0 = some k := by
  rw [firstD_skip p n k (by omega) h, show n - k = (n - (k + 1)) + 1 by omega, firstD, if_pos hp]
theorem firstD_no (p : Nat → Bool) {n : Nat} (h : ∀ j, j < n → p j = false) : firstD p n 0 = none := by
  rw [firstD_skip p n n (Nat.le_refl _) h, Nat.sub_self]; rfl

def dblAt (xs : List Nat) (k : Nat) : Bool := fcmp .geq .f32 (cn .f32 (xs.getD k 0)) (fop .mul .f32 1073741824 (cn .f32 (xs.getD 0 0)))
def stepD (xs : List Nat) : Option Nat := firstD (dblAt xs) xs.length 0
def okStepsToDouble (xs : List Nat) : Bool := decide (xs.length ≤ 256) && (stepD xs).isSome
def valStepsToDouble (xs : List Nat) : Int := if okStepsToDouble xs then (((stepD xs).getD 0 : Nat) : Int) else 0
/-- What both return. -/
def StpR (xs : List Nat) (e : Ending) : Prop := e = .returned (.tuple #[.int .i64 (valStepsToDouble xs), .bool (okStepsToDouble xs)])
theorem stp_at {xs : List Nat} {k : Nat} (h1 : xs.length ≤ 256) (hk : k < xs.length) (h : ∀ j, j < k → dblAt xs j = false) (hp : dblAt xs k = true) : StpR xs (.returned (.tuple #[.int .i64 (k : Int), .bool true])) := by
  have e : stepD xs = some k := firstD_at _ hk h hp
  have e2 : okStepsToDouble xs = true := by unfold okStepsToDouble; rw [e]; simpa using h1
  unfold StpR valStepsToDouble
  rw [e2, e]; rfl
theorem stp_no {xs : List Nat} (h : 256 < xs.length ∨ ∀ j, j < xs.length → dblAt xs j = false) : StpR xs (.returned (.tuple #[.int .i64 0, .bool false])) := by
  have e2 : okStepsToDouble xs = false := by
    unfold okStepsToDouble
    rcases h with h | h
    · rw [decide_eq_false (by omega), Bool.false_and]
    · rw [show stepD xs = none from firstD_no _ h]; simp
  unfold StpR valStepsToDouble
  rw [e2]; rfl

set_option maxHeartbeats 1000000 in
set_option maxRecDepth 100000 in
theorem iStp_any (v : Value) (xs : List Nat) (w : World) (hv : FS .f32 w v xs) (hn : xs.length ≤ 1048576) :
    Calls Try.prog 45 #[v] w fun e w' => StpR xs e ∧ ∃ n, w' = w.drewN n := by
  obtain ⟨a1, c1, rfl, hlc, hcm, hwf, hmem⟩ := hv
  unfold maxLen at hcm
  by_cases hbig : 256 < xs.length
  · have hd : decide ((256 : Int) < (xs.length : Int)) = true := by simp; omega
    have HR := Lib.hid (stp_no (xs := xs) (.inl hbig))
    clear hmem hlc hcm hbig
    go_enter Try.func45, Try.ntmps45
    go_wp2_with fail
    go_ret2
    exact ⟨HR.out, 0, rfl⟩
  have hd : decide ((256 : Int) < (xs.length : Int)) = false := by simp; omega
  have HN := Lib.hid (show xs.length ≤ 256 by omega)
  clear hbig
  go_enter Try.func45, Try.ntmps45
  go_wp2_with fail
  clear hd
  go_loopw [11] (fun i wr => ∃ k : Nat, i = .int .i64 (k : Int) ∧ k ≤ xs.length ∧ Hid (∀ j, j < k → dblAt xs j = false) ∧ ∃ n, wr = w.drewN n) (fun i _ => xs.length - (intOf i).toNat)
  case atStart => exact ⟨0, rfl, Nat.zero_le _, Lib.hid (fun j h => absurd h (Nat.not_lt_zero j)), 0, rfl⟩
  case round =>
    obtain ⟨k, rfl, hk, HA, n, rfl⟩ := hrel
    by_cases hlt : k < xs.length
    · rcases hmem with rfl | ⟨b, off, rfl, hb, hc⟩
      · simp at hlt
      have hcx := hc k hlt
      have hcy := hc 0 (by omega)
      rw [Nat.add_zero] at hcy
      have ix := FS.is hwf k hlt
      have iy := FS.is hwf 0 (by omega)
      have i0 : (0 : Int) < (xs.length : Int) := by omega
      have HD := Lib.hid (show dblAt xs k = fcmp .geq .f32 (cn .f32 (xs.getD k 0)) (fop .mul .f32 1073741824 (cn .f32 (xs.getD 0 0))) from rfl)
      clear hc
      generalize cn .f32 (xs.getD k 0) = X at ix HD
      generalize cn .f32 (xs.getD 0 0) = Y at iy HD
      generalize xs.getD k 0 = x at hcx ix
      generalize xs.getD 0 0 = y at hcy iy
      cases hg : fcmp .geq .f32 X (fop .mul .f32 1073741824 Y) with
      | true =>
        have HR := Lib.hid (stp_at HN.out hlt HA.out (HD.out.trans hg))
        go_wp2_with (first | (apply wpList_fcmp; rfl; rfl; rfl; rfl; (first | with_reducible assumption | exact Is.const rfl); (first | with_reducible assumption | exact Is.const rfl); (first | with_reducible assumption | exact rfl)) | (apply wpList_farith; rfl; rfl; rfl; rfl; (first | with_reducible assumption | exact Is.const rfl); (first | with_reducible assumption | exact Is.const rfl); intro r n hr))
        go_ret2
        exact ⟨HR.out, _, rfl⟩
      | false =>
        have HA2 := Lib.hid (show ∀ j, j < k + 1 → dblAt xs j = false from fun j hj => by
          rcases Nat.lt_or_ge j k with h | h
          · exact HA.out j h
          · rw [show j = k by omega]; exact HD.out.trans hg)
        go_wp2_with (first | (apply wpList_fcmp; rfl; rfl; rfl; rfl; (first | with_reducible assumption | exact Is.const rfl); (first | with_reducible assumption | exact Is.const rfl); (first | with_reducible assumption | exact rfl)) | (apply wpList_farith; rfl; rfl; rfl; rfl; (first | with_reducible assumption | exact Is.const rfl); (first | with_reducible assumption | exact Is.const rfl); intro r n hr))
        go_roundw
        case rel => exact ⟨k + 1, by go_num, by omega, HA2, _, rfl⟩
        case measure => simp [intOf]; omega
    · have : k = xs.length := by omega
      subst this
      have HR := Lib.hid (stp_no (xs := xs) (.inr HA.out))
      clear hlt
      go_wp2_with fail
      go_ret2
      exact ⟨HR.out, _, rfl⟩

set_option maxHeartbeats 1000000 in
set_option maxRecDepth 100000 in
theorem sStp_any (v : Value) (xs : List Nat) (w : World) (hv : FS .f32 w v xs) (hn : xs.length ≤ 1048576) :
    Calls Try.prog 44 #[v] w fun e w' => StpR xs e ∧ ∃ n, w' = w.drewN n := by
  obtain ⟨a1, c1, rfl, hlc, hcm, hwf, hmem⟩ := hv
  unfold maxLen at hcm
  go_enter Try.func44, Try.ntmps44
  go_wp2_with fail
  go_loopw [4] (fun i wr => ∃ k : Nat, i = .int .i64 (k : Int) ∧ k ≤ xs.length ∧ Hid (∀ j, j < k → dblAt xs j = false) ∧ Hid (xs.length ≤ 256 ∨ k = 0) ∧ ∃ n, wr = w.drewN n) (fun i _ => xs.length - (intOf i).toNat)
  case atStart => exact ⟨0, rfl, Nat.zero_le _, Lib.hid (fun j h => absurd h (Nat.not_lt_zero j)), Lib.hid (.inr rfl), 0, rfl⟩
  case round =>
    obtain ⟨k, rfl, hk, HA, HZ, n, rfl⟩ := hrel
    by_cases hlt : k < xs.length
    · by_cases hbig : 256 < xs.length
      · have hd : decide ((xs.length : Int) ≤ 256) = false := by simp; omega
        have HR := Lib.hid (stp_no (xs := xs) (.inl hbig))
        clear hmem hbig
        go_wp2_with fail
        go_ret2
        exact ⟨HR.out, _, rfl⟩
      have hd : decide ((xs.length : Int) ≤ 256) = true := by simp; omega
      have HN := Lib.hid (show xs.length ≤ 256 by omega)
      rcases hmem with rfl | ⟨b, off, rfl, hb, hc⟩
      · simp at hlt
      have hcx := hc k hlt
      have hcy := hc 0 (by omega)
      rw [Nat.add_zero] at hcy
      have ix := FS.is hwf k hlt
      have iy := FS.is hwf 0 (by omega)
      have i0 : (0 : Int) < (xs.length : Int) := by omega
      have HD := Lib.hid (show dblAt xs k = fcmp .geq .f32 (cn .f32 (xs.getD k 0)) (fop .mul .f32 1073741824 (cn .f32 (xs.getD 0 0))) from rfl)
      clear hc hbig
      generalize cn .f32 (xs.getD k 0) = X at ix HD
      generalize cn .f32 (xs.getD 0 0) = Y at iy HD
      generalize xs.getD k 0 = x at hcx ix
      generalize xs.getD 0 0 = y at hcy iy
      have i1 : (k : Int) < (xs.length : Int) := by omega
      have i2 : 0 < xs.length := by omega
      cases hg : fcmp .geq .f32 X (fop .mul .f32 1073741824 Y) with
      | true =>
        have HR := Lib.hid (stp_at HN.out hlt HA.out (HD.out.trans hg))
        go_wp2_with (first | ((with_reducible apply Loose.wp_start); kernel_rfl; kernel_rfl) | ((with_reducible apply Loose.start_cons)) | ((with_reducible apply Loose.start_nil)) | ((with_reducible apply Loose.walk_nil); intro n) | ((with_reducible apply Loose.walk_skip); exact rfl; (go_simp; first | done | exact rfl)) | ((with_reducible apply Loose.step_fc); rfl; rfl; rfl; rfl; (first | with_reducible assumption | exact Is.const rfl); (first | with_reducible assumption | exact Is.const rfl); (first | with_reducible assumption | exact rfl); exact rfl; (go_simp; first | done | exact rfl)) | ((with_reducible apply Loose.step_fa); rfl; rfl; rfl; rfl; (first | with_reducible assumption | exact Is.const rfl); (first | with_reducible assumption | exact Is.const rfl); exact rfl; (intro r; go_simp; first | done | exact rfl); intro r hr) | ((with_reducible apply Loose.step_wid); rfl; rfl; (first | with_reducible assumption | exact Is.const rfl); exact U32; exact U64; exact rfl; (intro r; go_simp; first | done | exact rfl); intro r hr) | ((with_reducible apply Loose.step_nar); rfl; rfl; (first | with_reducible assumption | exact Is.const rfl); exact U64; exact U32; (with_reducible assumption); exact rfl; (intro r; go_simp; first | done | exact rfl); intro r hr) | ((with_reducible apply Loose.step_assign); rfl; rfl; (with_reducible assumption); exact rfl; (intro r; go_simp; first | done | exact rfl); intro r hr) | ((with_reducible apply Loose.step_move); rfl; rfl; (with_reducible assumption); exact rfl; (intro r; go_simp; first | done | exact rfl); intro r hr) | ((with_reducible apply Loose.step_same); rfl; rfl; exact U32; exact U32; (first | with_reducible assumption | exact Is.const rfl); exact rfl; (intro r; go_simp; first | done | exact rfl); intro r hr) | ((with_reducible apply Loose.step_same); rfl; rfl; exact U64; exact U64; (first | with_reducible assumption | exact Is.const rfl); exact rfl; (intro r; go_simp; first | done | exact rfl); intro r hr) | ((with_reducible apply Loose.step_eq); rfl; (intro n; go_simp; first | done | exact rfl); exact rfl; (go_simp; first | done | exact rfl)))
        go_ret2
        exact ⟨HR.out, _, by first | rfl | exact World.drewN_drewN ..⟩
      | false =>
        have HA2 := Lib.hid (show ∀ j, j < k + 1 → dblAt xs j = false from fun j hj => by
          rcases Nat.lt_or_ge j k with h | h
          · exact HA.out j h
          · rw [show j = k by omega]; exact HD.out.trans hg)
        go_wp2_with (first | ((with_reducible apply Loose.wp_start); kernel_rfl; kernel_rfl) | ((with_reducible apply Loose.start_cons)) | ((with_reducible apply Loose.start_nil)) | ((with_reducible apply Loose.walk_nil); intro n) | ((with_reducible apply Loose.walk_skip); exact rfl; (go_simp; first | done | exact rfl)) | ((with_reducible apply Loose.step_fc); rfl; rfl; rfl; rfl; (first | with_reducible assumption | exact Is.const rfl); (first | with_reducible assumption | exact Is.const rfl); (first | with_reducible assumption | exact rfl); exact rfl; (go_simp; first | done | exact rfl)) | ((with_reducible apply Loose.step_fa); rfl; rfl; rfl; rfl; (first | with_reducible assumption | exact Is.const rfl); (first | with_reducible assumption | exact Is.const rfl); exact rfl; (intro r; go_simp; first | done | exact rfl); intro r hr) | ((with_reducible apply Loose.step_wid); rfl; rfl; (first | with_reducible assumption | exact Is.const rfl); exact U32; exact U64; exact rfl; (intro r; go_simp; first | done | exact rfl); intro r hr) | ((with_reducible apply Loose.step_nar); rfl; rfl; (first | with_reducible assumption | exact Is.const rfl); exact U64; exact U32; (with_reducible assumption); exact rfl; (intro r; go_simp; first | done | exact rfl); intro r hr) | ((with_reducible apply Loose.step_assign); rfl; rfl; (with_reducible assumption); exact rfl; (intro r; go_simp; first | done | exact rfl); intro r hr) | ((with_reducible apply Loose.step_move); rfl; rfl; (with_reducible assumption); exact rfl; (intro r; go_simp; first | done | exact rfl); intro r hr) | ((with_reducible apply Loose.step_same); rfl; rfl; exact U32; exact U32; (first | with_reducible assumption | exact Is.const rfl); exact rfl; (intro r; go_simp; first | done | exact rfl); intro r hr) | ((with_reducible apply Loose.step_same); rfl; rfl; exact U64; exact U64; (first | with_reducible assumption | exact Is.const rfl); exact rfl; (intro r; go_simp; first | done | exact rfl); intro r hr) | ((with_reducible apply Loose.step_eq); rfl; (intro n; go_simp; first | done | exact rfl); exact rfl; (go_simp; first | done | exact rfl)))
        go_roundw
        case rel => exact ⟨k + 1, by go_num, by omega, HA2, Lib.hid (.inl HN.out), _, rfl⟩
        case measure => simp [intOf]; omega
    · have : k = xs.length := by omega
      subst this
      have HR := Lib.hid (stp_no (xs := xs) (.inr HA.out))
      clear hlt
      go_wp2_with fail
      go_ret2
      exact ⟨HR.out, _, rfl⟩

theorem iStepsToDouble_any (v : Value) (xs : List Nat) (w : World) (hv : FS .f32 w v xs) (hn : xs.length ≤ 1048576) :
    Calls Try.prog 45 #[v] w fun e w' => e = .returned (.tuple #[.int .i64 (valStepsToDouble xs), .bool (okStepsToDouble xs)]) ∧ Below w.heap.size w w' :=
  (iStp_any v xs w hv hn).mono fun e w' ⟨h, n, hw⟩ => ⟨h, by subst hw; exact below_drewN (Below.refl _ _) _⟩
theorem sStepsToDouble_any (v : Value) (xs : List Nat) (w : World) (hv : FS .f32 w v xs) (hn : xs.length ≤ 1048576) :
    Calls Try.prog 44 #[v] w fun e w' => e = .returned (.tuple #[.int .i64 (valStepsToDouble xs), .bool (okStepsToDouble xs)]) ∧ Below w.heap.size w w' :=
  (sStp_any v xs w hv hn).mono fun e w' ⟨h, n, hw⟩ => ⟨h, by subst hw; exact below_drewN (Below.refl _ _) _⟩
end Go.Proofs.Ytlfnbnhbobohlaa
