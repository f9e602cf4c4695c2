/-
  Numbers that ascend: slices.IsSorted of integers, the program's ascend.
-/
import Derived.Test.YtdoohjmjbkkmkaaOwn
import Derived.Test.YtdoohjmjbkkmkaaNl
import Derived.Lib.SmallJoins
namespace Go.Proofs.Ytdoohjmjbkkmkaa
open Go.Fl Go.RowKit
set_option linter.unusedSimpArgs false
set_option linter.unusedVariables false

/-- No number is less than the one before it. -/
def ascB (xs : List Int) : Bool := (List.range (xs.length - 1)).all fun j => decide (xs.getD j 0 ≤ xs.getD (j + 1) 0)
theorem ascB_true {xs : List Int} (h : ∀ j, j + 1 < xs.length → xs.getD j 0 ≤ xs.getD (j + 1) 0) : ascB xs = true := by
  unfold ascB
  rw [List.all_eq_true]
  intro j hj
  have : j < xs.length - 1 := by simpa using hj
  exact decide_eq_true (h j (by omega))
theorem ascB_false {xs : List Int} {j : Nat} (hj : j + 1 < xs.length) (h : xs.getD (j + 1) 0 < xs.getD j 0) : ascB xs = false := by
  unfold ascB
  rw [Bool.eq_false_iff]
  intro hall
  rw [List.all_eq_true] at hall
  have := of_decide_eq_true (hall j (by simp; omega))
  omega

theorem isNaNi_any (x : Int) (w : World) : Calls Try.prog 138 #[.int .i64 x] w fun e w' => e = .returned (.bool false) ∧ w = w' := by
  go_enter Try.func138, Try.ntmps138
  go_wp2
  go_ret
  exact ⟨by simp, rfl⟩

theorem lessI_any (x y : Int) (w : World) : Calls Try.prog 130 #[.int .i64 x, .int .i64 y] w fun e w' => e = .returned (.bool (decide (x < y))) ∧ w = w' := by
  go_enter Try.func130, Try.ntmps130
  go_wp2_with (go_at_call 138; refine (isNaNi_any _ _).mono ?_; rintro e w' ⟨rfl, rfl⟩)
  go_ret
  exact ⟨by simp, rfl⟩

set_option maxHeartbeats 400000 in
theorem isSorted_any (v : Value) (xs : List Int) (w : World) (hv : Nl.NS .i64 w v xs) (h0 : 0 < xs.length) (h1 : xs.length ≤ 64) :
    Calls Try.prog 115 #[v] w fun e w' => e = .returned (.bool (ascB xs)) ∧ ∃ n, w' = w.drewN n := by
  obtain ⟨a, cap, rfl, hlc, hcm, hwf, hmem⟩ := hv
  rcases hmem with rfl | ⟨b, off, rfl, hb, hc⟩
  · simp at h0
  unfold maxLen at hcm
  have HC := Lib.hid hc
  clear hc hwf
  go_enter Try.func115, Try.ntmps115
  go_wp2
  go_loopw [3] (fun i wr => ∃ k : Nat, i = .int .i64 k ∧ k < xs.length ∧ Hid (∀ j, k ≤ j → j + 1 < xs.length → xs.getD j 0 ≤ xs.getD (j + 1) 0) ∧ ∃ n, wr = w.drewN n) (fun i _ => (intOf i).toNat)
  case atStart => exact ⟨xs.length - 1, by go_num, by omega, Lib.hid (fun j h h' => absurd h (by omega)), 0, rfl⟩
  case round =>
    obtain ⟨k, rfl, hk, HA, n, rfl⟩ := hrel
    cases k with
    | zero =>
      have HT := Lib.hid (ascB_true fun j hj => HA.out j (Nat.zero_le _) hj)
      go_wp2
      go_ret
      exact ⟨congrArg (fun b => Ending.returned (.bool b)) HT.out.symm, _, rfl⟩
    | succ k =>
      have c1 := HC.out (k + 1) hk
      have c2 := HC.out k (by omega)
      have hk2 : k < xs.length := by omega
      have i0 : (0 : Int) ≤ (k : Int) + 1 := by omega
      have i1 : (k : Int) + 1 < (xs.length : Int) := by omega
      have i2 : (k : Int) < (xs.length : Int) := by omega
      have i3 : (0 : Int) ≤ (k : Int) := by omega
      have i4 : IntKind.i64.wrap (k : Int) = (k : Int) := by rw [IntKind.wrap_i64]; omega
      by_cases hle : xs.getD (k + 1) 0 < xs.getD k 0
      · have HT := Lib.hid (ascB_false hk hle)
        have hd : decide (xs.getD (k + 1) 0 < xs.getD k 0) = true := decide_eq_true hle
        clear hle
        generalize xs.getD (k + 1) 0 = x at c1 hd
        generalize xs.getD k 0 = y at c2 hd
        go_wp2_with (first | ((with_reducible apply Loose.wp_start); kernel_rfl; kernel_rfl) | ((with_reducible apply Loose.start_cons)) | ((with_reducible apply Loose.start_nil)) | ((with_reducible apply Loose.walk_nil); intro n) | ((with_reducible apply Loose.walk_skip); exact rfl; (go_simp; first | done | exact rfl)) | ((with_reducible apply Loose.step_fc); rfl; rfl; rfl; rfl; (first | with_reducible assumption | exact Is.const rfl); (first | with_reducible assumption | exact Is.const rfl); (first | with_reducible assumption | exact rfl); exact rfl; (go_simp; first | done | exact rfl)) | ((with_reducible apply Loose.step_fa); rfl; rfl; rfl; rfl; (first | with_reducible assumption | exact Is.const rfl); (first | with_reducible assumption | exact Is.const rfl); exact rfl; (intro r; go_simp; first | done | exact rfl); intro r hr) | ((with_reducible apply Loose.step_wid); rfl; rfl; (first | with_reducible assumption | exact Is.const rfl); exact U32; exact U64; exact rfl; (intro r; go_simp; first | done | exact rfl); intro r hr) | ((with_reducible apply Loose.step_nar); rfl; rfl; (first | with_reducible assumption | exact Is.const rfl); exact U64; exact U32; (with_reducible assumption); exact rfl; (intro r; go_simp; first | done | exact rfl); intro r hr) | ((with_reducible apply Loose.step_assign); rfl; rfl; (with_reducible assumption); exact rfl; (intro r; go_simp; first | done | exact rfl); intro r hr) | ((with_reducible apply Loose.step_move); rfl; rfl; (with_reducible assumption); exact rfl; (intro r; go_simp; first | done | exact rfl); intro r hr) | ((with_reducible apply Loose.step_same); rfl; rfl; exact U32; exact U32; (first | with_reducible assumption | exact Is.const rfl); exact rfl; (intro r; go_simp; first | done | exact rfl); intro r hr) | ((with_reducible apply Loose.step_same); rfl; rfl; exact U64; exact U64; (first | with_reducible assumption | exact Is.const rfl); exact rfl; (intro r; go_simp; first | done | exact rfl); intro r hr) | ((with_reducible apply Loose.step_call); rfl; (intro n; go_simp; first | exact ⟨rfl, rfl⟩ | exact rfl); (intro n; go_at_call 130; exact Loose.same_world (lessI_any _ _ _)); exact rfl; (go_simp; first | done | exact rfl)) | ((with_reducible apply Loose.step_eq); rfl; (intro n; go_simp; first | done | exact rfl); exact rfl; (go_simp; first | done | exact rfl)))
        go_ret
        exact ⟨congrArg (fun b => Ending.returned (.bool b)) HT.out.symm, _, World.drewN_drewN ..⟩
      · have HA2 := Lib.hid (show ∀ j, k ≤ j → j + 1 < xs.length → xs.getD j 0 ≤ xs.getD (j + 1) 0 from fun j hj hj2 => by
          rcases Nat.eq_or_lt_of_le hj with rfl | h
          · omega
          · exact HA.out j h hj2)
        have hd : decide (xs.getD (k + 1) 0 < xs.getD k 0) = false := decide_eq_false hle
        clear hle
        generalize xs.getD (k + 1) 0 = x at c1 hd
        generalize xs.getD k 0 = y at c2 hd
        go_wp2_with (first | ((with_reducible apply Loose.wp_start); kernel_rfl; kernel_rfl) | ((with_reducible apply Loose.start_cons)) | ((with_reducible apply Loose.start_nil)) | ((with_reducible apply Loose.walk_nil); intro n) | ((with_reducible apply Loose.walk_skip); exact rfl; (go_simp; first | done | exact rfl)) | ((with_reducible apply Loose.step_fc); rfl; rfl; rfl; rfl; (first | with_reducible assumption | exact Is.const rfl); (first | with_reducible assumption | exact Is.const rfl); (first | with_reducible assumption | exact rfl); exact rfl; (go_simp; first | done | exact rfl)) | ((with_reducible apply Loose.step_fa); rfl; rfl; rfl; rfl; (first | with_reducible assumption | exact Is.const rfl); (first | with_reducible assumption | exact Is.const rfl); exact rfl; (intro r; go_simp; first | done | exact rfl); intro r hr) | ((with_reducible apply Loose.step_wid); rfl; rfl; (first | with_reducible assumption | exact Is.const rfl); exact U32; exact U64; exact rfl; (intro r; go_simp; first | done | exact rfl); intro r hr) | ((with_reducible apply Loose.step_nar); rfl; rfl; (first | with_reducible assumption | exact Is.const rfl); exact U64; exact U32; (with_reducible assumption); exact rfl; (intro r; go_simp; first | done | exact rfl); intro r hr) | ((with_reducible apply Loose.step_assign); rfl; rfl; (with_reducible assumption); exact rfl; (intro r; go_simp; first | done | exact rfl); intro r hr) | ((with_reducible apply Loose.step_move); rfl; rfl; (with_reducible assumption); exact rfl; (intro r; go_simp; first | done | exact rfl); intro r hr) | ((with_reducible apply Loose.step_same); rfl; rfl; exact U32; exact U32; (first | with_reducible assumption | exact Is.const rfl); exact rfl; (intro r; go_simp; first | done | exact rfl); intro r hr) | ((with_reducible apply Loose.step_same); rfl; rfl; exact U64; exact U64; (first | with_reducible assumption | exact Is.const rfl); exact rfl; (intro r; go_simp; first | done | exact rfl); intro r hr) | ((with_reducible apply Loose.step_call); rfl; (intro n; go_simp; first | exact ⟨rfl, rfl⟩ | exact rfl); (intro n; go_at_call 130; exact Loose.same_world (lessI_any _ _ _)); exact rfl; (go_simp; first | done | exact rfl)) | ((with_reducible apply Loose.step_eq); rfl; (intro n; go_simp; first | done | exact rfl); exact rfl; (go_simp; first | done | exact rfl)))
        go_roundw
        case rel => exact ⟨k, by go_num, hk2, HA2, _, rfl⟩
        case measure => simp [intOf]

theorem ascend_any (v : Value) (xs : List Int) (w : World) (hv : Nl.NS .i64 w v xs) (h0 : 0 < xs.length) (h1 : xs.length ≤ 64) :
    Calls Try.prog 83 #[v] w fun e w' => e = .returned (.bool (ascB xs)) ∧ ∃ n, w' = w.drewN n := by
  go_enter Try.func83, Try.ntmps83
  go_wp2_with (go_at_call 115; refine (isSorted_any _ xs _ hv h0 h1).mono ?_; rintro e w' ⟨rfl, n, rfl⟩)
  go_ret
  exact ⟨rfl, _, rfl⟩

theorem ascB3 (x y z : Int) : ascB [x, y, z] = decide (x ≤ y ∧ y ≤ z) := by
  simp [ascB, List.range, List.range.loop]
theorem ascB4 (x y z u : Int) : ascB [x, y, z, u] = decide (x ≤ y ∧ y ≤ z ∧ z ≤ u) := by
  simp [ascB, List.range, List.range.loop]

/-- A list of three, four integers just laid. -/
theorem ns_of {w : World} {g : Nat} {xs : List Int} {t : TypeId} (h : w.heap[g]? = some (.cells (xs.map (Value.int .i64)).toArray t)) (hw : ∀ x ∈ xs, (Lit.int .i64 x).wf = true) (hl : xs.length ≤ 64) : Nl.NS .i64 w (.slice (some ⟨g, 0, none⟩) xs.length xs.length) xs := by
  refine ⟨_, _, rfl, Nat.le_refl _, by unfold maxLen; omega, hw, .inr ⟨g, 0, rfl, (Array.getElem?_eq_some_iff.1 h).1, fun i hi => ?_⟩⟩
  rw [Nat.zero_add, Go.Joins.cell_of_block h]
  simp [List.getD, hi]
end Go.Proofs.Ytdoohjmjbkkmkaa
