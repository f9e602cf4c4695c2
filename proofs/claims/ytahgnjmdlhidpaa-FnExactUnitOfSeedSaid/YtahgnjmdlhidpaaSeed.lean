/-
  Seeds: the next one, and the number of one.
-/
import Derived.Test.YtahgnjmdlhidpaaMath
import Derived.Test.YtahgnjmdlhidpaaLoose
import Derived.Lib.Hide
import Derived.KernelRfl
namespace Go.Proofs.Ytahgnjmdlhidpaa
open Go.Fl Go.RowKit
set_option linter.unusedSimpArgs false
set_option linter.unusedVariables false

/-- The next seed. -/
def nextF (n : Int) : Int := (1103515245 * n + 12345) % 2147483648
theorem nextF_in (n : Int) : 0 ≤ nextF n ∧ nextF n ≤ 2147483647 := by unfold nextF; omega
theorem next_facts {n : Int} (h0 : 0 ≤ n) (h1 : n ≤ 2147483647) : wrap64 (1103515245 * n) = 1103515245 * n ∧ wrap64 (1103515245 * n + 12345) = 1103515245 * n + 12345 ∧ (1103515245 * n + 12345).tmod 2147483648 = nextF n ∧ wrap64 (nextF n) = nextF n := by
  refine ⟨by unfold wrap64; omega, by unfold wrap64; omega, ?_, by unfold wrap64 nextF; omega⟩
  rw [Int.tmod_eq_emod_of_nonneg (by omega)]; rfl
/-- The number of a seed: its place among 32768, as a word. -/
def unitF (n : Int) : Nat := fop .quo .f32 (floatOfInt .f32 (n / 65536)) 1191182336
theorem unit_facts {n : Int} (h0 : 0 ≤ n) (h1 : n ≤ 2147483647) : n.tdiv 65536 = n / 65536 ∧ wrap64 (n / 65536) = n / 65536 := by
  refine ⟨Int.tdiv_eq_ediv_of_nonneg h0, by unfold wrap64; omega⟩
theorem seedNum_is (n : Int) : Is .f32 (floatOfInt .f32 n) (floatOfInt .f32 n) :=
  ⟨cn_of _ (show nan .f32 (FloatKind.f32.format.write (.number (n < 0) n.natAbs 0)) = false from nan_write _ (by intro s t e; cases e)), nearest_lt ..⟩

theorem next_word {n : Int} (h0 : 0 ≤ n) (h1 : n ≤ 2147483647) : (wrap64 (wrap64 (1103515245 * n) + 12345)).tmod 2147483648 = nextF n := by
  obtain ⟨e1, e2, e3, _⟩ := next_facts h0 h1
  rw [e1, e2, e3]
theorem unit_word {n : Int} (h0 : 0 ≤ n) (h1 : n ≤ 2147483647) : ∀ r, Is .f32 r (fop .quo .f32 (floatOfInt .f32 (wrap64 (n.tdiv 65536))) 1191182336) → Is .f32 r (unitF n) := by
  obtain ⟨e1, e2⟩ := unit_facts h0 h1
  rw [e1, e2]; exact fun _ h => h
theorem iSeed_any (n : Int) (w : World) : Calls Try.prog 92 #[.int .i64 n] w fun e w' => e = .returned (.bool (decide (0 ≤ n ∧ n ≤ 2147483647))) ∧ w = w' := by
  by_cases h : 0 ≤ n
  · go_enter Try.func92, Try.ntmps92
    go_wp2
    go_ret
    exact ⟨by simp [h]; omega, rfl⟩
  · go_enter Try.func92, Try.ntmps92
    go_wp2
    go_ret
    exact ⟨by simp; omega, rfl⟩
theorem sSeed_any (n : Int) (w : World) : Calls Try.prog 90 #[.int .i64 n] w fun e w' => e = .returned (.bool (decide (0 ≤ n ∧ n ≤ 2147483647))) ∧ w = w' := by
  by_cases h : 0 ≤ n
  · go_enter Try.func90, Try.ntmps90
    go_wp2
    go_ret
    exact ⟨by simp [h], rfl⟩
  · go_enter Try.func90, Try.ntmps90
    go_wp2
    go_ret
    exact ⟨by simp; omega, rfl⟩
theorem sNext_word (n : Int) (h0 : 0 ≤ n) (h1 : n ≤ 2147483647) (w : World) : Calls Try.prog 91 #[.int .i64 n] w fun e w' => e = .returned (.int .i64 (nextF n)) ∧ w = w' := by
  go_enter Try.func91, Try.ntmps91
  go_wp2
  go_ret
  exact ⟨rfl, rfl⟩
theorem sUnit_word (n : Int) (h0 : 0 ≤ n) (h1 : n ≤ 2147483647) (w : World) : Calls Try.prog 93 #[.int .i64 n] w fun e w' => (∃ r, e = .returned (.float .f32 r) ∧ Is .f32 r (unitF n)) ∧ ∃ k, w' = w.drewN k := by
  have i1 := seedNum_is (n / 65536)
  go_enter Try.func93, Try.ntmps93
  go_wp2_with (apply wpList_farith; rfl; rfl; rfl; rfl; (first | with_reducible assumption | exact Is.const rfl); (first | with_reducible assumption | exact Is.const rfl); intro r n hr)
  go_ret
  exact ⟨⟨_, rfl, by assumption⟩, _, rfl⟩
theorem iNext_yes (n : Int) (h0 : 0 ≤ n) (h1 : n ≤ 2147483647) (w : World) : Calls Try.prog 41 #[.int .i64 n] w fun e w' => e = .returned (.tuple #[.int .i64 (nextF n), .bool true]) ∧ w = w' := by
  have ht : decide (0 ≤ n ∧ n ≤ 2147483647) = true := decide_eq_true ⟨h0, h1⟩
  go_enter Try.func41, Try.ntmps41
  go_wp2_with (first | (go_at_call 92; refine (iSeed_any _ _).mono ?_; rw [ht]; rintro e w' ⟨rfl, rfl⟩) | fail)
  go_ret2
  exact ⟨rfl, rfl⟩
theorem iNext_no (n : Int) (h : n < 0 ∨ 2147483647 < n) (w : World) : Calls Try.prog 41 #[.int .i64 n] w fun e w' => e = .returned (.tuple #[.int .i64 0, .bool false]) ∧ w = w' := by
  have ht : decide (0 ≤ n ∧ n ≤ 2147483647) = false := decide_eq_false (by omega)
  go_enter Try.func41, Try.ntmps41
  go_wp2_with (first | (go_at_call 92; refine (iSeed_any _ _).mono ?_; rw [ht]; rintro e w' ⟨rfl, rfl⟩) | fail)
  go_ret2
  exact ⟨rfl, rfl⟩
theorem iUnit_yes (n : Int) (h0 : 0 ≤ n) (h1 : n ≤ 2147483647) (w : World) : Calls Try.prog 43 #[.int .i64 n] w fun e w' => (∃ r, e = .returned (.tuple #[.float .f32 r, .bool true]) ∧ Is .f32 r (unitF n)) ∧ ∃ k, w' = w.drewN k := by
  have ht : decide (0 ≤ n ∧ n ≤ 2147483647) = true := decide_eq_true ⟨h0, h1⟩
  have i1 := seedNum_is (n / 65536)
  go_enter Try.func43, Try.ntmps43
  go_wp2_with (first | (go_at_call 92; refine (iSeed_any _ _).mono ?_; rw [ht]; rintro e w' ⟨rfl, rfl⟩) | (apply wpList_farith; rfl; rfl; rfl; rfl; (first | with_reducible assumption | exact Is.const rfl); (first | with_reducible assumption | exact Is.const rfl); intro r n hr))
  go_ret2
  exact ⟨⟨_, rfl, by assumption⟩, _, rfl⟩
theorem iUnit_no (n : Int) (h : n < 0 ∨ 2147483647 < n) (w : World) : Calls Try.prog 43 #[.int .i64 n] w fun e w' => e = .returned (.tuple #[.float .f32 0, .bool false]) ∧ w = w' := by
  have ht : decide (0 ≤ n ∧ n ≤ 2147483647) = false := decide_eq_false (by omega)
  go_enter Try.func43, Try.ntmps43
  go_wp2_with (first | (go_at_call 92; refine (iSeed_any _ _).mono ?_; rw [ht]; rintro e w' ⟨rfl, rfl⟩) | fail)
  go_ret2
  exact ⟨rfl, rfl⟩
theorem sNextSeed_yes (n : Int) (h0 : 0 ≤ n) (h1 : n ≤ 2147483647) (w : World) : Calls Try.prog 40 #[.int .i64 n] w fun e w' => e = .returned (.tuple #[.int .i64 (nextF n), .bool true]) ∧ w = w' := by
  have ht : decide (0 ≤ n ∧ n ≤ 2147483647) = true := decide_eq_true ⟨h0, h1⟩
  go_enter Try.func40, Try.ntmps40
  go_wp2_with (first | (go_at_call 90; refine (sSeed_any _ _).mono ?_; rw [ht]; rintro e w' ⟨rfl, rfl⟩) | (go_at_call 91; refine (sNext_word _ h0 h1 _).mono ?_; rintro e w' ⟨rfl, rfl⟩))
  go_ret2
  exact ⟨rfl, rfl⟩
theorem sNextSeed_no (n : Int) (h : n < 0 ∨ 2147483647 < n) (w : World) : Calls Try.prog 40 #[.int .i64 n] w fun e w' => e = .returned (.tuple #[.int .i64 0, .bool false]) ∧ w = w' := by
  have ht : decide (0 ≤ n ∧ n ≤ 2147483647) = false := decide_eq_false (by omega)
  go_enter Try.func40, Try.ntmps40
  go_wp2_with (first | (go_at_call 90; refine (sSeed_any _ _).mono ?_; rw [ht]; rintro e w' ⟨rfl, rfl⟩) | fail)
  go_ret2
  exact ⟨rfl, rfl⟩
theorem sUnit_yes (n : Int) (h0 : 0 ≤ n) (h1 : n ≤ 2147483647) (w : World) : Calls Try.prog 42 #[.int .i64 n] w fun e w' => (∃ r, e = .returned (.tuple #[.float .f32 r, .bool true]) ∧ Is .f32 r (unitF n)) ∧ ∃ k, w' = w.drewN k := by
  have ht : decide (0 ≤ n ∧ n ≤ 2147483647) = true := decide_eq_true ⟨h0, h1⟩
  go_enter Try.func42, Try.ntmps42
  go_wp2_with (first | (go_at_call 90; refine (sSeed_any _ _).mono ?_; rw [ht]; rintro e w' ⟨rfl, rfl⟩) | (go_at_call 93; refine (sUnit_word _ h0 h1 _).mono ?_; rintro e w' ⟨⟨r, rfl, ir⟩, k, rfl⟩))
  go_ret2
  exact ⟨⟨_, rfl, by assumption⟩, _, rfl⟩
theorem sUnit_no (n : Int) (h : n < 0 ∨ 2147483647 < n) (w : World) : Calls Try.prog 42 #[.int .i64 n] w fun e w' => e = .returned (.tuple #[.float .f32 0, .bool false]) ∧ w = w' := by
  have ht : decide (0 ≤ n ∧ n ≤ 2147483647) = false := decide_eq_false (by omega)
  go_enter Try.func42, Try.ntmps42
  go_wp2_with (first | (go_at_call 90; refine (sSeed_any _ _).mono ?_; rw [ht]; rintro e w' ⟨rfl, rfl⟩) | fail)
  go_ret2
  exact ⟨rfl, rfl⟩
end Go.Proofs.Ytahgnjmdlhidpaa
