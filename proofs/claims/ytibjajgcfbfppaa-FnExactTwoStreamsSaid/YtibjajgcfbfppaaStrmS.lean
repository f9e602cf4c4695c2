/-
  Two streams: the model; counts that are not in range.
-/
import Derived.Test.YtibjajgcfbfppaaStrm
import Derived.Test.YtibjajgcfbfppaaCloudS
namespace Go.Proofs.Ytibjajgcfbfppaa
open Go.Fl Go.RowKit
set_option linter.unusedSimpArgs false
set_option linter.unusedVariables false

set_option maxHeartbeats 1000000 in
theorem iTwo_no (a b c : Int) (s : Nat) (hc : c < 1 ∨ 24 < c) (w : World) :
    Calls Try.prog 28 #[GV a b, .int .i64 c, .float .f32 s] w fun e w' => e = .returned (.tuple #[CV 0 0 (.slice none 0 0) 0, .bool false]) ∧ Below w.heap.size w w' := by
  have HB0 := Lib.hid (((Below.refl w.heap.size w).alloc (Nat.le_refl _) (.cells #[.int .i64 a, .int .i64 b] 25)).alloc (by simp) (.cells (CC 0 0 (.slice none 0 0) 0) 56))
  have HY := Lib.hid (show ((w.alloc (.cells #[.int .i64 a, .int .i64 b] 25)).alloc (.cells (CC 0 0 (.slice none 0 0) 0) 56)).heap[w.heap.size + 1]? = some (.cells (CC 0 0 (.slice none 0 0) 0) 56) from heap_alloc2_new w _ _)
  have hr := setRow_heap _ _ _ (CC 0 0 (.slice none 0 0) 0) _ _ HY.out
  obtain ⟨q0, q1, q2, q3, q4⟩ := five_cells hr
  by_cases h1 : c < 1
  · have hq1 : decide (c < 1) = true := decide_eq_true h1
    go_enter Try.func28, Try.ntmps28
    go_wp2_with (((with_reducible show wpList _ _ _ (Oper.mk none (Op.store _ (Operand.tmp 6) _) _ _ _ _ :: _) _ _); refine wpList_store_row rfl 56 _ _ rfl (w.heap.size + 1) (CC 0 0 (.slice none 0 0) 0) rfl rfl 56 _ HY.out info_cloud rfl (one5 _ _ _ _ _ _ _) ?_))
    refine bodyPost_ret (v := .tuple #[CV 0 0 (.slice none 0 0) 0, .bool false]) (by simp [results, Try.results28, go_sem, q0, q1, q2, q3, q4]) rfl ?_
    exact ⟨rfl, below_setRow HB0.out (by omega) _⟩
  · have hq1 : decide (c < 1) = false := decide_eq_false h1
    have hq2 : decide (c > 24) = true := decide_eq_true (by omega)
    have hq3 : 24 < c := by omega
    go_enter Try.func28, Try.ntmps28
    go_wp2_with (((with_reducible show wpList _ _ _ (Oper.mk none (Op.store _ (Operand.tmp 6) _) _ _ _ _ :: _) _ _); refine wpList_store_row rfl 56 _ _ rfl (w.heap.size + 1) (CC 0 0 (.slice none 0 0) 0) rfl rfl 56 _ HY.out info_cloud rfl (one5 _ _ _ _ _ _ _) ?_))
    refine bodyPost_ret (v := .tuple #[CV 0 0 (.slice none 0 0) 0, .bool false]) (by simp [results, Try.results28, go_sem, q0, q1, q2, q3, q4]) rfl ?_
    exact ⟨rfl, below_setRow HB0.out (by omega) _⟩

set_option maxHeartbeats 1000000 in
theorem sTwo_no (a b c : Int) (s : Nat) (hc : (gridOk a b && decide (1 ≤ c ∧ c ≤ 24)) = false) (w : World) :
    Calls Try.prog 26 #[GV a b, .int .i64 c, .float .f32 s] w fun e w' => e = .returned (.tuple #[CV 0 0 (.slice none 0 0) 0, .bool false]) ∧ Below w.heap.size w w' := by
  have HB0 := Lib.hid (((Below.refl w.heap.size w).alloc (Nat.le_refl _) (.cells #[.int .i64 a, .int .i64 b] 25)).alloc (by simp) (.cells (CC 0 0 (.slice none 0 0) 0) 56))
  have HP := Lib.hid ((gp_new w a b 25).below ((Below.refl _ _).alloc (Nat.le_refl _) (.cells (CC 0 0 (.slice none 0 0) 0) 56)))
  have HY := Lib.hid (show ((w.alloc (.cells #[.int .i64 a, .int .i64 b] 25)).alloc (.cells (CC 0 0 (.slice none 0 0) 0) 56)).heap[w.heap.size + 1]? = some (.cells (CC 0 0 (.slice none 0 0) 0) 56) from heap_alloc2_new w _ _)
  have hr := setRow_heap _ _ _ (CC 0 0 (.slice none 0 0) 0) _ _ HY.out
  obtain ⟨q0, q1, q2, q3, q4⟩ := five_cells hr
  cases hg : gridOk a b with
  | false =>
    go_enter Try.func26, Try.ntmps26
    go_wp2_with fail
    refine (sIs_any _ a b _ HP.out).mono ?_; rw [hg]; rintro e w' ⟨rfl, rfl⟩
    go_wp2_with (((with_reducible show wpList _ _ _ (Oper.mk none (Op.store _ (Operand.tmp 6) _) _ _ _ _ :: _) _ _); refine wpList_store_row rfl 56 _ _ rfl (w.heap.size + 1) (CC 0 0 (.slice none 0 0) 0) rfl rfl 56 _ HY.out info_cloud rfl (one5 _ _ _ _ _ _ _) ?_))
    all_goals (refine bodyPost_ret (v := .tuple #[CV 0 0 (.slice none 0 0) 0, .bool false]) (by simp [results, Try.results26, go_sem, q0, q1, q2, q3, q4]) rfl ?_; exact ⟨rfl, below_setRow HB0.out (by omega) _⟩)
  | true =>
    have hd : decide (1 ≤ c ∧ c ≤ 24) = false := by rw [hg] at hc; simpa using hc
    go_enter Try.func26, Try.ntmps26
    go_wp2_with fail
    refine (sIs_any _ a b _ HP.out).mono ?_; rw [hg]; rintro e w' ⟨rfl, rfl⟩
    go_wp2_with fail
    refine (sIn_any _ _ _ _).mono ?_; rw [hd]; rintro e w' ⟨rfl, rfl⟩
    go_wp2_with (((with_reducible show wpList _ _ _ (Oper.mk none (Op.store _ (Operand.tmp 6) _) _ _ _ _ :: _) _ _); refine wpList_store_row rfl 56 _ _ rfl (w.heap.size + 1) (CC 0 0 (.slice none 0 0) 0) rfl rfl 56 _ HY.out info_cloud rfl (one5 _ _ _ _ _ _ _) ?_))
    all_goals (refine bodyPost_ret (v := .tuple #[CV 0 0 (.slice none 0 0) 0, .bool false]) (by simp [results, Try.results26, go_sem, q0, q1, q2, q3, q4]) rfl ?_; exact ⟨rfl, below_setRow HB0.out (by omega) _⟩)
end Go.Proofs.Ytibjajgcfbfppaa
