/-
  Grids: the laws' copies, and what is a grid and a field, of the program and of the model.
-/
import Derived.Test.YtlfnbnhbobohlaaMath
import Derived.Test.YtlfnbnhbobohlaaLists
import Derived.Test.YtlfnbnhbobohlaaLoose
import Derived.Test.YtlfnbnhbobohlaaPair
import Derived.Lib.Hide
import Derived.Laws.StructEq
import Derived.KernelRfl
namespace Go.Proofs.Ytlfnbnhbobohlaa
open Go.Fl Go.RowKit

abbrev GV (a b : Int) : Value := .agg #[.int .i64 a, .int .i64 b]
/-- A valid grid. -/
def gridOk (a b : Int) : Bool := decide (4 ≤ a ∧ a ≤ 16 ∧ 4 ≤ b ∧ b ≤ 16)
theorem gridOk_true {a b : Int} (h : gridOk a b = true) : 4 ≤ a ∧ a ≤ 16 ∧ 4 ≤ b ∧ b ≤ 16 := of_decide_eq_true h

/-- The pointer p leads to the grid a, b. -/
def GP (w : World) (p : Value) (a b : Int) : Prop := ∃ g, p = .pointer (some ⟨g, 0, none⟩) ∧ g < w.heap.size ∧ w.cell? ⟨g, 0, none⟩ = some (.int .i64 a) ∧ w.cell? ⟨g, 1, none⟩ = some (.int .i64 b)

theorem GP.below {w w' : World} {p : Value} {a b : Int} (h : GP w p a b) (hb : Below w.heap.size w w') : GP w' p a b := by
  obtain ⟨g, hp, hg, h0, h1⟩ := h
  exact ⟨g, hp, Nat.lt_of_lt_of_le hg hb.size, by rw [hb.cell (p := ⟨g, 0, none⟩) hg]; exact h0, by rw [hb.cell (p := ⟨g, 1, none⟩) hg]; exact h1⟩
theorem GP.drewN {w : World} {p : Value} {a b : Int} (h : GP w p a b) (n : Nat) : GP (w.drewN n) p a b := h
theorem GP.cells {w : World} {g : Nat} {a b : Int} (h : GP w (.pointer (some ⟨g, 0, none⟩)) a b) : w.cell? ⟨g, 0, none⟩ = some (.int .i64 a) ∧ w.cell? ⟨g, 1, none⟩ = some (.int .i64 b) := by
  obtain ⟨g', hp, _, h0, h1⟩ := h
  simp only [Value.pointer.injEq, Option.some.injEq, Addr.mk.injEq, and_true] at hp
  subst hp
  exact ⟨h0, h1⟩
theorem gp_new (w : World) (a b : Int) (t : TypeId) : GP (w.alloc (.cells #[.int .i64 a, .int .i64 b] t)) (.pointer (some ⟨w.heap.size, 0, none⟩)) a b :=
  ⟨w.heap.size, rfl, by simp, by rw [Joins.cell_of_block (heap_alloc_new w _)]; rfl, by rw [Joins.cell_of_block (heap_alloc_new w _)]; rfl⟩

theorem toGrid_any (a b : Int) (w : World) : Calls Try.prog 16 #[GV a b] w fun e w' => e = .returned (GV a b) ∧ Below w.heap.size w w' := by
  go_enter Try.func16, Try.ntmps16
  go_wp2
  refine bodyPost_ret (v := GV a b) (by simp [results, Try.results16, go_sem]) rfl ⟨rfl, ?_⟩
  exact ((((Below.refl _ _).alloc (Nat.le_refl _) _).alloc (by simp) _).alloc (by simp; omega) _)

theorem sIn_any (n lo hi : Int) (w : World) : Calls Try.prog 63 #[.int .i64 n, .int .i64 lo, .int .i64 hi] w fun e w' => e = .returned (.bool (decide (lo ≤ n ∧ n ≤ hi))) ∧ w = w' := by
  by_cases h : lo ≤ n
  · go_enter Try.func63, Try.ntmps63
    go_wp2
    go_ret
    exact ⟨by simp [h], rfl⟩
  · go_enter Try.func63, Try.ntmps63
    go_wp2
    go_ret
    exact ⟨by simp; omega, rfl⟩

theorem nearest_any (n : Int) (w : World) : Calls Try.prog 120 #[.int .i64 n] w fun e w' => e = .returned (.int .i64 (min (max n 4) 16)) ∧ w' = w := by
  go_enter Try.func120, Try.ntmps120
  go_wp2
  all_goals
    go_ret
    exact ⟨congrArg (fun x => Ending.returned (.int .i64 x)) (by omega), rfl⟩

/-- Two grids are equal. -/
def gEq (a b c d : Int) : Bool := decide (a = c ∧ b = d)
theorem if_gEq (a b c d : Int) (w : World) : (if a = c then if b = d then Result.ok (Next.value (Value.bool true)) w else Result.ok (Next.value (Value.bool false)) w else Result.ok (Next.value (Value.bool false)) w) = Result.ok (Next.value (Value.bool (gEq a b c d))) w := by
  unfold gEq
  by_cases h1 : a = c <;> by_cases h2 : b = d <;> simp [h1, h2]

@[go_sem] theorem guardGrid (op : BinOp) (X Y : Operand) (xs ys : Array Value) (w : World) : (eqGuard op 27 X Y (.agg xs) (.agg ys)).run Try.prog w = .ok () w := run_eqGuard_agg w op _ X Y xs ys (by kernel_rfl)

theorem near_ok (a b : Int) : gEq a b (min (max a 4) 16) (min (max b 4) 16) = gridOk a b := by
  unfold gridOk gEq
  rw [decide_eq_decide]
  omega

theorem iValidGrid_any (a b : Int) (w : World) : Calls Try.prog 80 #[GV a b] w fun e w' => e = .returned (.bool (gridOk a b)) ∧ Below w.heap.size w w' := by
  go_enter Try.func80, Try.ntmps80
  go_wp2_with (first | ((with_reducible apply Loose.wp_start); kernel_rfl; kernel_rfl) | ((with_reducible apply Loose.start_cons)) | ((with_reducible apply Loose.start_nil)) | ((with_reducible apply Loose.walk_nil); intro n) | ((with_reducible apply Loose.walk_skip); exact rfl; (go_simp; first | done | exact rfl)) | ((with_reducible apply Loose.step_fc); rfl; rfl; rfl; rfl; (first | with_reducible assumption | exact Is.const rfl); (first | with_reducible assumption | exact Is.const rfl); (first | with_reducible assumption | exact rfl); exact rfl; (go_simp; first | done | exact rfl)) | ((with_reducible apply Loose.step_fa); rfl; rfl; rfl; rfl; (first | with_reducible assumption | exact Is.const rfl); (first | with_reducible assumption | exact Is.const rfl); exact rfl; (intro r; go_simp; first | done | exact rfl); intro r hr) | ((with_reducible apply Loose.step_wid); rfl; rfl; (first | with_reducible assumption | exact Is.const rfl); exact U32; exact U64; exact rfl; (intro r; go_simp; first | done | exact rfl); intro r hr) | ((with_reducible apply Loose.step_nar); rfl; rfl; (first | with_reducible assumption | exact Is.const rfl); exact U64; exact U32; (with_reducible assumption); exact rfl; (intro r; go_simp; first | done | exact rfl); intro r hr) | ((with_reducible apply Loose.step_assign); rfl; rfl; (with_reducible assumption); exact rfl; (intro r; go_simp; first | done | exact rfl); intro r hr) | ((with_reducible apply Loose.step_move); rfl; rfl; (with_reducible assumption); exact rfl; (intro r; go_simp; first | done | exact rfl); intro r hr) | ((with_reducible apply Loose.step_same); rfl; rfl; exact U32; exact U32; (first | with_reducible assumption | exact Is.const rfl); exact rfl; (intro r; go_simp; first | done | exact rfl); intro r hr) | ((with_reducible apply Loose.step_same); rfl; rfl; exact U64; exact U64; (first | with_reducible assumption | exact Is.const rfl); exact rfl; (intro r; go_simp; first | done | exact rfl); intro r hr) | ((with_reducible apply Loose.step_call); rfl; (intro n; go_simp; first | exact ⟨rfl, rfl⟩ | exact rfl); (intro n; go_at_call 120; exact Loose.same_world ((nearest_any _ _).mono (fun _ _ h => ⟨h.1, h.2.symm⟩))); exact rfl; (go_simp; first | done | exact rfl)) | ((with_reducible apply Loose.step_eq); rfl; (intro n; go_simp; first | done | exact rfl); exact rfl; (go_simp; first | done | exact rfl)) | ((with_reducible apply Loose.step_eq); rfl; (intro n; go_simp; exact if_gEq _ _ _ _ _); exact rfl; (go_simp; first | done | exact rfl)))
  go_ret
  exact ⟨congrArg (fun x => Ending.returned (.bool x)) (near_ok a b), below_drewN ((Below.refl _ _).alloc (Nat.le_refl _) _) _⟩

theorem sIs_any (p : Value) (a b : Int) (w : World) (hp : GP w p a b) : Calls Try.prog 77 #[p] w fun e w' => e = .returned (.bool (gridOk a b)) ∧ w = w' := by
  obtain ⟨g, rfl, hg, h0, h1⟩ := hp
  by_cases hd : 4 ≤ a ∧ a ≤ 16
  · have hd2 : decide (4 ≤ a ∧ a ≤ 16) = true := decide_eq_true hd
    go_enter Try.func77, Try.ntmps77
    go_wp2_with (go_at_call 63; refine (sIn_any _ _ _ _).mono ?_; rintro e w' ⟨rfl, rfl⟩)
    go_ret
    exact ⟨congrArg (fun x => Ending.returned (.bool x)) (by unfold gridOk; rw [← Bool.decide_and, decide_eq_decide]; omega), rfl⟩
  · have hd2 : decide (4 ≤ a ∧ a ≤ 16) = false := decide_eq_false hd
    go_enter Try.func77, Try.ntmps77
    go_wp2_with (go_at_call 63; refine (sIn_any _ _ _ _).mono ?_; rintro e w' ⟨rfl, rfl⟩)
    go_ret
    exact ⟨congrArg (fun x => Ending.returned (.bool x)) (by unfold gridOk; symm; exact decide_eq_false (by omega)), rfl⟩

end Go.Proofs.Ytlfnbnhbobohlaa
