/-
  Fields: sums and products, of the program and of the model.
-/
import Derived.Test.YtahgnjmdlhidpaaGrid
import Derived.Test.YtahgnjmdlhidpaaOwn
namespace Go.Proofs.Ytahgnjmdlhidpaa
open Go.Fl Go.RowKit
set_option linter.unusedSimpArgs false

/-- A field of a grid has n numbers. -/
def fieldOk (a b : Int) (n : Nat) : Bool := gridOk a b && ((n : Int) == IntKind.i64.wrap (a * b))

theorem fieldOk_true {a b : Int} {n : Nat} (h : fieldOk a b n = true) : 4 ≤ a ∧ a ≤ 16 ∧ 4 ≤ b ∧ b ≤ 16 ∧ (n : Int) = a * b ∧ n ≤ 256 := by
  unfold fieldOk at h
  rw [Bool.and_eq_true] at h
  obtain ⟨h1, h2⟩ := h
  obtain ⟨h3, h4, h5, h6⟩ := gridOk_true h1
  have hm1 : a * b ≤ 16 * 16 := Int.mul_le_mul h4 h6 (by omega) (by omega)
  have hm0 : 0 ≤ a * b := Int.mul_nonneg (by omega) (by omega)
  have hw : IntKind.i64.wrap (a * b) = a * b := by
    generalize a * b = m at hm0 hm1 ⊢
    simp [IntKind.wrap, IntKind.bits, IntKind.signed]
    omega
  rw [hw] at h2
  have h7 : (n : Int) = a * b := by simpa using h2
  exact ⟨h3, h4, h5, h6, h7, by omega⟩

theorem sField_any (p : Value) (a b : Int) (s : Option Addr) (n c : Nat) (w : World) (hp : GP w p a b) : Calls Try.prog 54 #[p, .slice s n c] w fun e w' => e = .returned (.bool (fieldOk a b n)) ∧ ∃ m, w' = w.drewN m := by
  have hp' := hp
  obtain ⟨g, rfl, hg, h0, h1⟩ := hp
  by_cases hd : gridOk a b = true
  · go_enter Try.func54, Try.ntmps54
    go_wp2_with (first | ((with_reducible apply Loose.wp_start); kernel_rfl; kernel_rfl) | ((with_reducible apply Loose.start_cons)) | ((with_reducible apply Loose.start_nil)) | ((with_reducible apply Loose.walk_nil); intro n) | ((with_reducible apply Loose.walk_skip); exact rfl; (go_simp; first | done | exact rfl)) | ((with_reducible apply Loose.step_fc); rfl; rfl; rfl; rfl; (first | with_reducible assumption | exact Is.const rfl); (first | with_reducible assumption | exact Is.const rfl); (first | with_reducible assumption | exact rfl); exact rfl; (go_simp; first | done | exact rfl)) | ((with_reducible apply Loose.step_fa); rfl; rfl; rfl; rfl; (first | with_reducible assumption | exact Is.const rfl); (first | with_reducible assumption | exact Is.const rfl); exact rfl; (intro r; go_simp; first | done | exact rfl); intro r hr) | ((with_reducible apply Loose.step_wid); rfl; rfl; (first | with_reducible assumption | exact Is.const rfl); exact U32; exact U64; exact rfl; (intro r; go_simp; first | done | exact rfl); intro r hr) | ((with_reducible apply Loose.step_nar); rfl; rfl; (first | with_reducible assumption | exact Is.const rfl); exact U64; exact U32; (with_reducible assumption); exact rfl; (intro r; go_simp; first | done | exact rfl); intro r hr) | ((with_reducible apply Loose.step_assign); rfl; rfl; (with_reducible assumption); exact rfl; (intro r; go_simp; first | done | exact rfl); intro r hr) | ((with_reducible apply Loose.step_move); rfl; rfl; (with_reducible assumption); exact rfl; (intro r; go_simp; first | done | exact rfl); intro r hr) | ((with_reducible apply Loose.step_same); rfl; rfl; exact U32; exact U32; (first | with_reducible assumption | exact Is.const rfl); exact rfl; (intro r; go_simp; first | done | exact rfl); intro r hr) | ((with_reducible apply Loose.step_same); rfl; rfl; exact U64; exact U64; (first | with_reducible assumption | exact Is.const rfl); exact rfl; (intro r; go_simp; first | done | exact rfl); intro r hr) | ((with_reducible apply Loose.step_call); rfl; (intro n; go_simp; first | exact ⟨rfl, rfl⟩ | exact rfl); (intro n; go_at_call 98; exact Loose.same_world (sIs_any _ _ _ _ (GP.drewN hp' _))); exact rfl; (go_simp; first | done | exact rfl)) | ((with_reducible apply Loose.step_eq); rfl; (intro n; go_simp; first | done | exact rfl); exact rfl; (go_simp; first | done | exact rfl)))
    go_ret
    exact ⟨congrArg (fun x => Ending.returned (.bool x)) (by unfold fieldOk; rw [hd]; rfl), _, rfl⟩
  · have hd' : gridOk a b = false := by simpa using hd
    clear hd
    go_enter Try.func54, Try.ntmps54
    go_wp2_with (first | ((with_reducible apply Loose.wp_start); kernel_rfl; kernel_rfl) | ((with_reducible apply Loose.start_cons)) | ((with_reducible apply Loose.start_nil)) | ((with_reducible apply Loose.walk_nil); intro n) | ((with_reducible apply Loose.walk_skip); exact rfl; (go_simp; first | done | exact rfl)) | ((with_reducible apply Loose.step_fc); rfl; rfl; rfl; rfl; (first | with_reducible assumption | exact Is.const rfl); (first | with_reducible assumption | exact Is.const rfl); (first | with_reducible assumption | exact rfl); exact rfl; (go_simp; first | done | exact rfl)) | ((with_reducible apply Loose.step_fa); rfl; rfl; rfl; rfl; (first | with_reducible assumption | exact Is.const rfl); (first | with_reducible assumption | exact Is.const rfl); exact rfl; (intro r; go_simp; first | done | exact rfl); intro r hr) | ((with_reducible apply Loose.step_wid); rfl; rfl; (first | with_reducible assumption | exact Is.const rfl); exact U32; exact U64; exact rfl; (intro r; go_simp; first | done | exact rfl); intro r hr) | ((with_reducible apply Loose.step_nar); rfl; rfl; (first | with_reducible assumption | exact Is.const rfl); exact U64; exact U32; (with_reducible assumption); exact rfl; (intro r; go_simp; first | done | exact rfl); intro r hr) | ((with_reducible apply Loose.step_assign); rfl; rfl; (with_reducible assumption); exact rfl; (intro r; go_simp; first | done | exact rfl); intro r hr) | ((with_reducible apply Loose.step_move); rfl; rfl; (with_reducible assumption); exact rfl; (intro r; go_simp; first | done | exact rfl); intro r hr) | ((with_reducible apply Loose.step_same); rfl; rfl; exact U32; exact U32; (first | with_reducible assumption | exact Is.const rfl); exact rfl; (intro r; go_simp; first | done | exact rfl); intro r hr) | ((with_reducible apply Loose.step_same); rfl; rfl; exact U64; exact U64; (first | with_reducible assumption | exact Is.const rfl); exact rfl; (intro r; go_simp; first | done | exact rfl); intro r hr) | ((with_reducible apply Loose.step_call); rfl; (intro n; go_simp; first | exact ⟨rfl, rfl⟩ | exact rfl); (intro n; go_at_call 98; exact Loose.same_world (sIs_any _ _ _ _ (GP.drewN hp' _))); exact rfl; (go_simp; first | done | exact rfl)) | ((with_reducible apply Loose.step_eq); rfl; (intro n; go_simp; first | done | exact rfl); exact rfl; (go_simp; first | done | exact rfl)))
    all_goals (try exact (fun (_ : Value) => True))
    go_ret
    exact ⟨congrArg (fun x => Ending.returned (.bool x)) (by unfold fieldOk; rw [hd']; rfl), _, rfl⟩

theorem wrap_i64 (n : Int) : IntKind.i64.wrap n = wrap64 n := by
  simp [IntKind.wrap, IntKind.bits, IntKind.signed, wrap64]
  try omega

theorem pointsOf_any (a b : Int) (w : World) : Calls Try.prog 58 #[GV a b] w fun e w' => e = .returned (.int .i64 (IntKind.i64.wrap (a * b))) ∧ Below w.heap.size w w' := by
  go_enter Try.func58, Try.ntmps58
  go_wp2
  go_ret
  exact ⟨congrArg (fun x => Ending.returned (.int .i64 x)) (wrap_i64 _).symm, (Below.refl _ _).alloc (Nat.le_refl _) _⟩



def addF (xs ys : List Nat) (i : Nat) : Nat := fop .add .f32 (cn .f32 (xs.getD i 0)) (cn .f32 (ys.getD i 0))





def okAddFields (a b : Int) (xs ys : List Nat) : Bool := fieldOk a b xs.length && fieldOk a b ys.length
def lenAddFields (a b : Int) (xs ys : List Nat) : Nat := if okAddFields a b xs ys then xs.length else 0
theorem lenAddFields_le (a b : Int) (xs ys : List Nat) (h : xs.length ≤ 1048576) (_h : ys.length ≤ 1048576) : lenAddFields a b xs ys ≤ 1048576 := by unfold lenAddFields; split <;> omega


end Go.Proofs.Ytahgnjmdlhidpaa
