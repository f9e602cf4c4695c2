/-
  Fields: sums and products, of the program and of the model.
-/
import Derived.Test.YtnknhfhllifnhaaGrid
import Derived.Test.YtnknhfhllifnhaaOwn
namespace Go.Proofs.Ytnknhfhllifnhaa
open Go.Fl Go.RowKit
set_option linter.unusedSimpArgs false

/-- A field of a grid has n numbers. -/
def fieldOk (a b : Int) (n : Nat) : Bool := gridOk a b && ((n : Int) == IntKind.i64.wrap (a * b))

theorem fieldOk_true {a b : Int} {n : Nat} (h : fieldOk a b n = true) : 4 ≤ a ∧ a ≤ 16 ∧ 4 ≤ b ∧ b ≤ 16 ∧ (n : Int) = a * b ∧ n ≤ 256 := by
  unfold fieldOk at h
  rw [Bool.and_eq_true] at h
  obtain ⟨h1, h2⟩ := h
  obtain ⟨h3, h4, h5, h6⟩ := gridOk_true h1
  have hm1 : a * b ≤ 16 * 16 := Int.mul_le_mul h4 h6 (by omega) (by omega)
  have hm0 : 0 ≤ a * b := Int.mul_nonneg (by omega) (by omega)
  have hw : IntKind.i64.wrap (a * b) = a * b := by
    generalize a * b = m at hm0 hm1 ⊢
    simp [IntKind.wrap, IntKind.bits, IntKind.signed]
    omega
  rw [hw] at h2
  have h7 : (n : Int) = a * b := by simpa using h2
  exact ⟨h3, h4, h5, h6, h7, by omega⟩

theorem sField_any (p : Value) (a b : Int) (s : Option Addr) (n c : Nat) (w : World) (hp : GP w p a b) : Calls Try.prog 95 #[p, .slice s n c] w fun e w' => e = .returned (.bool (fieldOk a b n)) ∧ ∃ m, w' = w.drewN m := by
  have hp' := hp
  obtain ⟨g, rfl, hg, h0, h1⟩ := hp
  by_cases hd : gridOk a b = true
  · go_enter Try.func95, Try.ntmps95
    go_wp2_with (first | ((with_reducible apply Loose.wp_start); kernel_rfl; kernel_rfl) | ((with_reducible apply Loose.start_cons)) | ((with_reducible apply Loose.start_nil)) | ((with_reducible apply Loose.walk_nil); intro n) | ((with_reducible apply Loose.walk_skip); exact rfl; (go_simp; first | done | exact rfl)) | ((with_reducible apply Loose.step_fc); rfl; rfl; rfl; rfl; (first | with_reducible assumption | exact Is.const rfl); (first | with_reducible assumption | exact Is.const rfl); (first | with_reducible assumption | exact rfl); exact rfl; (go_simp; first | done | exact rfl)) | ((with_reducible apply Loose.step_fa); rfl; rfl; rfl; rfl; (first | with_reducible assumption | exact Is.const rfl); (first | with_reducible assumption | exact Is.const rfl); exact rfl; (intro r; go_simp; first | done | exact rfl); intro r hr) | ((with_reducible apply Loose.step_wid); rfl; rfl; (first | with_reducible assumption | exact Is.const rfl); exact U32; exact U64; exact rfl; (intro r; go_simp; first | done | exact rfl); intro r hr) | ((with_reducible apply Loose.step_nar); rfl; rfl; (first | with_reducible assumption | exact Is.const rfl); exact U64; exact U32; (with_reducible assumption); exact rfl; (intro r; go_simp; first | done | exact rfl); intro r hr) | ((with_reducible apply Loose.step_assign); rfl; rfl; (with_reducible assumption); exact rfl; (intro r; go_simp; first | done | exact rfl); intro r hr) | ((with_reducible apply Loose.step_move); rfl; rfl; (with_reducible assumption); exact rfl; (intro r; go_simp; first | done | exact rfl); intro r hr) | ((with_reducible apply Loose.step_same); rfl; rfl; exact U32; exact U32; (first | with_reducible assumption | exact Is.const rfl); exact rfl; (intro r; go_simp; first | done | exact rfl); intro r hr) | ((with_reducible apply Loose.step_same); rfl; rfl; exact U64; exact U64; (first | with_reducible assumption | exact Is.const rfl); exact rfl; (intro r; go_simp; first | done | exact rfl); intro r hr) | ((with_reducible apply Loose.step_call); rfl; (intro n; go_simp; first | exact ⟨rfl, rfl⟩ | exact rfl); (intro n; go_at_call 143; exact Loose.same_world (sIs_any _ _ _ _ (GP.drewN hp' _))); exact rfl; (go_simp; first | done | exact rfl)) | ((with_reducible apply Loose.step_eq); rfl; (intro n; go_simp; first | done | exact rfl); exact rfl; (go_simp; first | done | exact rfl)))
    go_ret
    exact ⟨congrArg (fun x => Ending.returned (.bool x)) (by unfold fieldOk; rw [hd]; rfl), _, rfl⟩
  · have hd' : gridOk a b = false := by simpa using hd
    clear hd
    go_enter Try.func95, Try.ntmps95
    go_wp2_with (first | ((with_reducible apply Loose.wp_start); kernel_rfl; kernel_rfl) | ((with_reducible apply Loose.start_cons)) | ((with_reducible apply Loose.start_nil)) | ((with_reducible apply Loose.walk_nil); intro n) | ((with_reducible apply Loose.walk_skip); exact rfl; (go_simp; first | done | exact rfl)) | ((with_reducible apply Loose.step_fc); rfl; rfl; rfl; rfl; (first | with_reducible assumption | exact Is.const rfl); (first | with_reducible assumption | exact Is.const rfl); (first | with_reducible assumption | exact rfl); exact rfl; (go_simp; first | done | exact rfl)) | ((with_reducible apply Loose.step_fa); rfl; rfl; rfl; rfl; (first | with_reducible assumption | exact Is.const rfl); (first | with_reducible assumption | exact Is.const rfl); exact rfl; (intro r; go_simp; first | done | exact rfl); intro r hr) | ((with_reducible apply Loose.step_wid); rfl; rfl; (first | with_reducible assumption | exact Is.const rfl); exact U32; exact U64; exact rfl; (intro r; go_simp; first | done | exact rfl); intro r hr) | ((with_reducible apply Loose.step_nar); rfl; rfl; (first | with_reducible assumption | exact Is.const rfl); exact U64; exact U32; (with_reducible assumption); exact rfl; (intro r; go_simp; first | done | exact rfl); intro r hr) | ((with_reducible apply Loose.step_assign); rfl; rfl; (with_reducible assumption); exact rfl; (intro r; go_simp; first | done | exact rfl); intro r hr) | ((with_reducible apply Loose.step_move); rfl; rfl; (with_reducible assumption); exact rfl; (intro r; go_simp; first | done | exact rfl); intro r hr) | ((with_reducible apply Loose.step_same); rfl; rfl; exact U32; exact U32; (first | with_reducible assumption | exact Is.const rfl); exact rfl; (intro r; go_simp; first | done | exact rfl); intro r hr) | ((with_reducible apply Loose.step_same); rfl; rfl; exact U64; exact U64; (first | with_reducible assumption | exact Is.const rfl); exact rfl; (intro r; go_simp; first | done | exact rfl); intro r hr) | ((with_reducible apply Loose.step_call); rfl; (intro n; go_simp; first | exact ⟨rfl, rfl⟩ | exact rfl); (intro n; go_at_call 143; exact Loose.same_world (sIs_any _ _ _ _ (GP.drewN hp' _))); exact rfl; (go_simp; first | done | exact rfl)) | ((with_reducible apply Loose.step_eq); rfl; (intro n; go_simp; first | done | exact rfl); exact rfl; (go_simp; first | done | exact rfl)))
    all_goals (try exact (fun (_ : Value) => True))
    go_ret
    exact ⟨congrArg (fun x => Ending.returned (.bool x)) (by unfold fieldOk; rw [hd']; rfl), _, rfl⟩

theorem wrap_i64 (n : Int) : IntKind.i64.wrap n = wrap64 n := by
  simp [IntKind.wrap, IntKind.bits, IntKind.signed, wrap64]
  try omega

theorem pointsOf_any (a b : Int) (w : World) : Calls Try.prog 80 #[GV a b] w fun e w' => e = .returned (.int .i64 (IntKind.i64.wrap (a * b))) ∧ Below w.heap.size w w' := by
  go_enter Try.func80, Try.ntmps80
  go_wp2
  go_ret
  exact ⟨congrArg (fun x => Ending.returned (.int .i64 x)) (wrap_i64 _).symm, (Below.refl _ _).alloc (Nat.le_refl _) _⟩

theorem iIsField_any (a b : Int) (s : Option Addr) (n c : Nat) (w : World) : Calls Try.prog 20 #[GV a b, .slice s n c] w fun e w' => e = .returned (.bool (fieldOk a b n)) ∧ Below w.heap.size w w' := by
  by_cases hd : gridOk a b = true
  · go_enter Try.func20, Try.ntmps20
    have hb0 := (Below.refl w.heap.size w).alloc (Nat.le_refl _) (.cells #[.int .i64 a, .int .i64 b] 25)
    have hp := gp_new w a b 25
    go_wp2_with (first | (go_at_call 79; refine (iValidGrid_any a b _).mono ?_; rw [hd]; rintro e w1 ⟨rfl, hb1⟩; have hp1 := (hp.below hb1).cells; have hc0 := hp1.1; have hc1 := hp1.2) | (go_at_call 80; refine (pointsOf_any a b _).mono ?_; rintro e w2 ⟨rfl, hb2⟩))
    go_ret
    exact ⟨congrArg (fun x => Ending.returned (.bool x)) (by unfold fieldOk; rw [hd, wrap_i64]; rfl), (hb0.trans (hb1.mono hb0.size)).trans (hb2.mono (Nat.le_trans hb0.size hb1.size))⟩
  · have hd' : gridOk a b = false := by simpa using hd
    clear hd
    go_enter Try.func20, Try.ntmps20
    have hb0 := (Below.refl w.heap.size w).alloc (Nat.le_refl _) (.cells #[.int .i64 a, .int .i64 b] 25)
    go_wp2_with (first | (go_at_call 79; refine (iValidGrid_any a b _).mono ?_; rw [hd']; rintro e w1 ⟨rfl, hb1⟩))
    go_ret
    exact ⟨congrArg (fun x => Ending.returned (.bool x)) (by unfold fieldOk; rw [hd']; rfl), hb0.trans (hb1.mono hb0.size)⟩


def addF (xs ys : List Nat) (i : Nat) : Nat := fop .add .f32 (cn .f32 (xs.getD i 0)) (cn .f32 (ys.getD i 0))





def okAddFields (a b : Int) (xs ys : List Nat) : Bool := fieldOk a b xs.length && fieldOk a b ys.length
def lenAddFields (a b : Int) (xs ys : List Nat) : Nat := if okAddFields a b xs ys then xs.length else 0
theorem lenAddFields_le (a b : Int) (xs ys : List Nat) (h : xs.length ≤ 1048576) (_h : ys.length ≤ 1048576) : lenAddFields a b xs ys ≤ 1048576 := by unfold lenAddFields; split <;> omega


end Go.Proofs.Ytnknhfhllifnhaa
