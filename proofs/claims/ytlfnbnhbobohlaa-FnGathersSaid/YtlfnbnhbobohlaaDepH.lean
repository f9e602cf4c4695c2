/-
  What particles leave: words for fields and lists under way.
-/
import Derived.Test.YtlfnbnhbobohlaaDepM
namespace Go.Proofs.Ytlfnbnhbobohlaa
open Go.Fl Go.RowKit
set_option linter.unusedSimpArgs false
set_option linter.unusedVariables false

/-- Numbers that stand for integers in units of 2 ^ -9. -/
def DyL (xs : List Nat) (F : Nat → Int) : Prop := ∀ j, j < xs.length → Dy .f32 140 (xs.getD j 0) (F j)
theorem DyL.put {xs : List Nat} {F G : Nat → Int} {i r : Nat} {v : Int} (h : DyL xs F) (hi : i < xs.length) (hr : Dy .f32 140 r (F i + v)) (hG : ∀ j, G j = F j + at1 i v j) : DyL (xs.set i r) G := by
  intro j hj
  rw [List.length_set] at hj
  rw [hG, List.getD_eq_getElem?_getD, List.getElem?_set]
  unfold at1
  by_cases e : i = j
  · subst e
    rw [if_pos rfl, if_pos hi, if_pos rfl]
    exact hr
  · rw [if_neg e, if_neg (by omega), Int.add_zero, ← List.getD_eq_getElem?_getD]
    exact h j hj
/-- A field of n numbers of the call's own. -/
def FR (B : Nat) (w : World) (g n : Nat) (xs : List Nat) : Prop := xs.length = n ∧ w.ownsRow B 46 1 (.slice (some ⟨g, 0, none⟩) n n) n (xs.map (Value.float .f32))
theorem FR.at {B g n : Nat} {w : World} {xs : List Nat} (h : FR B w g n xs) {j : Nat} (hj : j < n) : w.cell? ⟨g, j, none⟩ = some (.float .f32 (xs.getD j 0)) := by
  rw [h.2.cellAt j (by omega), List.getElem?_map, List.getElem?_eq_getElem (by rw [h.1]; exact hj)]
  simp [List.getD, List.getElem?_eq_getElem (show j < xs.length by rw [h.1]; exact hj)]
theorem FR.frozen {B g n : Nat} {w : World} {xs : List Nat} (h : FR B w g n xs) (j : Nat) : w.frozen? ⟨g, j, none⟩ = false := h.2.frozenAt j
theorem FR.put {B g n : Nat} {w : World} {xs : List Nat} (h : FR B w g n xs) {j : Nat} (hj : j < n) (r : Nat) : FR B (w.setCell ⟨g, j, none⟩ (.float .f32 r)) g n (xs.set j r) ∧ w.grownBy (w.setCell ⟨g, j, none⟩ (.float .f32 r)) (some g) := by
  obtain ⟨h1, g1⟩ := h.2.stored j (.float .f32 r)
  exact ⟨⟨by rw [List.length_set]; exact h.1, by rw [List.map_set]; exact h1⟩, g1⟩
theorem FR.kept {B g n : Nat} {w w' : World} {xs : List Nat} (h : FR B w g n xs) (hb : Below w.heap.size w w') : FR B w' g n xs :=
  ⟨h.1, World.ownsRow.kept h.2 (grown_below (row := none) hb) (.inr (by simp [Value.ownBlock]))⟩
/-- What the first c corners have got. -/
def cornTo (i0 i1 i2 i3 : Nat) (v0 v1 v2 v3 : Int) : Nat → Nat → Int
  | 0, _ => 0
  | 1, j => at1 i0 v0 j
  | 2, j => at1 i0 v0 j + at1 i1 v1 j
  | 3, j => at1 i0 v0 j + at1 i1 v1 j + at1 i2 v2 j
  | _, j => at1 i0 v0 j + at1 i1 v1 j + at1 i2 v2 j + at1 i3 v3 j
theorem corn_s0 (i0 i1 i2 i3 : Nat) (v0 v1 v2 v3 : Int) (j : Nat) : cornTo i0 i1 i2 i3 v0 v1 v2 v3 (0 + 1) j = cornTo i0 i1 i2 i3 v0 v1 v2 v3 0 j + at1 i0 v0 j := by show at1 _ _ _ = 0 + at1 _ _ _; rw [Int.zero_add]
theorem corn_s1 (i0 i1 i2 i3 : Nat) (v0 v1 v2 v3 : Int) (j : Nat) : cornTo i0 i1 i2 i3 v0 v1 v2 v3 (1 + 1) j = cornTo i0 i1 i2 i3 v0 v1 v2 v3 1 j + at1 i1 v1 j := rfl
theorem corn_s2 (i0 i1 i2 i3 : Nat) (v0 v1 v2 v3 : Int) (j : Nat) : cornTo i0 i1 i2 i3 v0 v1 v2 v3 (2 + 1) j = cornTo i0 i1 i2 i3 v0 v1 v2 v3 2 j + at1 i2 v2 j := rfl
theorem corn_s3 (i0 i1 i2 i3 : Nat) (v0 v1 v2 v3 : Int) (j : Nat) : cornTo i0 i1 i2 i3 v0 v1 v2 v3 (3 + 1) j = cornTo i0 i1 i2 i3 v0 v1 v2 v3 3 j + at1 i3 v3 j := rfl
theorem cornTo_in {i0 i1 i2 i3 : Nat} {v0 v1 v2 v3 : Int} (h0 : -1024 ≤ v0 ∧ v0 ≤ 1024) (h1 : -1024 ≤ v1 ∧ v1 ≤ 1024) (h2 : -1024 ≤ v2 ∧ v2 ≤ 1024) (h3 : -1024 ≤ v3 ∧ v3 ≤ 1024) (c j : Nat) : -4096 ≤ cornTo i0 i1 i2 i3 v0 v1 v2 v3 c j ∧ cornTo i0 i1 i2 i3 v0 v1 v2 v3 c j ≤ 4096 := by
  have e0 := at1_in (i := i0) (j := j) h0; have e1 := at1_in (i := i1) (j := j) h1; have e2 := at1_in (i := i2) (j := j) h2; have e3 := at1_in (i := i3) (j := j) h3
  unfold cornTo
  split <;> omega
theorem mod_of {a : Int} (ha : 4 ≤ a) (ha' : a ≤ 7) (n : Int) : n % (8 * a) % 8 = n % 8 := by
  have h : a = 4 ∨ a = 5 ∨ a = 6 ∨ a = 7 := by omega
  rcases h with rfl | rfl | rfl | rfl <;> omega
theorem Four.cells {W : World} {b : Nat} {v0 v1 v2 v3 : Value} {t : TypeId} (h : W.heap[b]? = some (.cells #[v0, v1, v2, v3] t)) : W.cell? ⟨b, 0, none⟩ = some v0 ∧ W.cell? ⟨b, 1, none⟩ = some v1 ∧ W.cell? ⟨b, 2, none⟩ = some v2 ∧ W.cell? ⟨b, 3, none⟩ = some v3 := by
  refine ⟨?_, ?_, ?_, ?_⟩ <;> (rw [Joins.cell_of_block h]; rfl)

theorem index_four' (v0 v1 v2 v3 : Value) (w : World) : (Instr.index 115 (.agg #[v0, v1, v2, v3]) (.int .i64 0)).run Try.prog w = .ok v0 w ∧ (Instr.index 115 (.agg #[v0, v1, v2, v3]) (.int .i64 1)).run Try.prog w = .ok v1 w ∧ (Instr.index 115 (.agg #[v0, v1, v2, v3]) (.int .i64 2)).run Try.prog w = .ok v2 w ∧ (Instr.index 115 (.agg #[v0, v1, v2, v3]) (.int .i64 3)).run Try.prog w = .ok v3 w := by
  have h := Try.underlying115
  refine ⟨?_, ?_, ?_, ?_⟩ <;> simp [Instr.index, run_underlying h, asIntOf, go_sem]
theorem cell_grown {w w' : World} {g : Nat} {p : Addr} (G : w.grownBy w' (some g)) (h : p.block < w.heap.size) (hne : p.block ≠ g) : w'.cell? p = w.cell? p := by
  have := G.block p.block h (fun e => hne (Option.some.inj e))
  unfold World.cell?
  rw [this]
end Go.Proofs.Ytlfnbnhbobohlaa
