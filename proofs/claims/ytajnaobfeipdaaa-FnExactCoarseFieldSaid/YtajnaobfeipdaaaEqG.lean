/-
  Two grids are equal to the laws; grids that results lead to.
-/
import Derived.Test.YtajnaobfeipdaaaFineB
namespace Go.Proofs.Ytajnaobfeipdaaa
open Go.Fl Go.RowKit

theorem eqGrid_any (a b : Int) (w : World) : Calls Try.prog 31 #[GV a b, GV a b] w fun e w' => e = .returned (.bool true) ∧ Below w.heap.size w w' := by
  go_enter Try.func31, Try.ntmps31
  go_wp2
  go_ret
  exact ⟨rfl, ((Below.refl _ _).alloc (Nat.le_refl _) _).alloc (by simp) _⟩
theorem gp_grown {w w' : World} {g : Nat} {a b : Int} {row : Option Nat} (h : GP w (.pointer (some ⟨g, 0, none⟩)) a b) (hg : w.grownBy w' row) (hne : ∀ k, row = some k → k ≠ g) : GP w' (.pointer (some ⟨g, 0, none⟩)) a b := by
  obtain ⟨g', hp, hl, h0, h1⟩ := h
  simp only [Value.pointer.injEq, Option.some.injEq, Addr.mk.injEq, and_true] at hp
  subst hp
  have e := hg.block g hl (fun e => hne g e.symm rfl)
  exact ⟨g, rfl, Nat.lt_of_lt_of_le hl hg.size, (World.cell?_of_block (w := w) e).trans h0, (World.cell?_of_block (w := w) e).trans h1⟩
end Go.Proofs.Ytajnaobfeipdaaa
