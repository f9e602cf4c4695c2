/-
  The laws' marks in lists of 32-bit numbers, from any number on; what else has turned.
-/
import Derived.Test.YtmalbjncjlhbaaaGreatDoorMarkF
namespace Go.Proofs.YtmalbjncjlhbaaaGreatDoor
open Go.Fl Go.RowKit

theorem grown_refl (w : World) (row : Option Nat) : w.grownBy w row := ⟨rfl, rfl, rfl, Nat.le_refl _, fun _ _ _ => rfl⟩
theorem grown_trans {a b c : World} {row : Option Nat} (h : a.grownBy b row) (k : b.grownBy c row) : a.grownBy c row :=
  ⟨k.os.trans h.os, k.tape.trans h.tape, k.output.trans h.output, Nat.le_trans h.size k.size, fun i hi hr => (k.block i (Nat.lt_of_lt_of_le hi h.size) hr).trans (h.block i hi hr)⟩

/-- Marks from number s on. -/
def marksG (s n : Nat) : List Nat := (List.range n).map fun i => markF (s + i)
theorem marksG_len (s n : Nat) : (marksG s n).length = n := by simp [marksG]
theorem marksG_at (s n k : Nat) (h : k < n) : (marksG s n)[k]? = some (markF (s + k)) := by
  unfold marksG
  rw [List.getElem?_map, List.getElem?_range h, Option.map_some]
theorem marksG_get (s n k : Nat) (h : k < n) : (marksG s n).getD k 0 = markF (s + k) := by
  rw [List.getD_eq_getElem?_getD, marksG_at s n k h, Option.getD_some]
theorem marksG_lt (s n : Nat) : ∀ x ∈ marksG s n, x < 2 ^ FloatKind.f32.format.width := by
  intro x hx
  obtain ⟨i, _, hi⟩ := List.mem_map.1 hx
  rw [← hi]
  exact (markF_is _).lt



end Go.Proofs.YtmalbjncjlhbaaaGreatDoor
