/-
  Lists of complex numbers of the call's own: what keeps them, the laws' comparison and marks.
-/
import Derived.Test.YtmalbjncjlhbaaaGreatDoorOwn
import Derived.Test.YtmalbjncjlhbaaaGreatDoorCw
namespace Go.Proofs.YtmalbjncjlhbaaaGreatDoor
open Go.Fl Go.RowKit

theorem C32 : Tryz.prog.underlying 42 = some (.complex .f32) := Tryz.underlying42
theorem C64 : Tryz.prog.underlying 55 = some (.complex .f64) := Tryz.underlying55
theorem C32info : (Tryz.prog.info? 42).map (fun i => (i.zero, i.size, i.bytes)) = some (some (.complex .f32 0 0), 1, 8) := by kernel_rfl
def cV (p : Nat × Nat) : Value := .complex .f32 p.1 p.2
/-- A slice of the call's own, perhaps nil, with the complex numbers xs. -/
def COwn (B : Nat) (w : World) (v : Value) (xs : List (Nat × Nat)) : Prop := w.ownsRow B 42 1 v xs.length (xs.map cV)
def c32 (xs : List (Nat × Nat)) : Prop := ∀ p ∈ xs, p.1 < 2 ^ FloatKind.f32.format.width ∧ p.2 < 2 ^ FloatKind.f32.format.width

theorem cown_form {B : Nat} {w : World} {v : Value} {xs : List (Nat × Nat)} (h : COwn B w v xs) : ∃ a cap, v = .slice a xs.length cap ∧ (xs = [] ∨ ∃ g, a = some ⟨g, 0, none⟩ ∧ B ≤ g ∧ g < w.heap.size) := by
  have hl := h.lt
  rcases h.2 with ⟨rfl, h0⟩ | ⟨g, cap, cur, rfl, hB, _⟩
  · exact ⟨none, 0, by rw [h0], .inl (List.length_eq_zero_iff.1 h0)⟩
  · exact ⟨_, _, rfl, .inr ⟨g, rfl, hl g rfl⟩⟩
theorem cown_below {B : Nat} {w w' : World} {v : Value} {xs : List (Nat × Nat)} (h : COwn B w v xs) (hb : Below w.heap.size w w') : COwn B w' v xs :=
  World.ownsRow.kept h (grown_below (row := none) hb) (by cases v.ownBlock <;> simp)
theorem cown_grown {B : Nat} {w w' : World} {u v : Value} {xs : List (Nat × Nat)} (h : COwn B w v xs) (hg : w.grownBy w' u.ownBlock) (hne : v.ownBlock = none ∨ v.ownBlock ≠ u.ownBlock) : COwn B w' v xs :=
  World.ownsRow.kept h hg hne
theorem cown_at {B : Nat} {w : World} {g n cap : Nat} {xs : List (Nat × Nat)} (h : w.ownsRow B 42 1 (.slice (some ⟨g, 0, none⟩) n cap) n (xs.map cV)) {k : Nat} (hn : n = xs.length) (hk : k < xs.length) :
    w.cell? ⟨g, k, none⟩ = some (.complex .f32 (xs.getD k (0, 0)).1 (xs.getD k (0, 0)).2) := by
  rw [h.cellAt k (by omega), List.getElem?_map, List.getElem?_eq_getElem hk]
  simp [cV, List.getD, hk]
theorem c32_at {xs : List (Nat × Nat)} (h : c32 xs) {k : Nat} (hk : k < xs.length) : Is .f32 (xs.getD k (0, 0)).1 (cn .f32 (xs.getD k (0, 0)).1) ∧ Is .f32 (xs.getD k (0, 0)).2 (cn .f32 (xs.getD k (0, 0)).2) := by
  have := h (xs.getD k (0, 0)) (by simp [List.getD, hk])
  exact ⟨Is.of_lt this.1, Is.of_lt this.2⟩


end Go.Proofs.YtmalbjncjlhbaaaGreatDoor
