/-
  The laws' marks in a list of 32-bit numbers of the call's own, and the look whether they are held.
-/
import Derived.Test.YtmalbjncjlhbaaaGreatDoorFC
namespace Go.Proofs.YtmalbjncjlhbaaaGreatDoor
open Go.Fl Go.RowKit

/-- The i-th mark. -/
def markF (i : Nat) : Nat := floatOfInt .f32 ((i : Int) + 1)
theorem word32_nan (n : Int) : nan .f32 (floatOfInt .f32 n) = false := show nan .f32 (FloatKind.f32.format.write (.number (n < 0) n.natAbs 0)) = false from nan_write _ (by intro s t e; cases e)
theorem word32_is (n : Int) : Is .f32 (floatOfInt .f32 n) (floatOfInt .f32 n) := ⟨cn_of _ (word32_nan n), nearest_lt ..⟩
theorem markF_nan (i : Nat) : nan .f32 (markF i) = false := by unfold markF; exact word32_nan _
theorem markF_is (i : Nat) : Is .f32 (markF i) (markF i) := by unfold markF; exact word32_is _
theorem markF_neq (i : Nat) : fcmp .neq .f32 (markF i) (markF i) = false := by rw [fcmp_neq_self, markF_nan]
/-- The first n marks. -/
def marksF (n : Nat) : List Nat := (List.range n).map markF
theorem marksF_len (n : Nat) : (marksF n).length = n := by simp [marksF]
theorem marksF_at (n k : Nat) (h : k < n) : (marksF n)[k]? = some (markF k) := by
  unfold marksF
  rw [List.getElem?_map, List.getElem?_range h, Option.map_some]
theorem marksF_get (n k : Nat) (h : k < n) : (marksF n).getD k 0 = markF k := by
  rw [List.getD_eq_getElem?_getD, marksF_at n k h, Option.getD_some]
theorem marksF_lt (n : Nat) : ∀ x ∈ marksF n, x < 2 ^ FloatKind.f32.format.width := by
  intro x hx
  obtain ⟨i, _, hi⟩ := List.mem_map.1 hx
  rw [← hi]
  exact (markF_is i).lt

/-- A slice of the call's own, perhaps nil, with the numbers xs. -/
def FOwn (B : Nat) (w : World) (v : Value) (xs : List Nat) : Prop := w.ownsRow B 24 1 v xs.length (xs.map (Value.float .f32))

theorem mix_set {ys xs : List Value} {k : Nat} {y : Value} (hl : ys.length = xs.length) (hk : ys[k]? = some y) : (ys.take k ++ xs.drop k).set k y = ys.take (k + 1) ++ xs.drop (k + 1) := by
  obtain ⟨hlt, rfl⟩ := List.getElem?_eq_some_iff.1 hk
  apply List.ext_getElem?
  intro i
  rw [List.getElem?_set]
  by_cases h1 : k = i
  · subst h1
    rw [if_pos rfl, if_pos (by simp; omega), List.getElem?_append_left (by simp; omega), List.getElem?_take, if_pos (by omega)]
    simp [hlt]
  · rw [if_neg h1]
    by_cases h2 : i < k
    · rw [List.getElem?_append_left (by simp; omega), List.getElem?_append_left (by simp; omega), List.getElem?_take, List.getElem?_take, if_pos h2, if_pos (by omega)]
    · rw [List.getElem?_append_right (by simp; omega), List.getElem?_append_right (by simp; omega)]
      simp only [List.length_take, List.getElem?_drop]
      congr 1
      omega

theorem fown_form {B : Nat} {w : World} {v : Value} {xs : List Nat} (h : FOwn B w v xs) : ∃ a cap, v = .slice a xs.length cap ∧ (xs = [] ∨ ∃ g, a = some ⟨g, 0, none⟩ ∧ B ≤ g ∧ g < w.heap.size) := by
  have hl := h.lt
  rcases h.2 with ⟨rfl, h0⟩ | ⟨g, cap, cur, rfl, hB, _⟩
  · exact ⟨none, 0, by rw [h0], .inl (List.length_eq_zero_iff.1 h0)⟩
  · exact ⟨_, _, rfl, .inr ⟨g, rfl, hl g rfl⟩⟩

theorem fown_FS {B : Nat} {w : World} {v : Value} {xs : List Nat} (h : FOwn B w v xs) (hwf : ∀ x ∈ xs, x < 2 ^ FloatKind.f32.format.width) : FS .f32 w v xs := by
  rcases h.2 with ⟨rfl, h0⟩ | ⟨g, cap, cur, rfl, hB, hg, hc, hm, hs, ht⟩
  · have hx := List.length_eq_zero_iff.1 h0
    subst hx
    exact ⟨none, 0, rfl, Nat.le_refl _, Nat.zero_le _, hwf, .inl rfl⟩
  · exact own_FS h hwf


end Go.Proofs.YtmalbjncjlhbaaaGreatDoor
