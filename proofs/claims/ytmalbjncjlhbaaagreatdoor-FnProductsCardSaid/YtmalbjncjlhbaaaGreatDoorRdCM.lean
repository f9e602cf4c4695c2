/-
  Texts of complex numbers, as plain lists of bytes: what they read as.
-/
import Derived.Test.YtmalbjncjlhbaaaGreatDoorRdM
import Derived.Test.YtmalbjncjlhbaaaGreatDoorCl
namespace Go.Proofs.YtmalbjncjlhbaaaGreatDoor
open Go.Fl Go.RowKit Go.Pu16 Go.Dec

/-- A word that is the text of a complex number. -/
def okV (l : List UInt8) : Bool := decide (l.length = 16) && okW (l.take 8) && okW (l.drop 8)
def valV (l : List UInt8) : Nat × Nat := (valW (l.take 8), valW (l.drop 8))
theorem okV_facts {l : List UInt8} (h : okV l = true) : l.length = 16 ∧ okW (l.take 8) = true ∧ okW (l.drop 8) = true := by
  unfold okV at h
  rw [Bool.and_eq_true, Bool.and_eq_true] at h
  exact ⟨of_decide_eq_true h.1.1, h.1.2, h.2⟩

/-- The numbers of a text. -/
def readC (l : List UInt8) : Option (List (Nat × Nat)) := if l = [110, 111, 110, 101] then some [] else if 256 < (cutL l).length then none else if (cutL l).all okV then some ((cutL l).map valV) else none
def okR (p : ByteArray) : Bool := okV p.data.toList
def valR (p : ByteArray) : Nat × Nat := valV p.data.toList
theorem readC_some {l : List UInt8} {ps : List ByteArray} (h0 : l ≠ [110, 111, 110, 101]) (h : ps.map (·.data.toList) = cutL l) (hn : ps.length ≤ 256) (ha : ps.all okR = true) : readC l = some (ps.map valR) := by
  unfold readC
  rw [if_neg h0, if_neg (by rw [← h, List.length_map]; omega), if_pos (by rw [← h, List.all_map]; exact ha), ← h, List.map_map]
  rfl
theorem readC_none {l : List UInt8} {ps : List ByteArray} (h0 : l ≠ [110, 111, 110, 101]) (h : ps.map (·.data.toList) = cutL l) (hc : 256 < ps.length ∨ ps.all okR = false) : readC l = none := by
  unfold readC
  rw [if_neg h0]
  by_cases h1 : 256 < (cutL l).length
  · rw [if_pos h1]
  · rw [if_neg h1]
    rcases hc with hc | hc
    · rw [← h, List.length_map] at h1; omega
    · rw [if_neg (by rw [← h, List.all_map]; intro e; rw [show (okV ∘ fun x : ByteArray => x.data.toList) = okR from rfl, hc] at e; cases e)]
theorem readC_empty : readC [110, 111, 110, 101] = some [] := by unfold readC; rw [if_pos rfl]
theorem okR_take (ps : List ByteArray) (k : Nat) (p : ByteArray) (hk : ps[k]? = some p) (h1 : (ps.take k).all okR = true) (h2 : okR p = true) : (ps.take (k + 1)).all okR = true := by
  obtain ⟨hlt, rfl⟩ := List.getElem?_eq_some_iff.1 hk
  rw [List.take_succ_eq_append_getElem hlt, List.all_append, h1]; simp [h2]
theorem okR_not (ps : List ByteArray) (k : Nat) (p : ByteArray) (hk : ps[k]? = some p) (h2 : okR p = false) : ps.all okR = false := by
  obtain ⟨hlt, rfl⟩ := List.getElem?_eq_some_iff.1 hk
  rw [List.all_eq_false]; exact ⟨_, List.getElem_mem hlt, by simp [h2]⟩
theorem valR_take (ps : List ByteArray) (k : Nat) (p : ByteArray) (hk : ps[k]? = some p) : (ps.take (k + 1)).map valR = (ps.take k).map valR ++ [valR p] := by
  obtain ⟨hlt, rfl⟩ := List.getElem?_eq_some_iff.1 hk
  rw [List.take_succ_eq_append_getElem hlt, List.map_append]; rfl
theorem readC_ok (l : List UInt8) (xs : List (Nat × Nat)) (h : readC l = some xs) : xs.length ≤ 256 ∧ c32 xs := by
  unfold readC at h
  split at h
  · cases h; exact ⟨by simp, fun p hp => by cases hp⟩
  · split at h
    · cases h
    · split at h
      · rename_i h1 h2
        cases h
        refine ⟨by simp; omega, fun x hx => ?_⟩
        obtain ⟨p, hp, rfl⟩ := List.mem_map.1 hx
        obtain ⟨_, h3, h4⟩ := okV_facts (List.all_eq_true.1 h2 p hp)
        rw [w32]
        exact ⟨(okW_facts h3).2.2.2, (okW_facts h4).2.2.2⟩
      · cases h
end Go.Proofs.YtmalbjncjlhbaaaGreatDoor
