/-
  Texts cut at commas: the model's function.
-/
import Derived.Test.YtmalbjncjlhbaaaGreatDoorCutM
import Derived.Test.YtmalbjncjlhbaaaGreatDoorChecked
import Derived.Lib.Slices
import Derived.Lib.Hide
import Derived.Laws.IdiomStrings
import Derived.OwnWalk
import Derived.WalkKit
import Derived.BigCall
import Derived.WalkLawsBesides
import Derived.Lib.SmallJoins
import Derived.Below
namespace Go.Proofs.YtmalbjncjlhbaaaGreatDoor
open Go.RowKit Go.Dec

theorem Strinfo : (Tryz.prog.info? 9).map (fun i => (i.zero, i.size, i.bytes)) = some (some (.string ⟨#[]⟩), 1, 16) := by kernel_rfl

/-- A slice of the call's own, not nil, with the texts ps. -/
def SOwn (B : Nat) (w : World) (v : Value) (ps : List ByteArray) : Prop := ∃ g cap, v = .slice (some ⟨g, 0, none⟩) ps.length cap ∧ w.ownsRow B 9 1 v ps.length (ps.map Value.string)

theorem sown_none {B : Nat} (w : World) (h : B ≤ w.heap.size) : SOwn B (w.alloc (.cells #[] 9)) (.slice (some ⟨w.heap.size, 0, none⟩) 0 0) [] :=
  ⟨_, _, rfl, by simp, .inr ⟨w.heap.size, 0, #[], rfl, h, heap_alloc_new w _, Nat.le_refl _, by unfold maxLen; decide, by simp, by simp⟩⟩

theorem sown_of {B : Nat} {w' : World} {v' : Value} {n : Nat} {xs : List Value} {ps : List ByteArray} (h : w'.ownsRow B 9 1 v' n xs) (hn : v' ≠ .slice none 0 0) (hl : xs = ps.map Value.string) : SOwn B w' v' ps := by
  have hnl : n = ps.length := by have := h.1; rw [hl, List.length_map] at this; omega
  subst hnl hl
  rcases h.2 with ⟨h1, _⟩ | ⟨g, cap, cur, rfl, _⟩
  · exact absurd h1 hn
  · exact ⟨g, cap, rfl, h⟩

theorem ext_list (s : ByteArray) (f k : Nat) : (s.extract f k).data.toList = (s.data.toList.drop f).take (k - f) := by
  simp [ByteArray.data_extract, List.extract_eq_take_drop]

structure CutAt (s : ByteArray) (ps : List ByteArray) (f k : Nat) : Prop where
  fk : f ≤ k
  ks : k ≤ s.size
  eq : ps.map (·.data.toList) ++ cutL (s.data.toList.drop f) = cutL s.data.toList
  no : 44 ∉ (s.data.toList.drop f).take (k - f)
  len : ps.length ≤ k

theorem CutAt.start (s : ByteArray) : CutAt s [] 0 0 := ⟨Nat.le_refl _, Nat.zero_le _, by simp, by simp, Nat.le_refl _⟩
theorem byte_at (s : ByteArray) (f k : Nat) (hf : f ≤ k) (h : k < s.size) : s.data.toList.drop f = (s.data.toList.drop f).take (k - f) ++ s[k] :: s.data.toList.drop (k + 1) := by
  have h1 : s.data.toList.drop k = s[k] :: s.data.toList.drop (k + 1) := by
    rw [List.drop_eq_getElem_cons (by simpa using h)]; rfl
  have h2 := (List.take_append_drop (k - f) (s.data.toList.drop f)).symm
  rw [List.drop_drop, show f + (k - f) = k by omega, h1] at h2
  exact h2
theorem CutAt.pass {s : ByteArray} {ps : List ByteArray} {f k : Nat} (h : CutAt s ps f k) (hk : k < s.size) (hc : s[k] ≠ 44) : CutAt s ps f (k + 1) := by
  refine ⟨by have := h.fk; omega, hk, h.eq, ?_, by have := h.len; omega⟩
  have e := byte_at s f k h.fk hk
  have e2 : (s.data.toList.drop f).take (k + 1 - f) = (s.data.toList.drop f).take (k - f) ++ [s[k]] := by
    have hlen : ((s.data.toList.drop f).take (k - f)).length = k - f := by
      simp; have := h.fk; omega
    have h3 : (s.data.toList.drop f).take (k + 1 - f) = ((s.data.toList.drop f).take (k - f) ++ s[k] :: s.data.toList.drop (k + 1)).take (k + 1 - f) := by rw [← e]
    rw [h3, List.take_append, List.take_of_length_le (by omega), hlen, show k + 1 - f - (k - f) = 1 by have := h.fk; omega]
    rfl
  rw [e2]
  simp only [List.mem_append, List.mem_singleton, not_or]
  exact ⟨h.no, fun e => hc e.symm⟩
theorem CutAt.cut {s : ByteArray} {ps : List ByteArray} {f k : Nat} (h : CutAt s ps f k) (hk : k < s.size) (hc : s[k] = 44) : CutAt s (ps ++ [s.extract f k]) (k + 1) (k + 1) := by
  have e := byte_at s f k h.fk hk
  refine ⟨Nat.le_refl _, hk, ?_, by simp, by have := h.len; simp; omega⟩
  have h1 := h.eq
  rw [e, hc, cutL_at _ _ h.no] at h1
  rw [← h1, List.map_append, List.map_cons, List.map_nil, ext_list, List.append_assoc]
  rfl
theorem CutAt.done {s : ByteArray} {ps : List ByteArray} {f : Nat} (h : CutAt s ps f s.size) : (ps ++ [s.extract f s.size]).map (·.data.toList) = cutL s.data.toList := by
  have h2 : (s.data.toList.drop f).take (s.size - f) = s.data.toList.drop f := List.take_of_length_le (by simp)
  have h3 := h.no
  rw [h2] at h3
  have h1 := h.eq
  rw [cutL_plain _ h3] at h1
  rw [← h1, List.map_append, List.map_cons, List.map_nil, ext_list, h2]

end Go.Proofs.YtmalbjncjlhbaaaGreatDoor
