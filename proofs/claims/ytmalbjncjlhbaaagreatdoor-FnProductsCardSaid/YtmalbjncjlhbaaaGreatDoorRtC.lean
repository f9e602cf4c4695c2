/-
  The text of complex numbers, read back: the same numbers (mathematics).
-/
import Derived.Test.YtmalbjncjlhbaaaGreatDoorRtN
import Derived.Test.YtmalbjncjlhbaaaGreatDoorCTx
import Derived.Test.YtmalbjncjlhbaaaGreatDoorRdCM
namespace Go.Proofs.YtmalbjncjlhbaaaGreatDoor
open Go.Fl Go.RowKit Go.Dec

theorem hexC_ok {p : Nat × Nat} (h1 : p.1 < 4294967296) (h2 : p.2 < 4294967296) : okV (hexC p) = true ∧ valV (hexC p) = (bits32 (cn .f32 p.1), bits32 (cn .f32 p.2)) := by
  have ht : (hexC p).take 8 = hexT p.1 := by unfold hexC; rw [List.take_append_of_le_length (by rw [hexT_len]; omega), List.take_of_length_le (by rw [hexT_len]; omega)]
  have hd : (hexC p).drop 8 = hexT p.2 := by unfold hexC; rw [List.drop_append_of_le_length (by rw [hexT_len]; omega), List.drop_of_length_le (by rw [hexT_len]; omega), List.nil_append]
  unfold okV valV
  rw [ht, hd, (hexT_ok h1).1, (hexT_ok h2).1, (hexT_ok h1).2, (hexT_ok h2).2, hexC_len]
  exact ⟨rfl, rfl⟩
theorem hexC_plain (p : Nat × Nat) : 44 ∉ hexC p := by
  unfold hexC
  rw [List.mem_append]
  exact fun h => h.elim (hexT_plain p.1) (hexT_plain p.2)
theorem cut_joinC : ∀ (xs : List (Nat × Nat)) (x : Nat × Nat), cutL (joinC (x :: xs)) = (x :: xs).map hexC
  | [], x => by
    unfold joinC; rw [List.map_cons, List.map_nil, Lib.join_one]; exact cutL_plain _ (hexC_plain x)
  | y :: xs, x => by
    have h1 : joinC (x :: y :: xs) = hexC x ++ 44 :: joinC (y :: xs) := by
      unfold joinC
      rw [List.map_cons, Lib.join_cons, List.map_cons, Lib.join_cons]
      simp [Lib.joinTail]
    rw [h1, cutL_at _ _ (hexC_plain x), cut_joinC xs y]
    rfl
theorem joinC_ne (xs : List (Nat × Nat)) (x : Nat × Nat) : joinC (x :: xs) ≠ [110, 111, 110, 101] := by
  intro h
  have h1 := congrArg List.length h
  unfold joinC at h1
  rw [List.map_cons, Lib.join_cons, List.length_append, hexC_len] at h1
  simp at h1; omega
/-- What is read of the text. -/
theorem read_textC (xs : List (Nat × Nat)) (hn : xs.length ≤ 256) (hw : c32 xs) : readC (textC xs) = some (xs.map fun p => (bits32 (cn .f32 p.1), bits32 (cn .f32 p.2))) := by
  cases xs with
  | nil => rfl
  | cons x r =>
    have hl : ∀ y ∈ x :: r, y.1 < 4294967296 ∧ y.2 < 4294967296 := fun y hy => by have := hw y hy; rwa [w32] at this
    have e : textC (x :: r) = joinC (x :: r) := if_neg (by simp)
    rw [e]
    unfold readC
    rw [if_neg (joinC_ne r x), cut_joinC, if_neg (by rw [List.length_map]; omega)]
    have hall : ((x :: r).map hexC).all okV = true := by
      rw [List.all_eq_true]
      intro p hp
      obtain ⟨y, hy, rfl⟩ := List.mem_map.1 hp
      exact (hexC_ok (hl y hy).1 (hl y hy).2).1
    rw [if_pos hall, List.map_map]
    have hm : (x :: r).map (valV ∘ hexC) = (x :: r).map (fun p => (bits32 (cn .f32 p.1), bits32 (cn .f32 p.2))) := by
      apply List.map_congr_left
      intro y hy
      rw [Function.comp_apply]
      exact (hexC_ok (hl y hy).1 (hl y hy).2).2
    rw [hm]
theorem textC_size (xs : List (Nat × Nat)) (hn : xs.length ≤ 256) : (textC xs).length ≤ 1048576 := by
  unfold textC; split
  · decide
  · have := joinC_len xs; omega
end Go.Proofs.YtmalbjncjlhbaaaGreatDoor
