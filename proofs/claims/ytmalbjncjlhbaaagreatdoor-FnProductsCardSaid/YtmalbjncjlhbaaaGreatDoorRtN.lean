/-
  The text of numbers, read back: the same numbers (mathematics); the angle of a complex number.
-/
import Derived.Test.YtmalbjncjlhbaaaGreatDoorNTxt
import Derived.Test.YtmalbjncjlhbaaaGreatDoorRdM
namespace Go.Proofs.YtmalbjncjlhbaaaGreatDoor
open Go.Fl Go.RowKit Go.Dec

theorem cn_bits (x : Nat) : cn .f32 (bits32 (cn .f32 x)) = cn .f32 x := by
  unfold bits32
  by_cases h : nan .f32 (cn .f32 x) = true
  · rw [if_pos h]
    by_cases h2 : nan .f32 x = true
    · rw [cn_nan .f32 h2]; decide
    · rw [cn_of .f32 (by simpa using h2)] at h; exact absurd h h2
  · rw [if_neg h, cn_cn]
theorem cn_lt {x : Nat} (h : x < 4294967296) : cn .f32 x < 4294967296 := by
  unfold cn; split
  · decide
  · exact h
theorem bits_cn_lt {x : Nat} (h : x < 4294967296) : bits32 (cn .f32 x) < 4294967296 := bits32_lt (by rw [w32]; exact cn_lt h)

theorem hexT_ok {x : Nat} (h : x < 4294967296) : okW (hexT x) = true ∧ valW (hexT x) = bits32 (cn .f32 x) := by
  have hb := bits_cn_lt h
  have hf : foldW 0 (hexT x) = bits32 (cn .f32 x) := hexK_fold 8 _ (by omega)
  refine ⟨?_, hf⟩
  unfold okW
  rw [hf, cn_bits, hexT_len, show (hexT x).all isLow = true from hexK_low _ 8]
  simp
theorem hexT_plain (x : Nat) : 44 ∉ hexT x := by
  intro h
  have h1 := List.all_eq_true.1 (show (hexT x).all isLow = true from hexK_low _ 8) 44 h
  exact absurd h1 (by decide)
theorem cut_join : ∀ (xs : List Nat) (x : Nat), cutL (joinN (x :: xs)) = (x :: xs).map hexT
  | [], x => by
    unfold joinN; rw [List.map_cons, List.map_nil, Lib.join_one]; exact cutL_plain _ (hexT_plain x)
  | y :: xs, x => by
    have h1 : joinN (x :: y :: xs) = hexT x ++ 44 :: joinN (y :: xs) := by
      unfold joinN
      rw [List.map_cons, Lib.join_cons, List.map_cons, Lib.join_cons]
      simp [Lib.joinTail]
    rw [h1, cutL_at _ _ (hexT_plain x), cut_join xs y]
    rfl
theorem join_ne (xs : List Nat) (x : Nat) : joinN (x :: xs) ≠ [110, 111, 110, 101] := by
  intro h
  have h1 := congrArg List.length h
  unfold joinN at h1
  rw [List.map_cons, Lib.join_cons, List.length_append, hexT_len] at h1
  simp at h1; omega
/-- What is read of the text. -/
theorem read_text (xs : List Nat) (hn : xs.length ≤ 256) (hw : ∀ x ∈ xs, x < 2 ^ FloatKind.f32.format.width) : readN (textN xs) = some (xs.map fun x => bits32 (cn .f32 x)) := by
  cases xs with
  | nil => rfl
  | cons x r =>
    have hl : ∀ y ∈ x :: r, y < 4294967296 := fun y hy => by have := hw y hy; rwa [w32] at this
    have e : textN (x :: r) = joinN (x :: r) := if_neg (by simp)
    rw [e]
    unfold readN
    rw [if_neg (join_ne r x), cut_join, if_neg (by rw [List.length_map]; omega)]
    have hall : ((x :: r).map hexT).all okW = true := by
      rw [List.all_eq_true]
      intro p hp
      obtain ⟨y, hy, rfl⟩ := List.mem_map.1 hp
      exact (hexT_ok (hl y hy)).1
    rw [if_pos hall, List.map_map]
    have hm : (x :: r).map (valW ∘ hexT) = (x :: r).map (fun x => bits32 (cn .f32 x)) := by
      apply List.map_congr_left
      intro y hy
      rw [Function.comp_apply]
      exact (hexT_ok (hl y hy)).2
    rw [hm]
theorem text_size (xs : List Nat) (hn : xs.length ≤ 256) : (textN xs).length ≤ 1048576 := by
  unfold textN; split
  · decide
  · have := joinN_len xs; omega
end Go.Proofs.YtmalbjncjlhbaaaGreatDoor
