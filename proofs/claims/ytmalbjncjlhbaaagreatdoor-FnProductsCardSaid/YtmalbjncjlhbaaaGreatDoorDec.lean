/-
  Decimals: the model's function, digit by digit.
-/
import Derived.Test.YtmalbjncjlhbaaaGreatDoorChecked
import Derived.Lib.ItoaLen
import Derived.Lib.Slices
import Derived.Lib.Hide
import Derived.Laws.IdiomStrings
import Derived.OwnWalk
import Derived.WalkKit
import Derived.BigCall
import Derived.WalkLawsBesides
namespace Go.Proofs.YtmalbjncjlhbaaaGreatDoor
open Go.RowKit

theorem dec_step (u : Nat) : Lib.decDigits u = (if u / 10 = 0 then [] else Lib.decDigits (u / 10)) ++ [UInt8.ofNat (48 + u % 10)] := by
  rw [Lib.decDigits]
  by_cases h : u < 10
  · rw [dif_pos h, if_pos (by omega)]
    have : u % 10 = u := by omega
    rw [this]; rfl
  · rw [dif_neg h, if_neg (by omega)]

def decAt (u : Nat) (l : List UInt8) : List UInt8 := if l = [] then Lib.decDigits u else (if u = 0 then [] else Lib.decDigits u) ++ l
theorem decAt_nil (u : Nat) : decAt u [] = Lib.decDigits u := by unfold decAt; rw [if_pos rfl]
theorem decAt_step {u : Nat} {l : List UInt8} (h : l = [] ∨ u ≠ 0) : decAt (u / 10) (UInt8.ofNat (48 + u % 10) :: l) = decAt u l := by
  have e : decAt u l = Lib.decDigits u ++ l := by
    unfold decAt
    by_cases hl : l = []
    · rw [if_pos hl, hl, List.append_nil]
    · rw [if_neg hl, if_neg (by rcases h with h | h; exact absurd h hl; exact h)]
  rw [e, dec_step]
  unfold decAt
  rw [if_neg (by simp), List.append_assoc]
  rfl
theorem decAt_end {l : List UInt8} (h : l ≠ []) : decAt 0 l = l := by unfold decAt; rw [if_neg h, if_pos rfl]; rfl
theorem decAt_len (u : Nat) (l : List UInt8) : l.length ≤ (decAt u l).length := by
  unfold decAt; split
  · rename_i h; rw [h]; exact Nat.zero_le _
  · rw [List.length_append]; omega

theorem infoByte : (Tryz.prog.info? 5).map (fun i => (i.zero, i.size, i.bytes)) = some (some (.int .u8 0), 1, 1) := by kernel_rfl

/-- The slice v holds the bytes l, in a block of the call's own. -/
def Bytes (B : Nat) (w : World) (v : Value) (l : List UInt8) : Prop := ∃ g cap, v = .slice (some ⟨g, 0, none⟩) l.length cap ∧ w.ownsRow B 5 1 v l.length (Lib.byteCells l)

theorem owned_one {B : Nat} (w : World) (c : Value) (h : B ≤ w.heap.size) : (w.alloc (.cells #[c] 5)).ownsRow B 5 1 (.slice (some ⟨w.heap.size, 0, none⟩) 1 1) 1 [c] :=
  ⟨by simp, .inr ⟨w.heap.size, 1, #[c], rfl, h, heap_alloc_new w _, Nat.le_refl _, by unfold maxLen; decide, by simp, by simp⟩⟩
theorem owned_none {B : Nat} (w : World) (h : B ≤ w.heap.size) : (w.alloc (.cells #[] 5)).ownsRow B 5 1 (.slice (some ⟨w.heap.size, 0, none⟩) 0 0) 0 [] :=
  ⟨by simp, .inr ⟨w.heap.size, 0, #[], rfl, h, heap_alloc_new w _, Nat.le_refl _, by unfold maxLen; decide, by simp, by simp⟩⟩
theorem byte_val (u : Nat) : (((UInt8.ofNat (48 + u % 10)).toNat : Nat) : Int) = 48 + (u : Int) % 10 := by
  have : (UInt8.ofNat (48 + u % 10)).toNat = 48 + u % 10 := by simp; omega
  rw [this]; omega

/-- A row that is owned, behind an append that grew it: it is no nil slice. -/
theorem bytes_of {B : Nat} {w' : World} {v' : Value} {n : Nat} {xs : List Value} {l : List UInt8} (h : w'.ownsRow B 5 1 v' n xs) (hn : v' ≠ .slice none 0 0) (hl : xs = Lib.byteCells l) : Bytes B w' v' l := by
  have hnl : n = l.length := by have := h.1; rw [hl, Lib.byteCells_length] at this; omega
  subst hnl hl
  rcases h.2 with ⟨h1, _⟩ | ⟨g, cap, cur, rfl, _⟩
  · exact absurd h1 hn
  · exact ⟨g, cap, rfl, h⟩


end Go.Proofs.YtmalbjncjlhbaaaGreatDoor
