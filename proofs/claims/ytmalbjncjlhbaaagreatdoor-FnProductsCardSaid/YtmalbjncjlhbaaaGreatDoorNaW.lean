/-
  A 32-bit number, widened and narrowed again, is the same number; what is flushed.
-/
import Derived.Test.YtmalbjncjlhbaaaGreatDoorNum
import Derived.Test.YtmalbjncjlhbaaaGreatDoorNar
import Derived.Test.YtmalbjncjlhbaaaGreatDoorNwF
namespace Go.Proofs.YtmalbjncjlhbaaaGreatDoor
open Go.Fl Go.RowKit Ieee

theorem rung_flushed {X : Nat} (h : rung FloatKind.f32.format X < 8388608) : rung FloatKind.f32.format (flush X) = 0 := by
  unfold flush; rw [if_pos h]
  show X / 2 ^ 31 * 2 ^ 31 % 2147483648 = 0
  omega
theorem flush_facts (X : Nat) : sub32 (flush X) = false ∧ (sub32 X == decide (X = flush X)) = false := by
  by_cases h : rung FloatKind.f32.format X < 8388608
  · have h0 := rung_flushed h
    have hs : sub32 (flush X) = false := by unfold sub32; rw [h0]; simp
    refine ⟨hs, ?_⟩
    cases hx : sub32 X with
    | true =>
      have : X ≠ flush X := fun e => by rw [← e, hx] at hs; exact absurd hs (by simp)
      simp [this]
    | false => rw [flush_zero hx h]; simp
  · have e : flush X = X := by unfold flush; rw [if_neg h]
    have hs : sub32 X = false := by unfold sub32; exact decide_eq_false (fun k => h k.2)
    rw [e, hs]; simp
end Go.Proofs.YtmalbjncjlhbaaaGreatDoor
