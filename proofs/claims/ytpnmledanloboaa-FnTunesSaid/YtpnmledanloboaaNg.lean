/-
  The opposite of a 32-bit number.
-/
import Derived.Test.YtpnmledanloboaaFn
namespace Go.Proofs.Ytpnmledanloboaa
open Go.Fl Go.RowKit

theorem ng_bits {x : Nat} (h : x < 2 ^ FloatKind.f32.format.width) : rung FloatKind.f32.format (Op.negFloat .f32 x) = rung FloatKind.f32.format x ∧ neg FloatKind.f32.format (Op.negFloat .f32 x) = !neg FloatKind.f32.format x ∧ Op.negFloat .f32 x < 2 ^ FloatKind.f32.format.width := by
  have h' : x < 2 ^ 32 := h
  have e : Op.negFloat .f32 x = x ^^^ 2 ^ 31 := rfl
  have er : ∀ y, rung FloatKind.f32.format y = y % 2 ^ 31 := fun _ => rfl
  have en : ∀ y, neg FloatKind.f32.format y = (y / 2 ^ 31 % 2 == 1) := fun _ => rfl
  have et : ∀ y : Nat, (y / 2 ^ 31 % 2 == 1) = y.testBit 31 := fun y => by rw [Nat.testBit_eq_decide_div_mod_eq]; rfl
  refine ⟨?_, ?_, ?_⟩
  · rw [e, er, er]
    apply Nat.eq_of_testBit_eq
    intro i
    rw [Nat.testBit_mod_two_pow, Nat.testBit_mod_two_pow, Nat.testBit_xor, Nat.testBit_two_pow]
    by_cases hi : i < 31
    · have : ¬ 31 = i := by omega
      simp [hi, this]
    · simp [hi]
  · rw [e, en, en, et, et, Nat.testBit_xor, Nat.testBit_two_pow]
    simp
  · rw [e]; exact Nat.xor_lt_two_pow (n := 32) h' (by decide)
theorem ng_is {x X : Nat} (h : Is .f32 x X) : Is .f32 (Op.negFloat .f32 x) (fneg .f32 X) := by
  obtain ⟨h1, h2, h3⟩ := ng_bits h.lt
  refine ⟨?_, h3⟩
  have hn : nan .f32 (Op.negFloat .f32 x) = nan .f32 x := by unfold nan isNaN; rw [h1]
  unfold fneg
  by_cases hx : nan .f32 X = true
  · rw [if_pos hx, cn_nan _ (by rw [hn, h.nan, hx])]
  · have hx' : nan .f32 X = false := by simpa using hx
    rw [if_neg hx, cn_of _ (by rw [hn, h.nan, hx']), h.same hx']
end Go.Proofs.Ytpnmledanloboaa
