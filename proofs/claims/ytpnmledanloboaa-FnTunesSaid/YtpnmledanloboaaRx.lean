/-
  32-bit sums that are exact; products by one and by zero.
-/
import Derived.Test.YtpnmledanloboaaRw
import Derived.Test.YtpnmledanloboaaZer
set_option linter.unusedSimpArgs false
set_option linter.unusedVariables false
namespace Go.Fl
open Ieee

theorem near_ex (s : Bool) {m r : Nat} {p : Int} {A B : Nat} (hr : r < FloatKind.f32.format.infRung) (hA : A = m * 2 ^ (p + 149).toNat) (hB : B = 2 ^ (-149 - p).toNat) (h : V FloatKind.f32.format r * B = A) :
    rung FloatKind.f32.format (FloatKind.f32.format.nearest s m p) = r := by
  have hBp : 0 < B := by rw [hB]; exact Nat.two_pow_pos _
  rw [nearest_rung]
  by_cases h0 : m = 0
  · rw [if_pos h0]
    subst h0
    rw [Nat.zero_mul] at hA
    rw [hA] at h
    have hz : V FloatKind.f32.format r = V FloatKind.f32.format 0 := by rw [V_zero]; exact (Nat.mul_eq_zero.1 h).resolve_right (by omega)
    by_cases e : 0 < r
    · have := (V_lt_iff FloatKind.f32.format).2 e
      omega
    · omega
  rw [if_neg h0]
  have k1 : r ≤ rnd FloatKind.f32.format s m p := le_rnd _ s h0 (by
    rw [lp32, show p - (-149) = p + 149 by omega, ← hA, ← hB, h]; exact Nat.le_refl _)
  have k2 : rnd FloatKind.f32.format s m p ≤ r := rnd_le _ s h0 (by
    rw [lp32, show p - (-149) = p + 149 by omega, ← hA, ← hB, h]; exact Nat.le_refl _)
  have e : rnd FloatKind.f32.format s m p = r := Nat.le_antisymm k2 k1
  rw [e, Nat.min_eq_left (by omega)]
theorem radd_ex {x y r : Nat} (hx : rung FloatKind.f32.format x < FloatKind.f32.format.infRung) (hy : rung FloatKind.f32.format y < FloatKind.f32.format.infRung)
    (hr : r < FloatKind.f32.format.infRung) (h : (sv FloatKind.f32.format x + sv FloatKind.f32.format y).natAbs = V FloatKind.f32.format r) :
    rung FloatKind.f32.format (fop .add .f32 x y) < FloatKind.f32.format.infRung ∧ sv FloatKind.f32.format (fop .add .f32 x y) = sv FloatKind.f32.format x + sv FloatKind.f32.format y := by
  obtain ⟨m, u, e1, h1⟩ := read32 hx
  obtain ⟨n, v, e2, h2⟩ := read32 hy
  have k1 : sv FloatKind.f32.format x = signed (neg FloatKind.f32.format x) m u := by unfold sv signed; rw [Nat.shiftLeft_eq, h1]
  have k2 : sv FloatKind.f32.format y = signed (neg FloatKind.f32.format y) n v := by unfold sv signed; rw [Nat.shiftLeft_eq, h2]
  rw [k1, k2] at h ⊢
  have e3 : (min (-149 + (u : Int)) (-149 + (v : Int)) + 149).toNat = min u v := by omega
  have e4 : (-149 - min (-149 + (u : Int)) (-149 + (v : Int))).toNat = 0 := by omega
  have f1 : ((-149 : Int) + (u : Int) - min (-149 + (u : Int)) (-149 + (v : Int))).toNat = u - min u v := by omega
  have f2 : ((-149 : Int) + (v : Int) - min (-149 + (u : Int)) (-149 + (v : Int))).toNat = v - min u v := by omega
  generalize hq : signed (neg FloatKind.f32.format x) m (u - min u v) + signed (neg FloatKind.f32.format y) n (v - min u v) = q
  have hqE : signed (neg FloatKind.f32.format x) m u + signed (neg FloatKind.f32.format y) n v = q * 2 ^ (min u v) := by
    rw [← hq, Int.add_mul, ← signed_up, ← signed_up, show u - min u v + min u v = u by omega, show v - min u v + min u v = v by omega]
  rw [hqE] at h ⊢
  have er : fop .add .f32 x y = FloatKind.f32.format.nearest (if q = 0 then neg FloatKind.f32.format x && neg FloatKind.f32.format y else decide (q < 0)) q.natAbs (min (-149 + (u : Int)) (-149 + (v : Int))) := by
    unfold fop floatBits Format.add
    rw [e1, e2]
    unfold Datum.sum
    dsimp only
    rw [f1, f2, hq]
    rfl
  have gq : q.natAbs * 2 ^ (min u v) = (q * 2 ^ (min u v)).natAbs := by rw [Int.natAbs_mul, Int.natAbs_pow]; rfl
  have hn := near_ex (r := r) (if q = 0 then neg FloatKind.f32.format x && neg FloatKind.f32.format y else decide (q < 0)) hr (m := q.natAbs) (p := min (-149 + (u : Int)) (-149 + (v : Int))) (A := (q * 2 ^ (min u v)).natAbs) (B := 1) (by rw [e3, gq]) (by rw [e4, Nat.pow_zero]) (by rw [Nat.mul_one]; exact h.symm)
  have hneg := nearest_neg FloatKind.f32.format (if q = 0 then neg FloatKind.f32.format x && neg FloatKind.f32.format y else decide (q < 0)) q.natAbs (min (-149 + (u : Int)) (-149 + (v : Int)))
  have hz : q = 0 → V FloatKind.f32.format (rung FloatKind.f32.format (fop .add .f32 x y)) = 0 := by
    intro h0
    rw [er, nearest_rung, h0, if_pos (by rfl), V_zero]
  rw [← er] at hn hneg
  rw [hn]
  refine ⟨hr, ?_⟩
  unfold sv
  rw [hneg]
  rw [hn] at hz ⊢
  rw [← h]
  have hp : (0 : Int) < 2 ^ (min u v) := Int.pow_pos (by omega)
  by_cases h0 : q = 0
  · rw [h0]; simp
  rw [if_neg h0]
  by_cases hl : q < 0
  · rw [decide_eq_true hl]
    have : q * 2 ^ (min u v) < 0 := Int.mul_neg_of_neg_of_pos hl hp
    generalize q * 2 ^ (min u v) = Z at *
    simp only [if_true]
    omega
  · rw [decide_eq_false hl]
    have : 0 < q * 2 ^ (min u v) := Int.mul_pos (by omega) hp
    generalize q * 2 ^ (min u v) = Z at *
    simp only [Bool.false_eq_true, if_false]
    omega


end Go.Fl
