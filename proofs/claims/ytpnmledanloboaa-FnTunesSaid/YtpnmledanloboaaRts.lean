/-
  Roots of small numbers; narrowing them.
-/
import Derived.Test.YtpnmledanloboaaRw
set_option linter.unusedSimpArgs false
set_option linter.unusedVariables false
namespace Go.Fl
open Ieee

/-- The root of a number of at most 2 to the power of -2 K that has no sign. -/
theorem Bd.root_small {x K : Nat} (hx : Bd x (1074 - 2 * K)) (hs : neg FloatKind.f64.format x = false) (hK : K ≤ 500) : Bd (fsqrt x) (1074 - K) ∧ neg FloatKind.f64.format (fsqrt x) = false := by
  obtain ⟨s, m, u, e1, h1, h2, _⟩ := read_bd hx
  rw [hs] at h2
  subst h2
  unfold fsqrt Format.sqrt
  rw [e1]
  unfold Datum.root
  dsimp only
  by_cases h0 : m = 0
  · rw [if_pos h0]
    subst h0
    simp only [Option.map_some, Format.write]
    have e : FloatKind.f64.format.nearest false 0 (-1074 + (u : Int)) = 0 := by unfold Format.nearest; simp [Format.word]
    rw [e]
    exact ⟨⟨by decide, by rw [show rung FloatKind.f64.format 0 = 0 by decide, V_zero]; exact Nat.zero_le _⟩, by decide⟩
  · rw [if_neg h0]
    simp only [Bool.false_eq_true, if_false, Option.map_some, Format.write]
    refine ⟨?_, nearest_neg ..⟩
    generalize hmore : 2 * (FloatKind.f64.format.fractionBits + 2) - m.log2 + (((-1074 + (u : Int)) - ((2 * (FloatKind.f64.format.fractionBits + 2) - m.log2 : Nat) : Int)) % 2).toNat = more
    have heven : ((-1074 + (u : Int)) - (more : Int)) % 2 = 0 := by omega
    obtain ⟨j, hj⟩ : ∃ j : Int, (-1074 + (u : Int)) - (more : Int) = 2 * j := ⟨((-1074 + (u : Int)) - (more : Int)) / 2, by omega⟩
    rw [hj, show (2 * j / 2 - 1 : Int) = j - 1 by omega, Nat.shiftLeft_eq]
    have hw : Ieee.Datum.rootFrom (m * 2 ^ more) ((m * 2 ^ more).log2 / 2 + 1) 0 * Ieee.Datum.rootFrom (m * 2 ^ more) ((m * 2 ^ more).log2 / 2 + 1) 0 ≤ m * 2 ^ more := rootFrom_sq _ _ _ (by simp)
    generalize Ieee.Datum.rootFrom (m * 2 ^ more) ((m * 2 ^ more).log2 / 2 + 1) 0 = wh at hw
    -- m 2 ^ more ≤ (2 ^ (-(K : Int) - j)) ^ 2
    have hm1 : 1 ≤ m := by omega
    have hKj : j ≤ -(K : Int) := by
      by_cases hle : j ≤ -(K : Int)
      · exact hle
      · exfalso
        have h3 : m * p2 u * p2 more ≤ p2 (1074 - 2 * K) * p2 more := Nat.mul_le_mul_right _ h1
        have h4 : p2 (u + more) ≤ p2 (1074 - 2 * K + more) := by
          rw [p2_add, p2_add (1074 - 2 * K)]
          refine Nat.le_trans ?_ h3
          rw [Nat.mul_assoc]; exact Nat.le_mul_of_pos_left _ hm1
        have h5 := @p2_lt (1074 - 2 * K + more) (u + more) (by omega)
        omega
    have hn : m * 2 ^ more ≤ p2 (-(K : Int) - j).toNat * p2 (-(K : Int) - j).toNat := by
      rw [← p2_add]
      have h3 : m * p2 u * p2 more ≤ p2 (1074 - 2 * K) * p2 more := Nat.mul_le_mul_right _ h1
      have h4 : p2 (1074 - 2 * K) * p2 more = p2 ((-(K : Int) - j).toNat + (-(K : Int) - j).toNat) * p2 u := by
        rw [← p2_add, ← p2_add]; exact congrArg p2 (by omega)
      rw [h4, Nat.mul_right_comm] at h3
      exact Nat.le_of_mul_le_mul_right h3 (p2_pos _)
    have h5 := root_step hw hn
    refine near_bd _ (by omega) ?_
    refine Nat.le_trans (Nat.mul_le_mul_right _ h5) ?_
    rw [← p2_eq, ← p2_eq, show 2 * p2 (-(K : Int) - j).toNat = p2 ((-(K : Int) - j).toNat + 1) by rw [p2_add]; show _ = _ * 2; omega, ← p2_add, ← p2_add]
    exact p2_le (by omega)

/-- A small number narrowed is no greater than the power of two above it. -/
theorem Bd.nar_le {x k : Nat} (h : Bd x (k + 925)) (hk : k ≤ 276) : rung FloatKind.f32.format (nar x) < FloatKind.f32.format.infRung ∧ V FloatKind.f32.format (rung FloatKind.f32.format (nar x)) ≤ p2 k := by
  have hn := h.nan
  obtain ⟨s, m, u, e1, h1, _⟩ := read_bd h
  unfold nar
  rw [if_neg (by rw [hn]; simp), e1]
  unfold Format.write
  dsimp only
  rw [nearest_rung]
  split
  · exact ⟨by decide, by rw [V_zero]; exact Nat.zero_le _⟩
  · rename_i h0
    obtain ⟨r, hr⟩ := pow_rung FloatKind.f32.format k
    have hri : r < FloatKind.f32.format.infRung := by
      rw [← V_lt_iff FloatKind.f32.format, hr, top32]
      exact p2_lt (by omega)
    have hle := rnd_le FloatKind.f32.format s (r := r) (place := -1074 + (u : Int)) h0 (by
      rw [lp32, hr]
      have h2 : m * p2 u ≤ p2 k * p2 925 := by rw [← p2_add]; exact Nat.le_trans h1 (Nat.le_refl _)
      by_cases h4 : u ≤ 925
      · have e3 : (-1074 + (u : Int) - (-149)).toNat = 0 := by omega
        have e4 : (-149 - (-1074 + (u : Int))).toNat = 925 - u := by omega
        rw [e3, e4, Nat.pow_zero, Nat.mul_one, ← p2_eq]
        have hs : p2 925 = p2 (925 - u) * p2 u := by rw [← p2_add]; exact congrArg p2 (by omega)
        rw [hs, ← Nat.mul_assoc] at h2
        exact Nat.le_of_mul_le_mul_right h2 (p2_pos _)
      · have e3 : (-1074 + (u : Int) - (-149)).toNat = u - 925 := by omega
        have e4 : (-149 - (-1074 + (u : Int))).toNat = 0 := by omega
        rw [e3, e4, Nat.pow_zero, Nat.mul_one, ← p2_eq]
        have hs : p2 u = p2 (u - 925) * p2 925 := by rw [← p2_add]; exact congrArg p2 (by omega)
        rw [hs, ← Nat.mul_assoc] at h2
        exact Nat.le_of_mul_le_mul_right h2 (p2_pos _))
    have h5 := Nat.min_le_left (rnd FloatKind.f32.format s m (-1074 + (u : Int))) FloatKind.f32.format.infRung
    refine ⟨by omega, ?_⟩
    rw [← hr]
    exact V_le _ (Nat.le_trans h5 hle)
theorem nar_neg9 {x E : Nat} (h : Bd x E) : neg FloatKind.f32.format (nar x) = neg FloatKind.f64.format x := by
  obtain ⟨s, m, u, e1, h1, h2, _⟩ := read_bd h
  unfold nar
  rw [if_neg (by rw [h.nan]; simp), e1, ← h2]
  unfold Format.write
  exact nearest_neg ..
/-- The root of the sum of two small squares, narrowed: not less than 0, at most 2 to the power of -10. -/
theorem root_nar {x : Nat} (h : Bd x 1054) (hs : neg FloatKind.f64.format x = false) : ∃ c, Rw (nar (fsqrt x)) c ∧ 0 ≤ c ∧ c ≤ 1/1024 := by
  obtain ⟨h1, h2⟩ := Bd.root_small (K := 10) (x := x) h hs (by decide)
  obtain ⟨g1, g2⟩ := Bd.nar_le (k := 139) h1 (by decide)
  have g3 := (nar_neg9 h1).trans h2
  obtain ⟨c, hc⟩ := Rw.ex g1
  have e : (((V FloatKind.f32.format (rung FloatKind.f32.format (nar (fsqrt x))) : Nat) : Int) : Rat) = c * P2 149 := by
    rw [← hc.2]; congr 1; unfold sv; rw [g3]; simp
  have hT := P2_pos 149
  have h0 : (0 : Rat) ≤ (((V FloatKind.f32.format (rung FloatKind.f32.format (nar (fsqrt x))) : Nat) : Int) : Rat) := Rat.intCast_le_intCast.2 (Int.natCast_nonneg _)
  have h9 : (((V FloatKind.f32.format (rung FloatKind.f32.format (nar (fsqrt x))) : Nat) : Int) : Rat) ≤ P2 139 := Rat.intCast_le_intCast.2 (by have := g2; omega)
  rw [e] at h0 h9
  have eT : P2 149 = P2 139 * 1024 := by rw [show (149 : Nat) = 139 + 10 from rfl, P2_add]; rfl
  refine ⟨c, hc, mul_cancel hT (by rw [Rat.zero_mul]; exact h0), mul_cancel hT ?_⟩
  rw [eT] at h9 ⊢
  grind
end Go.Fl
