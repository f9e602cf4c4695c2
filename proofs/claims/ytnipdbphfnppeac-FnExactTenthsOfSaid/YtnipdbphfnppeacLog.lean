/-
  Logarithms: halving and doubling as plain functions of the words; their bounds.
-/
import Derived.Test.YtnipdbphfnppeacAng
namespace Go.Fl
open Ieee

def TWO : Nat := 4611686018427387904
def C15 : Nat := 4609434218613702656
def C75 : Nat := 4604930618986332160

theorem p2_two (n : Nat) : p2 (n + 1) = 2 * p2 n := by rw [p2_add, Nat.mul_comm]; rfl
theorem p2_four (n : Nat) : p2 (n + 2) = 4 * p2 n := by rw [p2_add, Nat.mul_comm]; rfl
theorem two_fin : rung FloatKind.f64.format TWO < FloatKind.f64.format.infRung := by decide
theorem two_bd : Bd TWO 1075 := bd_of (by decide) (by decide +kernel)
theorem two_V : V FloatKind.f64.format (rung FloatKind.f64.format TWO) = p2 1075 := by decide +kernel
theorem two_read : FloatKind.f64.format.read TWO = .number false 4503599627370496 (-51) := by decide +kernel

/-- The mantissa has at most 53 digits. -/
theorem mag_lt53 (r : Nat) : (mag FloatKind.f64.format r).log2 ≤ 52 := mag_log2 FloatKind.f64.format r

theorem neg_quo_two {x : Nat} (h : rung FloatKind.f64.format x < FloatKind.f64.format.infRung) : neg FloatKind.f64.format (fop .quo .f64 x TWO) = neg FloatKind.f64.format x := by
  unfold fop floatBits Format.div
  dsimp only
  rw [read_fin h, two_read]
  unfold Datum.quotient
  dsimp only
  rw [if_neg (by decide), Option.map_some]
  dsimp only
  unfold Format.write
  dsimp only
  rw [nearest_neg, Bool.xor_false]

theorem neg_mul_two {x : Nat} (h : rung FloatKind.f64.format x < FloatKind.f64.format.infRung) : neg FloatKind.f64.format (fop .mul .f64 x TWO) = neg FloatKind.f64.format x := by
  unfold fop floatBits Format.mul
  dsimp only
  rw [read_fin h, two_read]
  unfold Datum.product
  dsimp only
  rw [Option.map_some]
  dsimp only
  unfold Format.write
  dsimp only
  rw [nearest_neg, Bool.xor_false]

/-- Half of a number is not less than what is at most its half. -/
theorem half_ge {x r : Nat} (h : rung FloatKind.f64.format x < FloatKind.f64.format.infRung) (h0 : 0 < V FloatKind.f64.format (rung FloatKind.f64.format x))
    (hr : 2 * V FloatKind.f64.format r ≤ V FloatKind.f64.format (rung FloatKind.f64.format x)) (hri : r ≤ FloatKind.f64.format.infRung) : r ≤ rung FloatKind.f64.format (fop .quo .f64 x TWO) := by
  have hlog := mag_lt53 (rung FloatKind.f64.format x)
  unfold fop floatBits Format.div
  dsimp only
  rw [read_fin h, two_read]
  have hV : V FloatKind.f64.format (rung FloatKind.f64.format x) = mag FloatKind.f64.format (rung FloatKind.f64.format x) * p2 (up FloatKind.f64.format (rung FloatKind.f64.format x)) := rfl
  rw [hV] at hr h0
  generalize mag FloatKind.f64.format (rung FloatKind.f64.format x) = m at *
  generalize up FloatKind.f64.format (rung FloatKind.f64.format x) = u at *
  have hm : 0 < m := Nat.pos_of_ne_zero (fun e => by subst e; simp at h0)
  unfold Datum.quotient
  dsimp only
  rw [if_neg (by decide), Option.map_some]
  dsimp only
  unfold Format.write
  dsimp only
  have hmore : 52 ≤ FloatKind.f64.format.fractionBits + 2 + (4503599627370496 : Nat).log2 - m.log2 := by
    have : (4503599627370496 : Nat).log2 = 52 := by decide +kernel
    rw [this, show FloatKind.f64.format.fractionBits = 52 from rfl]; omega
  generalize FloatKind.f64.format.fractionBits + 2 + (4503599627370496 : Nat).log2 - m.log2 = more at hmore
  obtain ⟨d, rfl⟩ : ∃ d, more = d + 52 := ⟨more - 52, by omega⟩
  have hq : m <<< (d + 52) = m * p2 d * 4503599627370496 := by
    rw [Nat.shiftLeft_eq, Nat.pow_add, ← Nat.mul_assoc]; rfl
  rw [hq, Nat.mul_div_cancel _ (by decide), Nat.mul_mod_left, show ((0 : Nat) != 0).toNat = 0 from rfl, Nat.add_zero]
  have hpos : 0 < m * p2 d := Nat.mul_pos hm (p2_pos _)
  rw [nearest_rung, if_neg (by omega)]
  refine Nat.le_min.mpr ⟨le_rnd _ _ (by omega) ?_, hri⟩
  have e1 : (FloatKind.f64.format.leastPlace - (-1074 + (u : Int) - -51 - ((d + 52 : Nat) : Int) - 1)).toNat = d + 2 - u := by rw [lp64]; omega
  have e2 : (-1074 + (u : Int) - -51 - ((d + 52 : Nat) : Int) - 1 - FloatKind.f64.format.leastPlace).toNat = u - (d + 2) := by rw [lp64]; omega
  rw [e1, e2, ← p2_eq, ← p2_eq]
  generalize V FloatKind.f64.format r = v at hr
  by_cases hc : u ≤ d + 2
  · rw [show u - (d + 2) = 0 by omega, show p2 0 = 1 from rfl, Nat.mul_one]
    have h3 : p2 (d + 2) = p2 (d + 2 - u) * p2 u := by rw [← p2_add]; exact congrArg p2 (by omega)
    have h4 : p2 (d + 2) = 4 * p2 d := by rw [p2_add, Nat.mul_comm]; rfl
    have h5 : 2 * v * p2 (d + 2 - u) ≤ m * p2 u * p2 (d + 2 - u) := Nat.mul_le_mul_right _ hr
    rw [Nat.mul_assoc m, Nat.mul_comm (p2 u), ← h3, h4, Nat.mul_assoc] at h5
    have h6 : m * (4 * p2 d) = 2 * (2 * (m * p2 d)) := by rw [Nat.mul_left_comm]; omega
    omega
  · rw [show d + 2 - u = 0 by omega, show p2 0 = 1 from rfl, Nat.mul_one]
    have h3 : p2 u = p2 (u - (d + 2)) * p2 (d + 2) := by rw [← p2_add]; exact congrArg p2 (by omega)
    have h4 : p2 (d + 2) = 4 * p2 d := by rw [p2_add, Nat.mul_comm]; rfl
    rw [h3, h4] at hr
    have h6 : m * (p2 (u - (d + 2)) * (4 * p2 d)) = 2 * (2 * (m * p2 d) * p2 (u - (d + 2))) := by
      rw [Nat.mul_left_comm, Nat.mul_left_comm m 4, Nat.mul_left_comm _ 4, Nat.mul_assoc 2, Nat.mul_comm (m * p2 d)]; omega
    omega

/-- Twice a number is not less than what is at most its double. -/
theorem twice_ge {x r : Nat} (h : rung FloatKind.f64.format x < FloatKind.f64.format.infRung) (h0 : 0 < V FloatKind.f64.format (rung FloatKind.f64.format x))
    (hr : V FloatKind.f64.format r ≤ 2 * V FloatKind.f64.format (rung FloatKind.f64.format x)) (hri : r ≤ FloatKind.f64.format.infRung) : r ≤ rung FloatKind.f64.format (fop .mul .f64 x TWO) := by
  unfold fop floatBits Format.mul
  dsimp only
  rw [read_fin h, two_read]
  have hV : V FloatKind.f64.format (rung FloatKind.f64.format x) = mag FloatKind.f64.format (rung FloatKind.f64.format x) * p2 (up FloatKind.f64.format (rung FloatKind.f64.format x)) := rfl
  rw [hV] at hr h0
  generalize mag FloatKind.f64.format (rung FloatKind.f64.format x) = m at *
  generalize up FloatKind.f64.format (rung FloatKind.f64.format x) = u at *
  have hm : 0 < m := Nat.pos_of_ne_zero (fun e => by subst e; simp at h0)
  unfold Datum.product
  dsimp only
  rw [Option.map_some]
  dsimp only
  unfold Format.write
  dsimp only
  have hpos : 0 < m * 4503599627370496 := Nat.mul_pos hm (by decide)
  rw [nearest_rung, if_neg (by omega)]
  refine Nat.le_min.mpr ⟨le_rnd _ _ (by omega) ?_, hri⟩
  have e1 : (FloatKind.f64.format.leastPlace - (-1074 + (u : Int) + -51)).toNat = 51 - u := by rw [lp64]; omega
  have e2 : (-1074 + (u : Int) + -51 - FloatKind.f64.format.leastPlace).toNat = u - 51 := by rw [lp64]; omega
  rw [e1, e2, ← p2_eq, ← p2_eq]
  have h52 : 4503599627370496 = p2 52 := by decide
  rw [h52]
  generalize V FloatKind.f64.format r = v at hr
  by_cases hc : u ≤ 51
  · rw [show u - 51 = 0 by omega, show p2 0 = 1 from rfl, Nat.mul_one]
    have h3 : p2 52 = 2 * (p2 u * p2 (51 - u)) := by rw [← p2_add, show p2 52 = p2 51 * p2 1 from (p2_add 51 1), Nat.mul_comm, show u + (51 - u) = 51 by omega]; rfl
    have h5 : v * p2 (51 - u) ≤ 2 * (m * p2 u) * p2 (51 - u) := Nat.mul_le_mul_right _ hr
    rw [h3, Nat.mul_left_comm, ← Nat.mul_assoc m, ← Nat.mul_assoc 2]
    exact h5
  · rw [show 51 - u = 0 by omega, show p2 0 = 1 from rfl, Nat.mul_one]
    have h3 : 2 * p2 u = p2 52 * p2 (u - 51) := by rw [← p2_add, show 52 + (u - 51) = u + 1 by omega, p2_add, Nat.mul_comm]; rfl
    rw [Nat.mul_left_comm, h3, ← Nat.mul_assoc] at hr
    exact hr

def halv (Y : Nat) : Nat → Nat
  | 0 => Y
  | j + 1 => fop .quo .f64 (halv Y j) TWO
def doub (Z : Nat) : Nat → Nat
  | 0 => Z
  | j + 1 => fop .mul .f64 (doub Z j) TWO

/-- Above 0 and bounded. -/
structure Pos (x E : Nat) : Prop where
  bd : Bd x E
  nn : Nn x
  pos : 0 < V FloatKind.f64.format (rung FloatKind.f64.format x)

theorem c15_V : V FloatKind.f64.format C15 = 3 * p2 1073 := by decide +kernel
theorem c75_V : V FloatKind.f64.format C75 = 3 * p2 1072 := by decide +kernel

theorem Pos.ge15 {x E : Nat} (h : Pos x E) : fcmp .geq .f64 x C15 = decide (3 * p2 1073 ≤ V FloatKind.f64.format (rung FloatKind.f64.format x)) := by
  have hn := h.nn
  unfold Nn at hn
  rw [fcmp_geq .f64 h.bd.nan (by decide), show key FloatKind.f64.format C15 = (C15 : Int) by decide, ← c15_V, Bool.eq_iff_iff]
  simp only [decide_eq_true_eq]
  rw [V_le_iff]
  unfold key
  rw [hn]
  simp

theorem Pos.lt75 {x E : Nat} (h : Pos x E) : fcmp .lss .f64 x C75 = decide (V FloatKind.f64.format (rung FloatKind.f64.format x) < 3 * p2 1072) := by
  have hn := h.nn
  unfold Nn at hn
  rw [fcmp_lss .f64 h.bd.nan (by decide), show key FloatKind.f64.format C75 = (C75 : Int) by decide, ← c75_V, Bool.eq_iff_iff]
  simp only [decide_eq_true_eq]
  rw [V_lt_iff]
  unfold key
  rw [hn]
  simp

/-- A halving of what is 1.5 or more. -/
theorem Pos.half {x K : Nat} (h : Pos x (1074 + K + 1)) (hg : fcmp .geq .f64 x C15 = true) (hK : K < 1000) : Pos (fop .quo .f64 x TWO) (1074 + K) := by
  have hge := h.ge15
  rw [hg] at hge
  have hge' := of_decide_eq_true hge.symm
  obtain ⟨r, hr⟩ := pow_rung FloatKind.f64.format 1072
  have hri : r ≤ FloatKind.f64.format.infRung := by
    rw [← V_le_iff FloatKind.f64.format, ← top64, hr]
    exact p2_le (by decide)
  have h73 : p2 1073 = 2 * p2 1072 := p2_two 1072
  have hle := half_ge h.bd.1 h.pos (r := r) (by rw [hr]; omega) hri
  refine ⟨?_, ?_, ?_⟩
  · exact Bd.div h.bd.1 two_fin (by rw [two_V]; exact p2_pos _) (by
      refine Nat.le_trans h.bd.2 ?_
      rw [two_V, ← p2_add]
      exact p2_le (by omega)) (by omega)
  · unfold Nn; rw [neg_quo_two h.bd.1]; exact h.nn
  · have := V_le FloatKind.f64.format hle
    rw [hr] at this
    have := p2_pos 1072
    omega

/-- A doubling of what is less than 0.75. -/
theorem Pos.twice {x E : Nat} (h : Pos x E) (hl : fcmp .lss .f64 x C75 = true) : Pos (fop .mul .f64 x TWO) 1075 ∧ 2 * V FloatKind.f64.format (rung FloatKind.f64.format x) ≤ V FloatKind.f64.format (rung FloatKind.f64.format (fop .mul .f64 x TWO)) := by
  have hlt := h.lt75
  rw [hl] at hlt
  have hlt' := of_decide_eq_true hlt.symm
  have h74 : p2 1074 = 4 * p2 1072 := p2_four 1072
  have hb : Bd x 1074 := ⟨h.bd.1, by omega⟩
  obtain ⟨r, hr⟩ := exact_rung FloatKind.f64.format (mag FloatKind.f64.format (rung FloatKind.f64.format x)) (up FloatKind.f64.format (rung FloatKind.f64.format x) + 1) (mag_log2 _ _)
  have hr2 : V FloatKind.f64.format r = 2 * V FloatKind.f64.format (rung FloatKind.f64.format x) := by
    rw [hr, Nat.pow_succ, ← Nat.mul_assoc, Nat.mul_comm _ 2]; rfl
  have hri : r ≤ FloatKind.f64.format.infRung := by
    rw [← V_le_iff FloatKind.f64.format, ← top64, hr2]
    have h1 : p2 1075 = 2 * p2 1074 := p2_two 1074
    have h2 := p2_le (a := 1075) (b := 2098) (by decide)
    have := hb.2
    omega
  have hle := V_le FloatKind.f64.format (twice_ge h.bd.1 h.pos (r := r) (by omega) hri)
  rw [hr2] at hle
  refine ⟨⟨hb.mul two_bd (by decide) (by decide), ?_, ?_⟩, hle⟩
  · unfold Nn; rw [neg_mul_two h.bd.1]; exact h.nn
  · have := h.pos; omega

end Go.Fl
