/-
  Sums and products with zeros; absolute values; no line has a matrix of zeros.
-/
import Derived.Test.YtpnmledanloboaaNwF
import Derived.Test.YtpnmledanloboaaLma
namespace Go.Proofs.Ytpnmledanloboaa
open Go.Fl Go.RowKit Ieee
set_option linter.unusedSimpArgs false
set_option linter.unusedVariables false

abbrev r32 (x : Nat) : Nat := rung FloatKind.f32.format x
theorem nan_r (x : Nat) : nan .f32 x = decide (FloatKind.f32.format.infRung < r32 x) := rfl
theorem num_of_zero {x : Nat} (h : r32 x = 0) : nan .f32 x = false := by rw [nan_r, h]; decide
theorem rung_qn : r32 (qn .f32) ≠ 0 := by decide
theorem rung_nan {x : Nat} (h : nan .f32 x = true) : r32 x ≠ 0 := fun e => by rw [num_of_zero e] at h; cases h
theorem fop_nan_l (op : BinOp) {x : Nat} (y : Nat) (h : nan .f32 x = true) : nan .f32 (fop op .f32 x y) = true := by unfold fop; rw [fb_nan_left op .f32 y h]; exact nan_qn _
theorem fop_nan_r (op : BinOp) (x : Nat) {y : Nat} (h : nan .f32 y = true) : nan .f32 (fop op .f32 x y) = true := by unfold fop; rw [fb_nan_right op .f32 x h]; exact nan_qn _
theorem read_zero {x : Nat} (h : r32 x = 0) : FloatKind.f32.format.read x = .number (neg FloatKind.f32.format x) 0 FloatKind.f32.format.leastPlace := by
  have h' : rung FloatKind.f32.format x = 0 := h
  rw [read_eq _ (eb _), if_pos (by rw [h']; decide), h']
  rfl
theorem read_fin {x : Nat} (h : r32 x < FloatKind.f32.format.infRung) : FloatKind.f32.format.read x = .number (neg FloatKind.f32.format x) (mag FloatKind.f32.format (r32 x)) (FloatKind.f32.format.leastPlace + (up FloatKind.f32.format (r32 x) : Int)) := by
  rw [read_eq _ (eb _), if_pos h]
theorem read_inf {x : Nat} (h : r32 x = FloatKind.f32.format.infRung) : FloatKind.f32.format.read x = .infinity (neg FloatKind.f32.format x) := by
  have h' : rung FloatKind.f32.format x = FloatKind.f32.format.infRung := h
  rw [read_eq _ (eb _), if_neg (by omega), if_pos h']
theorem fin_or_inf {x : Nat} (h : nan .f32 x = false) : r32 x < FloatKind.f32.format.infRung ∨ r32 x = FloatKind.f32.format.infRung := by
  rw [nan_r] at h
  have := of_decide_eq_false h
  omega
theorem signed_zero (s : Bool) (n : Nat) : signed s 0 n = 0 := by unfold signed; cases s <;> simp
theorem signed_abs9 (s : Bool) (m n : Nat) : (signed s m n).natAbs = m * 2 ^ n := by
  unfold signed
  cases s
  · show ((m <<< n : Nat) : Int).natAbs = _
    rw [Int.natAbs_natCast, Nat.shiftLeft_eq]
  · show (-((m <<< n : Nat) : Int)).natAbs = _
    rw [Int.natAbs_neg, Int.natAbs_natCast, Nat.shiftLeft_eq]
theorem near_same (s : Bool) {m p : Nat} {r : Nat} (hr : r ≤ FloatKind.f32.format.infRung) (h : V FloatKind.f32.format r = m * 2 ^ p) : r32 (FloatKind.f32.format.nearest s (m * 2 ^ p) FloatKind.f32.format.leastPlace) = r := by
  refine rung_of_V _ s ?_ hr
  simp [h]
theorem write_inf (s : Bool) : r32 (FloatKind.f32.format.write (.infinity s)) = FloatKind.f32.format.infRung := by
  show r32 (FloatKind.f32.format.word s FloatKind.f32.format.infRung) = _
  exact rung_word _ _ (infRung_lt _)
/-- A zero is added. -/
theorem add_zl {x y : Nat} (hx : r32 x = 0) (hy : nan .f32 y = false) : r32 (fop .add .f32 x y) = r32 y := by
  unfold fop floatBits Format.add
  dsimp only
  rw [read_zero hx]
  rcases fin_or_inf hy with h | h
  · rw [read_fin h]
    unfold Datum.sum
    dsimp only [Option.map_some]
    unfold Format.write
    dsimp only
    have e1 : min FloatKind.f32.format.leastPlace (FloatKind.f32.format.leastPlace + (up FloatKind.f32.format (r32 y) : Int)) = FloatKind.f32.format.leastPlace := by omega
    have e2 : (FloatKind.f32.format.leastPlace + (up FloatKind.f32.format (r32 y) : Int) - FloatKind.f32.format.leastPlace).toNat = up FloatKind.f32.format (r32 y) := by omega
    rw [e1, e2, signed_zero, Int.zero_add, signed_abs9]
    exact near_same _ (Nat.le_of_lt h) rfl
  · rw [read_inf h]
    unfold Datum.sum
    dsimp only [Option.map_some]
    rw [write_inf, h]
theorem add_zr {x y : Nat} (hx : nan .f32 x = false) (hy : r32 y = 0) : r32 (fop .add .f32 x y) = r32 x := by
  unfold fop floatBits Format.add
  dsimp only
  rw [read_zero hy]
  rcases fin_or_inf hx with h | h
  · rw [read_fin h]
    unfold Datum.sum
    dsimp only [Option.map_some]
    unfold Format.write
    dsimp only
    have e1 : min (FloatKind.f32.format.leastPlace + (up FloatKind.f32.format (r32 x) : Int)) FloatKind.f32.format.leastPlace = FloatKind.f32.format.leastPlace := by omega
    have e2 : (FloatKind.f32.format.leastPlace + (up FloatKind.f32.format (r32 x) : Int) - FloatKind.f32.format.leastPlace).toNat = up FloatKind.f32.format (r32 x) := by omega
    rw [e1, e2, signed_zero, Int.add_zero, signed_abs9]
    exact near_same _ (Nat.le_of_lt h) rfl
  · rw [read_inf h]
    unfold Datum.sum
    dsimp only [Option.map_some]
    rw [write_inf, h]
theorem near_zero (s : Bool) (p : Int) : r32 (FloatKind.f32.format.nearest s 0 p) = 0 := by rw [show r32 _ = _ from nearest_rung _ _ _ _, if_pos rfl]
theorem mul_zl {x : Nat} (y : Nat) (hx : r32 x = 0) : r32 (fop .mul .f32 x y) = 0 ∨ nan .f32 (fop .mul .f32 x y) = true := by
  cases hy : nan .f32 y with
  | true => exact .inr (fop_nan_r _ _ hy)
  | false =>
    unfold fop floatBits Format.mul
    dsimp only
    rw [read_zero hx]
    rcases fin_or_inf hy with h | h
    · rw [read_fin h]
      left
      unfold Datum.product
      dsimp only [Option.map_some]
      unfold Format.write
      dsimp only
      rw [Nat.zero_mul]
      exact near_zero _ _
    · rw [read_inf h]
      right
      unfold Datum.product
      simp [nan_qn]
theorem mul_zr (x : Nat) {y : Nat} (hy : r32 y = 0) : r32 (fop .mul .f32 x y) = 0 ∨ nan .f32 (fop .mul .f32 x y) = true := by
  cases hx : nan .f32 x with
  | true => exact .inr (fop_nan_l _ _ hx)
  | false =>
    unfold fop floatBits Format.mul
    dsimp only
    rw [read_zero hy]
    rcases fin_or_inf hx with h | h
    · rw [read_fin h]
      left
      unfold Datum.product
      dsimp only [Option.map_some]
      unfold Format.write
      dsimp only
      rw [Nat.mul_zero]
      exact near_zero _ _
    · rw [read_inf h]
      right
      unfold Datum.product
      simp [nan_qn]
theorem read_one : FloatKind.f32.format.read 1065353216 = .number false 8388608 (-23) := by decide +kernel
theorem mul_one9 {y : Nat} (hy : nan .f32 y = false) : r32 (fop .mul .f32 1065353216 y) = r32 y := by
  unfold fop floatBits Format.mul
  dsimp only
  rw [read_one]
  rcases fin_or_inf hy with h | h
  · rw [read_fin h]
    unfold Datum.product
    dsimp only [Option.map_some]
    unfold Format.write
    dsimp only
    refine rung_of_V _ _ ?_ (Nat.le_of_lt h)
    have e : FloatKind.f32.format.leastPlace = -149 := by decide
    rw [e]
    have hV : V FloatKind.f32.format (r32 y) = mag FloatKind.f32.format (r32 y) * 2 ^ up FloatKind.f32.format (r32 y) := rfl
    rw [hV]
    generalize mag FloatKind.f32.format (r32 y) = m
    generalize up FloatKind.f32.format (r32 y) = u
    by_cases hu : 23 ≤ u
    · have e1 : (-149 - (-23 + (-149 + (u : Int)))).toNat = 0 := by omega
      have e2 : (-23 + (-149 + (u : Int)) - -149).toNat = u - 23 := by omega
      rw [e1, e2, Nat.pow_zero, Nat.mul_one, show u = 23 + (u - 23) by omega, Nat.pow_add, show 23 + (u - 23) - 23 = u - 23 by omega, show 8388608 = 2 ^ 23 from rfl]
      rw [Nat.mul_comm (2 ^ 23) m, Nat.mul_assoc]
    · have e1 : (-149 - (-23 + (-149 + (u : Int)))).toNat = 23 - u := by omega
      have e2 : (-23 + (-149 + (u : Int)) - -149).toNat = 0 := by omega
      rw [e1, e2, Nat.pow_zero, Nat.mul_one, Nat.mul_assoc, ← Nat.pow_add, show u + (23 - u) = 23 by omega, Nat.mul_comm]
  · rw [read_inf h]
    unfold Datum.product
    dsimp only
    rw [if_neg (by decide), Option.map_some]
    dsimp only
    rw [write_inf, h]
/-- A zero beside the number itself: the number is zero. -/
theorem two_l {p x y : Nat} (hz : r32 p = 0 ∨ r32 x = 0) (h : r32 (fop .add .f32 (fop .mul .f32 p x) (fop .mul .f32 1065353216 y)) = 0) : r32 y = 0 := by
  have h1 : r32 (fop .mul .f32 p x) = 0 ∨ nan .f32 (fop .mul .f32 p x) = true := by rcases hz with hz | hz; exact mul_zl _ hz; exact mul_zr _ hz
  rcases h1 with h1 | h1
  · cases h2 : nan .f32 (fop .mul .f32 1065353216 y) with
    | true => exact absurd h (rung_nan (fop_nan_r _ _ h2))
    | false =>
      rw [add_zl h1 h2] at h
      cases h3 : nan .f32 y with
      | true => rw [fop_nan_r _ _ h3] at h2; cases h2
      | false => rwa [mul_one9 h3] at h
  · exact absurd h (rung_nan (fop_nan_l _ _ h1))
theorem two_r {x q y : Nat} (hz : r32 q = 0 ∨ r32 y = 0) (h : r32 (fop .add .f32 (fop .mul .f32 1065353216 x) (fop .mul .f32 q y)) = 0) : r32 x = 0 := by
  have h1 : r32 (fop .mul .f32 q y) = 0 ∨ nan .f32 (fop .mul .f32 q y) = true := by rcases hz with hz | hz; exact mul_zl _ hz; exact mul_zr _ hz
  rcases h1 with h1 | h1
  · cases h2 : nan .f32 (fop .mul .f32 1065353216 x) with
    | true => exact absurd h (rung_nan (fop_nan_l _ _ h2))
    | false =>
      rw [add_zr h2 h1] at h
      cases h3 : nan .f32 x with
      | true => rw [fop_nan_r _ _ h3] at h2; cases h2
      | false => rwa [mul_one9 h3] at h
  · exact absurd h (rung_nan (fop_nan_r _ _ h1))
def allZ (m : Nat → Nat) : Prop := r32 (m 0) = 0 ∧ r32 (m 1) = 0 ∧ r32 (m 2) = 0 ∧ r32 (m 3) = 0
theorem r32_nil : r32 0 = 0 := by decide
theorem times_z {t : El} {n : Nat → Nat} (h : allZ (timesF (matP t) n)) : allZ n := by
  obtain ⟨h0, h1, h2, h3⟩ := h
  by_cases e0 : t.k = 0
  · have m0 : matP t 0 = 1065353216 := by unfold matP; rw [if_pos e0]; rfl
    have m2 : matP t 2 = 0 := by unfold matP; rw [if_pos e0]; rfl
    have m3 : matP t 3 = 1065353216 := by unfold matP; rw [if_pos e0]; rfl
    simp only [timesF, m0, m2, m3, reduceIte] at h0 h1 h2 h3
    have z2 : r32 (n 2) = 0 := two_l (.inl r32_nil) h2
    have z3 : r32 (n 3) = 0 := two_l (.inl r32_nil) h3
    exact ⟨two_r (.inr z2) h0, two_r (.inr z3) h1, z2, z3⟩
  · by_cases e1 : t.k = 1
    · have m0 : matP t 0 = 1065353216 := by unfold matP; rw [if_neg e0, if_pos e1]; rfl
      have m1 : matP t 1 = 0 := by unfold matP; rw [if_neg e0, if_pos e1]; rfl
      have m3 : matP t 3 = 1065353216 := by unfold matP; rw [if_neg e0, if_pos e1]; rfl
      simp only [timesF, m0, m1, m3, reduceIte] at h0 h1 h2 h3
      have z0 : r32 (n 0) = 0 := two_r (.inl r32_nil) h0
      have z1 : r32 (n 1) = 0 := two_r (.inl r32_nil) h1
      exact ⟨z0, z1, two_l (.inr z0) h2, two_l (.inr z1) h3⟩
    · have m0 : matP t 0 = 1065353216 := by unfold matP; rw [if_neg e0, if_neg e1]; rfl
      have m1 : matP t 1 = 0 := by unfold matP; rw [if_neg e0, if_neg e1]; rfl
      have m2 : matP t 2 = 0 := by unfold matP; rw [if_neg e0, if_neg e1]; rfl
      have m3 : matP t 3 = 1065353216 := by unfold matP; rw [if_neg e0, if_neg e1]; rfl
      simp only [timesF, m0, m1, m2, m3, reduceIte] at h0 h1 h2 h3
      exact ⟨two_r (.inl r32_nil) h0, two_r (.inl r32_nil) h1, two_l (.inl r32_nil) h2, two_l (.inl r32_nil) h3⟩
theorem line_nz (ts : List El) : ∀ k, ¬ allZ (lineM ts k)
  | 0 => by intro h; exact absurd h.1 (by show r32 (idF 0) ≠ 0; decide)
  | k + 1 => fun h => line_nz ts k (times_z h)
end Go.Proofs.Ytpnmledanloboaa
