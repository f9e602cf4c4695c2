/-
  The rounding of 32-bit operations, graded: a result of at most 2 to the power of g+24 units is off by at most 2 to the power of g units (units of 2 to the power of -149).
-/
import Derived.Test.YtpnmledanloboaaSb1
set_option linter.unusedSimpArgs false
set_option linter.unusedVariables false
namespace Go.Fl
open Ieee

theorem grid32 (g n : Nat) (h : n ≤ p2 24) : ∃ r, V FloatKind.f32.format r = n * p2 g := by
  by_cases e : n = p2 24
  · obtain ⟨r, hr⟩ := mul_rung FloatKind.f32.format 1 (24 + g) (by decide)
    exact ⟨r, by rw [hr, e, Nat.one_mul, p2_add]⟩
  · refine mul_rung FloatKind.f32.format n g ?_
    rcases Nat.eq_zero_or_pos n with hz | hz
    · rw [hz]; decide
    · have := (Nat.log2_lt (k := 24) (by omega : n ≠ 0)).2 (by rw [← p2_eq]; omega)
      show _ ≤ 23
      omega
theorem near32 (s : Bool) {m : Nat} {p : Int} {A B : Nat} (g : Nat) (hg : g + 24 < 277) (hA : A = m * 2 ^ (p + 149).toNat) (hB : B = 2 ^ (-149 - p).toNat) (h : A ≤ p2 (g + 24) * B) :
    rung FloatKind.f32.format (FloatKind.f32.format.nearest s m p) < FloatKind.f32.format.infRung ∧
    V FloatKind.f32.format (rung FloatKind.f32.format (FloatKind.f32.format.nearest s m p)) * B ≤ A + p2 g * B ∧
    A ≤ V FloatKind.f32.format (rung FloatKind.f32.format (FloatKind.f32.format.nearest s m p)) * B + p2 g * B ∧
    V FloatKind.f32.format (rung FloatKind.f32.format (FloatKind.f32.format.nearest s m p)) ≤ p2 (g + 24) := by
  have hBp : 0 < B := by rw [hB]; exact Nat.two_pow_pos _
  have hGp : 0 < p2 g := p2_pos _
  rw [nearest_rung]
  by_cases h0 : m = 0
  · rw [if_pos h0, V_zero]
    subst h0
    exact ⟨by decide, by rw [Nat.zero_mul]; exact Nat.zero_le _, by rw [hA, Nat.zero_mul]; exact Nat.zero_le _, Nat.zero_le _⟩
  rw [if_neg h0]
  have e76 : p2 (g + 24) = p2 24 * p2 g := by rw [← p2_add, Nat.add_comm]
  have hGB : 0 < p2 g * B := Nat.mul_pos hGp hBp
  obtain ⟨q, hq⟩ : ∃ q, q = A / (p2 g * B) := ⟨_, rfl⟩
  have hq1 : q * (p2 g * B) ≤ A := by rw [hq]; exact Nat.div_mul_le_self _ _
  have hq2 : A < (q + 1) * (p2 g * B) := by rw [hq]; exact Nat.lt_mul_of_div_lt (Nat.lt_succ_self _) hGB
  have hqs : q ≤ p2 24 := by
    rw [e76, Nat.mul_assoc] at h
    exact Nat.le_of_mul_le_mul_right (Nat.le_trans hq1 h) hGB
  -- the grid's number that is not below
  obtain ⟨z, hz1, hz2, hz3⟩ : ∃ z, z ≤ p2 24 ∧ A ≤ z * (p2 g * B) ∧ z ≤ q + 1 := by
    by_cases e : q = p2 24
    · refine ⟨q, hqs, ?_, Nat.le_succ _⟩
      rw [e76, Nat.mul_assoc, ← e] at h
      exact h
    · exact ⟨q + 1, by omega, Nat.le_of_lt hq2, Nat.le_refl _⟩
  obtain ⟨r1, e1⟩ := grid32 g q hqs
  obtain ⟨r2, e2⟩ := grid32 g z hz1
  have k1 : r1 ≤ rnd FloatKind.f32.format s m p := le_rnd _ s h0 (by
    rw [lp32, show p - (-149) = p + 149 by omega, ← hA, ← hB, e1, Nat.mul_assoc]
    exact hq1)
  have k2 : rnd FloatKind.f32.format s m p ≤ r2 := rnd_le _ s h0 (by
    rw [lp32, show p - (-149) = p + 149 by omega, ← hA, ← hB, e2, Nat.mul_assoc]
    exact hz2)
  have hV2 : V FloatKind.f32.format r2 ≤ p2 (g + 24) := by rw [e2, e76]; exact Nat.mul_le_mul_right _ hz1
  have hr2 : r2 < FloatKind.f32.format.infRung := by
    rw [← V_lt_iff FloatKind.f32.format, top32]
    exact Nat.lt_of_le_of_lt hV2 (p2_lt hg)
  rw [Nat.min_eq_left (by omega)]
  have v1 := V_le FloatKind.f32.format k1
  have v2 := V_le FloatKind.f32.format k2
  have v3 := Nat.le_trans v2 hV2
  rw [e1] at v1; rw [e2] at v2
  generalize V FloatKind.f32.format (rnd FloatKind.f32.format s m p) = W at *
  refine ⟨by omega, ?_, ?_, v3⟩
  · have j1 := Nat.mul_le_mul_right B v2
    have j2 := Nat.mul_le_mul_right (p2 g * B) hz3
    rw [Nat.mul_assoc] at j1
    rw [Nat.add_mul, Nat.one_mul] at j2
    omega
  · have := Nat.mul_le_mul_right B v1
    rw [Nat.mul_assoc] at this
    rw [Nat.add_mul, Nat.one_mul] at hq2
    omega

theorem read32 {x : Nat} (h : rung FloatKind.f32.format x < FloatKind.f32.format.infRung) : ∃ (m u : Nat), FloatKind.f32.format.read x = .number (neg FloatKind.f32.format x) m (-149 + (u : Int)) ∧ m * 2 ^ u = V FloatKind.f32.format (rung FloatKind.f32.format x) := by
  have e := read_eq FloatKind.f32.format (eb _) x
  rw [if_pos h, lp32] at e
  exact ⟨_, _, e, rfl⟩

theorem scale_le {A B P T H : Nat} (hB : 0 < B) (hT : 0 < T) (key : A * T = P * B) (h : P ≤ H * T) : A ≤ H * B := by
  have h2 : P * B ≤ H * T * B := Nat.mul_le_mul_right B h
  rw [← key, Nat.mul_right_comm] at h2
  exact Nat.le_of_mul_le_mul_right h2 hT
theorem rmul32 {x y : Nat} (g : Nat) (hg : g + 24 < 277) (hx : rung FloatKind.f32.format x < FloatKind.f32.format.infRung) (hy : rung FloatKind.f32.format y < FloatKind.f32.format.infRung)
    (h : (sv FloatKind.f32.format x * sv FloatKind.f32.format y).natAbs ≤ p2 (g + 24) * p2 149) :
    rung FloatKind.f32.format (fop .mul .f32 x y) < FloatKind.f32.format.infRung ∧
    (sv FloatKind.f32.format (fop .mul .f32 x y) * (p2 149 : Nat) - sv FloatKind.f32.format x * sv FloatKind.f32.format y).natAbs ≤ p2 g * p2 149 ∧
    neg FloatKind.f32.format (fop .mul .f32 x y) = (neg FloatKind.f32.format x ^^ neg FloatKind.f32.format y) ∧ V FloatKind.f32.format (rung FloatKind.f32.format (fop .mul .f32 x y)) ≤ p2 (g + 24) := by
  obtain ⟨m, u, e1, h1⟩ := read32 hx
  obtain ⟨n, v, e2, h2⟩ := read32 hy
  have hsx := sv_abs FloatKind.f32.format x
  have hsy := sv_abs FloatKind.f32.format y
  rw [Int.natAbs_mul, hsx, hsy, ← h1, ← h2] at h
  have er : fop .mul .f32 x y = FloatKind.f32.format.nearest (neg FloatKind.f32.format x ^^ neg FloatKind.f32.format y) (m * n) (-149 + (u : Int) + (-149 + (v : Int))) := by
    unfold fop floatBits Format.mul
    rw [e1, e2]
    rfl
  have hpow : m * 2 ^ u * (n * 2 ^ v) = m * n * 2 ^ (u + v) := by rw [Nat.pow_add]; simp [Nat.mul_left_comm, Nat.mul_assoc]
  obtain ⟨A, hA⟩ : ∃ A, A = m * n * 2 ^ (-149 + (u : Int) + (-149 + (v : Int)) + 149).toNat := ⟨_, rfl⟩
  obtain ⟨B, hB⟩ : ∃ B, B = 2 ^ (-149 - (-149 + (u : Int) + (-149 + (v : Int)))).toNat := ⟨_, rfl⟩
  have key : A * p2 149 = m * 2 ^ u * (n * 2 ^ v) * B := by
    rw [hpow, hA, hB, Nat.mul_assoc (m * n), Nat.mul_assoc (m * n), ← p2_eq, ← p2_eq, ← p2_eq, ← p2_add, ← p2_add]
    exact congrArg (m * n * p2 ·) (by omega)
  have hBp : 0 < B := by rw [hB]; exact Nat.two_pow_pos _
  have hn := near32 (neg FloatKind.f32.format x ^^ neg FloatKind.f32.format y) g hg hA hB (scale_le hBp (p2_pos _) key h)
  have hneg := nearest_neg FloatKind.f32.format (neg FloatKind.f32.format x ^^ neg FloatKind.f32.format y) (m * n) (-149 + (u : Int) + (-149 + (v : Int)))
  rw [← er] at hn hneg
  refine ⟨hn.1, ?_, hneg, hn.2.2.2⟩
  obtain ⟨_, n1, n2, _⟩ := hn
  unfold sv
  rw [hneg, ← h1, ← h2]
  exact sv_prod (scale_up hBp key n1) (scale_dn hBp key n2)

theorem rsub32 {x y : Nat} (g : Nat) (hg : g + 24 < 277) (hx : rung FloatKind.f32.format x < FloatKind.f32.format.infRung) (hy : rung FloatKind.f32.format y < FloatKind.f32.format.infRung)
    (h : (sv FloatKind.f32.format x - sv FloatKind.f32.format y).natAbs ≤ p2 (g + 24)) :
    rung FloatKind.f32.format (fop .sub .f32 x y) < FloatKind.f32.format.infRung ∧
    (sv FloatKind.f32.format (fop .sub .f32 x y) - (sv FloatKind.f32.format x - sv FloatKind.f32.format y)).natAbs ≤ p2 g ∧ V FloatKind.f32.format (rung FloatKind.f32.format (fop .sub .f32 x y)) ≤ p2 (g + 24) := by
  obtain ⟨m, u, e1, h1⟩ := read32 hx
  obtain ⟨n, v, e2, h2⟩ := read32 hy
  have k1 : sv FloatKind.f32.format x = signed (neg FloatKind.f32.format x) m u := by unfold sv signed; rw [Nat.shiftLeft_eq, h1]
  have k2 : -sv FloatKind.f32.format y = signed (!neg FloatKind.f32.format y) n v := by
    unfold sv signed; rw [Nat.shiftLeft_eq, h2]
    cases neg FloatKind.f32.format y <;> simp
  rw [show sv FloatKind.f32.format x - sv FloatKind.f32.format y = sv FloatKind.f32.format x + -sv FloatKind.f32.format y from Int.sub_eq_add_neg .., k1, k2] at h ⊢
  have e3 : (min (-149 + (u : Int)) (-149 + (v : Int)) + 149).toNat = min u v := by omega
  have e4 : (-149 - min (-149 + (u : Int)) (-149 + (v : Int))).toNat = 0 := by omega
  have f1 : ((-149 : Int) + (u : Int) - min (-149 + (u : Int)) (-149 + (v : Int))).toNat = u - min u v := by omega
  have f2 : ((-149 : Int) + (v : Int) - min (-149 + (u : Int)) (-149 + (v : Int))).toNat = v - min u v := by omega
  generalize hq : signed (neg FloatKind.f32.format x) m (u - min u v) + signed (!neg FloatKind.f32.format y) n (v - min u v) = q
  have hqE : signed (neg FloatKind.f32.format x) m u + signed (!neg FloatKind.f32.format y) n v = q * 2 ^ (min u v) := by
    rw [← hq, Int.add_mul, ← signed_up, ← signed_up, show u - min u v + min u v = u by omega, show v - min u v + min u v = v by omega]
  rw [hqE] at h ⊢
  have er : fop .sub .f32 x y = FloatKind.f32.format.nearest (if q = 0 then neg FloatKind.f32.format x && !neg FloatKind.f32.format y else decide (q < 0)) q.natAbs (min (-149 + (u : Int)) (-149 + (v : Int))) := by
    unfold fop floatBits Format.sub
    rw [e1, e2]
    unfold Datum.opposite Datum.sum
    dsimp only
    rw [f1, f2, hq]
    rfl
  have gq : q.natAbs * 2 ^ (min u v) = (q * 2 ^ (min u v)).natAbs := by rw [Int.natAbs_mul, Int.natAbs_pow]; rfl
  have hn := near32 (if q = 0 then neg FloatKind.f32.format x && !neg FloatKind.f32.format y else decide (q < 0)) g hg (m := q.natAbs) (p := min (-149 + (u : Int)) (-149 + (v : Int))) (A := (q * 2 ^ (min u v)).natAbs) (B := 1) (by rw [e3, gq]) (by rw [e4, Nat.pow_zero]) (by rw [Nat.mul_one]; exact h)
  have hneg := nearest_neg FloatKind.f32.format (if q = 0 then neg FloatKind.f32.format x && !neg FloatKind.f32.format y else decide (q < 0)) q.natAbs (min (-149 + (u : Int)) (-149 + (v : Int)))
  have hz : q = 0 → V FloatKind.f32.format (rung FloatKind.f32.format (fop .sub .f32 x y)) = 0 := by
    intro h0
    rw [er, nearest_rung, h0, if_pos (by rfl), V_zero]
  rw [← er] at hn hneg
  refine ⟨hn.1, ?_, hn.2.2.2⟩
  obtain ⟨_, n1, n2, _⟩ := hn
  rw [Nat.mul_one, Nat.mul_one] at n1 n2
  unfold sv
  rw [hneg]
  generalize V FloatKind.f32.format (rung FloatKind.f32.format (fop .sub .f32 x y)) = W at *
  generalize p2 g = G at n1 n2 ⊢
  have hp : (0 : Int) < 2 ^ (min u v) := Int.pow_pos (by omega)
  by_cases h0 : q = 0
  · rw [hz h0, h0]; simp
  rw [if_neg h0]
  by_cases hl : q < 0
  · rw [decide_eq_true hl]
    have : q * 2 ^ (min u v) < 0 := Int.mul_neg_of_neg_of_pos hl hp
    generalize q * 2 ^ (min u v) = Z at *
    simp only [if_true]
    omega
  · rw [decide_eq_false hl]
    have : 0 < q * 2 ^ (min u v) := Int.mul_pos (by omega) hp
    generalize q * 2 ^ (min u v) = Z at *
    simp only [Bool.false_eq_true, if_false]
    omega
theorem radd32 {x y : Nat} (g : Nat) (hg : g + 24 < 277) (hx : rung FloatKind.f32.format x < FloatKind.f32.format.infRung) (hy : rung FloatKind.f32.format y < FloatKind.f32.format.infRung)
    (h : (sv FloatKind.f32.format x + sv FloatKind.f32.format y).natAbs ≤ p2 (g + 24)) :
    rung FloatKind.f32.format (fop .add .f32 x y) < FloatKind.f32.format.infRung ∧
    (sv FloatKind.f32.format (fop .add .f32 x y) - (sv FloatKind.f32.format x + sv FloatKind.f32.format y)).natAbs ≤ p2 g ∧ V FloatKind.f32.format (rung FloatKind.f32.format (fop .add .f32 x y)) ≤ p2 (g + 24) := by
  obtain ⟨m, u, e1, h1⟩ := read32 hx
  obtain ⟨n, v, e2, h2⟩ := read32 hy
  have k1 : sv FloatKind.f32.format x = signed (neg FloatKind.f32.format x) m u := by unfold sv signed; rw [Nat.shiftLeft_eq, h1]
  have k2 : sv FloatKind.f32.format y = signed (neg FloatKind.f32.format y) n v := by unfold sv signed; rw [Nat.shiftLeft_eq, h2]
  rw [k1, k2] at h ⊢
  have e3 : (min (-149 + (u : Int)) (-149 + (v : Int)) + 149).toNat = min u v := by omega
  have e4 : (-149 - min (-149 + (u : Int)) (-149 + (v : Int))).toNat = 0 := by omega
  have f1 : ((-149 : Int) + (u : Int) - min (-149 + (u : Int)) (-149 + (v : Int))).toNat = u - min u v := by omega
  have f2 : ((-149 : Int) + (v : Int) - min (-149 + (u : Int)) (-149 + (v : Int))).toNat = v - min u v := by omega
  generalize hq : signed (neg FloatKind.f32.format x) m (u - min u v) + signed (neg FloatKind.f32.format y) n (v - min u v) = q
  have hqE : signed (neg FloatKind.f32.format x) m u + signed (neg FloatKind.f32.format y) n v = q * 2 ^ (min u v) := by
    rw [← hq, Int.add_mul, ← signed_up, ← signed_up, show u - min u v + min u v = u by omega, show v - min u v + min u v = v by omega]
  rw [hqE] at h ⊢
  have er : fop .add .f32 x y = FloatKind.f32.format.nearest (if q = 0 then neg FloatKind.f32.format x && neg FloatKind.f32.format y else decide (q < 0)) q.natAbs (min (-149 + (u : Int)) (-149 + (v : Int))) := by
    unfold fop floatBits Format.add
    rw [e1, e2]
    unfold Datum.sum
    dsimp only
    rw [f1, f2, hq]
    rfl
  have gq : q.natAbs * 2 ^ (min u v) = (q * 2 ^ (min u v)).natAbs := by rw [Int.natAbs_mul, Int.natAbs_pow]; rfl
  have hn := near32 (if q = 0 then neg FloatKind.f32.format x && neg FloatKind.f32.format y else decide (q < 0)) g hg (m := q.natAbs) (p := min (-149 + (u : Int)) (-149 + (v : Int))) (A := (q * 2 ^ (min u v)).natAbs) (B := 1) (by rw [e3, gq]) (by rw [e4, Nat.pow_zero]) (by rw [Nat.mul_one]; exact h)
  have hneg := nearest_neg FloatKind.f32.format (if q = 0 then neg FloatKind.f32.format x && neg FloatKind.f32.format y else decide (q < 0)) q.natAbs (min (-149 + (u : Int)) (-149 + (v : Int)))
  have hz : q = 0 → V FloatKind.f32.format (rung FloatKind.f32.format (fop .add .f32 x y)) = 0 := by
    intro h0
    rw [er, nearest_rung, h0, if_pos (by rfl), V_zero]
  rw [← er] at hn hneg
  refine ⟨hn.1, ?_, hn.2.2.2⟩
  obtain ⟨_, n1, n2, _⟩ := hn
  rw [Nat.mul_one, Nat.mul_one] at n1 n2
  unfold sv
  rw [hneg]
  generalize V FloatKind.f32.format (rung FloatKind.f32.format (fop .add .f32 x y)) = W at *
  generalize p2 g = G at n1 n2 ⊢
  have hp : (0 : Int) < 2 ^ (min u v) := Int.pow_pos (by omega)
  by_cases h0 : q = 0
  · rw [hz h0, h0]; simp
  rw [if_neg h0]
  by_cases hl : q < 0
  · rw [decide_eq_true hl]
    have : q * 2 ^ (min u v) < 0 := Int.mul_neg_of_neg_of_pos hl hp
    generalize q * 2 ^ (min u v) = Z at *
    simp only [if_true]
    omega
  · rw [decide_eq_false hl]
    have : 0 < q * 2 ^ (min u v) := Int.mul_pos (by omega) hp
    generalize q * 2 ^ (min u v) = Z at *
    simp only [Bool.false_eq_true, if_false]
    omega

theorem quo_midY {A B a n v T D X Y G q : Nat} (hA : A = q * 2 ^ a) (hY : n * 2 ^ v = Y) (hX : X * B * T = 2 * D * (2 ^ a * 2 ^ v)) (ha : 2 ^ a ≤ G * B)
    (h1 : q * n ≤ 2 * D + n) (h2 : 2 * D ≤ q * n + n) : A * Y ≤ X * B * T + G * B * Y ∧ X * B * T ≤ A * Y + G * B * Y := by
  have e1 : A * Y = q * n * (2 ^ a * 2 ^ v) := by
    rw [hA, ← hY]; simp only [Nat.mul_assoc, Nat.mul_left_comm, Nat.mul_comm]
  have e2 : n * (2 ^ a * 2 ^ v) = 2 ^ a * Y := by rw [← hY]; simp only [Nat.mul_assoc, Nat.mul_left_comm, Nat.mul_comm]
  have e3 : 2 ^ a * Y ≤ G * B * Y := Nat.mul_le_mul_right _ ha
  have k1 := Nat.mul_le_mul_right (2 ^ a * 2 ^ v) h1
  have k2 := Nat.mul_le_mul_right (2 ^ a * 2 ^ v) h2
  rw [Nat.add_mul, ← hX, ← e1, e2] at k1 k2
  omega

theorem rquo32 {x y : Nat} (g : Nat) (hg : g + 24 < 277) (hx : rung FloatKind.f32.format x < FloatKind.f32.format.infRung) (hy : rung FloatKind.f32.format y < FloatKind.f32.format.infRung)
    (hy0 : 0 < V FloatKind.f32.format (rung FloatKind.f32.format y))
    (h : V FloatKind.f32.format (rung FloatKind.f32.format x) * p2 149 + p2 g * V FloatKind.f32.format (rung FloatKind.f32.format y) ≤ p2 (g + 24) * V FloatKind.f32.format (rung FloatKind.f32.format y)) :
    rung FloatKind.f32.format (fop .quo .f32 x y) < FloatKind.f32.format.infRung ∧
    (sv FloatKind.f32.format (fop .quo .f32 x y) * sv FloatKind.f32.format y - sv FloatKind.f32.format x * ((p2 149 : Nat) : Int)).natAbs ≤ 2 * (p2 g * V FloatKind.f32.format (rung FloatKind.f32.format y)) ∧
    V FloatKind.f32.format (rung FloatKind.f32.format (fop .quo .f32 x y)) ≤ p2 (g + 24) := by
  obtain ⟨m, u, e1, g1⟩ := read32 hx
  obtain ⟨n, v, e2, g2⟩ := read32 hy
  have hT : 0 < p2 149 := p2_pos _
  have hn0 : 0 < n := Nat.pos_of_ne_zero fun hz => by
    rw [hz, Nat.zero_mul] at g2
    omega
  have er : fop .quo .f32 x y = FloatKind.f32.format.nearest (neg FloatKind.f32.format x ^^ neg FloatKind.f32.format y) (2 * ((m <<< (FloatKind.f32.format.fractionBits + 2 + n.log2 - m.log2)) / n) + ((m <<< (FloatKind.f32.format.fractionBits + 2 + n.log2 - m.log2)) % n != 0).toNat)
      (-149 + (u : Int) - (-149 + (v : Int)) - ((FloatKind.f32.format.fractionBits + 2 + n.log2 - m.log2 : Nat) : Int) - 1) := by
    unfold fop floatBits Format.div
    rw [e1, e2]
    unfold Datum.quotient
    dsimp only
    rw [if_neg (by omega)]
    rfl
  have hneg := nearest_neg FloatKind.f32.format (neg FloatKind.f32.format x ^^ neg FloatKind.f32.format y) (2 * ((m <<< (FloatKind.f32.format.fractionBits + 2 + n.log2 - m.log2)) / n) + ((m <<< (FloatKind.f32.format.fractionBits + 2 + n.log2 - m.log2)) % n != 0).toNat)
      (-149 + (u : Int) - (-149 + (v : Int)) - ((FloatKind.f32.format.fractionBits + 2 + n.log2 - m.log2 : Nat) : Int) - 1)
  rw [← er] at hneg
  by_cases hm : m = 0
  · have hz : rung FloatKind.f32.format (fop .quo .f32 x y) = 0 := by
      rw [er, nearest_rung, hm, Nat.zero_shiftLeft, Nat.zero_div, Nat.zero_mod]; rfl
    have hzx : V FloatKind.f32.format (rung FloatKind.f32.format x) = 0 := by rw [← g1, hm, Nat.zero_mul]
    refine ⟨by rw [hz]; decide, ?_, by rw [hz, V_zero]; exact Nat.zero_le _⟩
    unfold sv
    rw [hz, hzx, V_zero]
    simp
  have hf := floor_two (D := m <<< (FloatKind.f32.format.fractionBits + 2 + n.log2 - m.log2)) hn0
  have hmore : 25 + n.log2 ≤ FloatKind.f32.format.fractionBits + 2 + n.log2 - m.log2 + m.log2 := by
    have : FloatKind.f32.format.fractionBits = 23 := rfl
    omega
  generalize FloatKind.f32.format.fractionBits + 2 + n.log2 - m.log2 = more at *
  rw [Nat.shiftLeft_eq] at hf er
  generalize 2 * (m * 2 ^ more / n) + (m * 2 ^ more % n != 0).toNat = q at *
  generalize hYY : V FloatKind.f32.format (rung FloatKind.f32.format y) = Y at *
  generalize hXX : V FloatKind.f32.format (rung FloatKind.f32.format x) = X at *
  have hlt0 : X * p2 149 ≤ p2 (g + 24) * Y := by omega
  have l1 : m.log2 + u + 149 < g + 24 + (n.log2 + 1 + v) := by
    have lA : p2 (m.log2 + u + 149) ≤ X * p2 149 := by
      rw [p2_add, p2_add, ← g1]
      exact Nat.mul_le_mul_right _ (by rw [← p2_eq]; exact Nat.mul_le_mul_right _ (Nat.log2_self_le hm))
    have lB : p2 (g + 24) * Y < p2 (g + 24 + (n.log2 + 1 + v)) := by
      rw [p2_add (g + 24)]
      refine Nat.mul_lt_mul_of_pos_left ?_ (p2_pos _)
      rw [← g2, p2_add, p2_eq v]; exact Nat.mul_lt_mul_of_pos_right Nat.lt_log2_self (Nat.two_pow_pos _)
    exact p2_inj_lt (Nat.lt_of_le_of_lt (Nat.le_trans lA hlt0) lB)
  obtain ⟨a, ha⟩ : ∃ a, a = (-149 + (u : Int) - (-149 + (v : Int)) - (more : Int) - 1 + 149).toNat := ⟨_, rfl⟩
  obtain ⟨b, hb⟩ : ∃ b, b = (-149 - (-149 + (u : Int) - (-149 + (v : Int)) - (more : Int) - 1)).toNat := ⟨_, rfl⟩
  have hab : a + v + more + 1 = b + u + 149 := by omega
  have hab2 : a ≤ g + b := by omega
  have hX : m * 2 ^ u * 2 ^ b * p2 149 = 2 * (m * 2 ^ more) * (2 ^ a * 2 ^ v) := by
    have e : p2 (u + b + 149) = p2 (1 + more + a + v) := congrArg p2 (by omega)
    rw [p2_add, p2_add, p2_add, p2_add, p2_add] at e
    rw [← p2_eq, ← p2_eq, ← p2_eq, ← p2_eq, ← p2_eq, show (2 : Nat) = p2 1 from rfl]
    generalize p2 149 = T at *
    generalize p2 1 = O at *
    calc m * p2 u * p2 b * T = m * (p2 u * p2 b * T) := by simp only [Nat.mul_assoc]
      _ = m * (O * p2 more * p2 a * p2 v) := by rw [e]
      _ = O * (m * p2 more) * (p2 a * p2 v) := by simp only [Nat.mul_assoc, Nat.mul_left_comm, Nat.mul_comm]
  have hGB : 2 ^ a ≤ p2 g * 2 ^ b := by rw [← p2_eq b, ← p2_add, ← p2_eq]; exact p2_le hab2
  obtain ⟨A, hA⟩ : ∃ A, A = q * 2 ^ a := ⟨_, rfl⟩
  obtain ⟨B, hB⟩ : ∃ B, B = 2 ^ b := ⟨_, rfl⟩
  have hBp : 0 < B := by rw [hB]; exact Nat.two_pow_pos _
  rw [← hB] at hX hGB
  rw [g1] at hX
  obtain ⟨k1, k2⟩ := quo_midY hA g2 hX hGB hf.1 hf.2
  have hle : A ≤ p2 (g + 24) * B := by
    refine Nat.le_of_mul_le_mul_right (c := Y) ?_ hy0
    have j := Nat.mul_le_mul_right B h
    rw [Nat.add_mul] at j
    have j1 : X * B * p2 149 = X * p2 149 * B := Nat.mul_right_comm ..
    have j2 : p2 g * B * Y = p2 g * Y * B := Nat.mul_right_comm ..
    have j3 : p2 (g + 24) * B * Y = p2 (g + 24) * Y * B := Nat.mul_right_comm ..
    omega
  have hn := near32 (neg FloatKind.f32.format x ^^ neg FloatKind.f32.format y) g hg (m := q) (p := -149 + (u : Int) - (-149 + (v : Int)) - (more : Int) - 1) (by rw [← ha]; exact hA) (by rw [← hb]; exact hB) hle
  rw [← er] at hn
  refine ⟨hn.1, ?_, hn.2.2.2⟩
  obtain ⟨_, n1, n2, _⟩ := hn
  unfold sv
  rw [hneg, hYY, hXX]
  generalize V FloatKind.f32.format (rung FloatKind.f32.format (fop .quo .f32 x y)) = W at *
  have w1 : W * Y ≤ X * p2 149 + 2 * (p2 g * Y) := by
    refine Nat.le_of_mul_le_mul_right (c := B) ?_ hBp
    have j := Nat.mul_le_mul_right Y n1
    rw [Nat.add_mul] at j
    have : (X * p2 149 + 2 * (p2 g * Y)) * B = X * B * p2 149 + 2 * (p2 g * B * Y) := by rw [Nat.add_mul, Nat.mul_assoc 2, Nat.mul_right_comm (p2 g), Nat.mul_right_comm X]
    rw [this, Nat.mul_right_comm]
    omega
  have w2 : X * p2 149 ≤ W * Y + 2 * (p2 g * Y) := by
    refine Nat.le_of_mul_le_mul_right (c := B) ?_ hBp
    have j := Nat.mul_le_mul_right Y n2
    rw [Nat.add_mul] at j
    have : (W * Y + 2 * (p2 g * Y)) * B = W * B * Y + 2 * (p2 g * B * Y) := by rw [Nat.add_mul, Nat.mul_assoc 2, Nat.mul_right_comm (p2 g), Nat.mul_right_comm W]
    rw [this, Nat.mul_right_comm X]
    omega
  have c1 : ((W * Y : Nat) : Int) = (W : Int) * (Y : Int) := Int.natCast_mul ..
  have c2 : ((X * p2 149 : Nat) : Int) = (X : Int) * ((p2 149 : Nat) : Int) := Int.natCast_mul ..
  generalize X * p2 149 = P at *
  generalize W * Y = Q at *
  generalize 2 * (p2 g * Y) = R at *
  cases neg FloatKind.f32.format x <;> cases neg FloatKind.f32.format y <;> simp only [Bool.xor_false, Bool.xor_true, Bool.not_true, Bool.not_false, if_true, if_false, Bool.false_eq_true, Int.neg_mul, Int.mul_neg, Int.neg_neg, ← c1, ← c2] <;> omega
end Go.Fl

namespace Go.Fl
open Ieee
/-- The fraction 2 to the power of k. -/
def P2 (k : Nat) : Rat := (((p2 k : Nat) : Int) : Rat)
/-- A finite 32-bit number is a. -/
def Rw (x : Nat) (a : Rat) : Prop := rung FloatKind.f32.format x < FloatKind.f32.format.infRung ∧ ((sv FloatKind.f32.format x : Int) : Rat) = a * P2 149
theorem P2_pos (k : Nat) : (0 : Rat) < P2 k := by
  have h : (0 : Int) < ((p2 k : Nat) : Int) := by have := p2_pos k; omega
  exact Rat.intCast_lt_intCast.2 h
theorem P2_add (a b : Nat) : P2 (a + b) = P2 a * P2 b := by unfold P2; rw [p2_add, Int.natCast_mul, Rat.intCast_mul]
theorem le_of_rat {z : Int} {n : Nat} (h1 : (z:Rat) ≤ ((n : Int) : Rat)) (h2 : -((n : Int):Rat) ≤ z) : z.natAbs ≤ n := by
  rw [← Rat.intCast_neg] at h2
  have h3 := Rat.intCast_le_intCast.1 h1
  have h4 := Rat.intCast_le_intCast.1 h2
  omega
theorem mul_up {x y T : Rat} (hT : 0 < T) (h : x ≤ y) : x * T ≤ y * T := Rat.mul_le_mul_of_nonneg_right h (Rat.le_of_lt hT)
theorem Rw.ex {x : Nat} (h : rung FloatKind.f32.format x < FloatKind.f32.format.infRung) : ∃ a, Rw x a := by
  have hT := P2_pos 149
  exact ⟨((sv FloatKind.f32.format x : Int) : Rat) / P2 149, h, by rw [Rat.div_mul_cancel]; intro h0; rw [h0] at hT; exact absurd hT (by decide)⟩
theorem Rw.out {x : Nat} {c H : Rat} {k : Nat} (hc : Rw x c) (hV : V FloatKind.f32.format (rung FloatKind.f32.format x) ≤ p2 (k + 125 + 24)) : c ≤ P2 k ∧ -P2 k ≤ c := by
  rw [← sv_abs, show k + 125 + 24 = k + 149 by omega] at hV
  have h := rat_of_int hV
  rw [show (((p2 (k + 149) : Nat) : Int) : Rat) = P2 k * P2 149 from P2_add k 149, hc.2] at h
  have hT := P2_pos 149
  refine ⟨mul_cancel hT h.1, mul_cancel hT ?_⟩
  have := h.2
  grind
theorem P2_split (k : Nat) : P2 k * P2 149 = P2 (k + 125) * 16777216 := by
  rw [← P2_add, show k + 149 = k + 125 + 24 by omega, P2_add]; rfl
theorem Rw.add {x y : Nat} {a b : Rat} (k : Nat) (hk : k < 100) (hx : Rw x a) (hy : Rw y b) (h1 : -P2 k ≤ a + b) (h2 : a + b ≤ P2 k) :
    ∃ c, Rw (fop .add .f32 x y) c ∧ (c ≤ a + b + P2 k / 16777216 ∧ a + b ≤ c + P2 k / 16777216) ∧ c ≤ P2 k ∧ -P2 k ≤ c := by
  have hT := P2_pos 149
  have hG := P2_split k
  have hF : (((p2 (k + 125 + 24) : Nat) : Int) : Rat) = P2 k * P2 149 := by
    rw [show k + 125 + 24 = k + 149 by omega]; exact P2_add k 149
  have hm := radd32 (k + 125) (by omega) hx.1 hy.1 (le_of_rat (by
      rw [hF, Rat.intCast_add, hx.2, hy.2]
      have := mul_up hT h2
      generalize P2 149 = T at *
      grind) (by
      rw [hF, Rat.intCast_add, hx.2, hy.2]
      have := mul_up hT h1
      generalize P2 149 = T at *
      grind))
  obtain ⟨c, hc⟩ := Rw.ex hm.1
  refine ⟨c, hc, ?_, hc.out (H := 0) hm.2.2⟩
  have hb := rat_of_int hm.2.1
  rw [Rat.intCast_sub, Rat.intCast_add, hc.2, hx.2, hy.2, show (((p2 (k + 125) : Nat) : Int) : Rat) = P2 (k + 125) from rfl] at hb
  clear hm hc hF hx hy h1 h2
  generalize P2 149 = T at *
  generalize P2 (k + 125) = G at *
  generalize P2 k = H at *
  refine ⟨mul_cancel hT ?_, mul_cancel hT ?_⟩ <;> grind
theorem Rw.sub {x y : Nat} {a b : Rat} (k : Nat) (hk : k < 100) (hx : Rw x a) (hy : Rw y b) (h1 : -P2 k ≤ a - b) (h2 : a - b ≤ P2 k) :
    ∃ c, Rw (fop .sub .f32 x y) c ∧ (c ≤ a - b + P2 k / 16777216 ∧ a - b ≤ c + P2 k / 16777216) ∧ c ≤ P2 k ∧ -P2 k ≤ c := by
  have hT := P2_pos 149
  have hG := P2_split k
  have hF : (((p2 (k + 125 + 24) : Nat) : Int) : Rat) = P2 k * P2 149 := by
    rw [show k + 125 + 24 = k + 149 by omega]; exact P2_add k 149
  have hm := rsub32 (k + 125) (by omega) hx.1 hy.1 (le_of_rat (by
      rw [hF, Rat.intCast_sub, hx.2, hy.2]
      have := mul_up hT h2
      generalize P2 149 = T at *
      grind) (by
      rw [hF, Rat.intCast_sub, hx.2, hy.2]
      have := mul_up hT h1
      generalize P2 149 = T at *
      grind))
  obtain ⟨c, hc⟩ := Rw.ex hm.1
  refine ⟨c, hc, ?_, hc.out (H := 0) hm.2.2⟩
  have hb := rat_of_int hm.2.1
  rw [Rat.intCast_sub, Rat.intCast_sub, hc.2, hx.2, hy.2, show (((p2 (k + 125) : Nat) : Int) : Rat) = P2 (k + 125) from rfl] at hb
  clear hm hc hF hx hy h1 h2
  generalize P2 149 = T at *
  generalize P2 (k + 125) = G at *
  generalize P2 k = H at *
  refine ⟨mul_cancel hT ?_, mul_cancel hT ?_⟩ <;> grind
theorem Rw.mul {x y : Nat} {a b : Rat} (k : Nat) (hk : k < 100) (hx : Rw x a) (hy : Rw y b) (h1 : -P2 k ≤ a * b) (h2 : a * b ≤ P2 k) :
    ∃ c, Rw (fop .mul .f32 x y) c ∧ (c ≤ a * b + P2 k / 16777216 ∧ a * b ≤ c + P2 k / 16777216) ∧ c ≤ P2 k ∧ -P2 k ≤ c := by
  have hT := P2_pos 149
  have hTT := Rat.mul_pos hT hT
  have hG := P2_split k
  have hF : (((p2 (k + 125 + 24) * p2 149 : Nat) : Int) : Rat) = P2 k * (P2 149 * P2 149) := by
    rw [show k + 125 + 24 = k + 149 by omega, Int.natCast_mul, Rat.intCast_mul, ← Rat.mul_assoc]; exact congrArg (· * P2 149) (P2_add k 149)
  have hm := rmul32 (k + 125) (by omega) hx.1 hy.1 (le_of_rat (by
      rw [hF, Rat.intCast_mul, hx.2, hy.2]
      have := mul_up hTT h2
      generalize P2 149 = T at *
      grind) (by
      rw [hF, Rat.intCast_mul, hx.2, hy.2]
      have := mul_up hTT h1
      generalize P2 149 = T at *
      grind))
  obtain ⟨c, hc⟩ := Rw.ex hm.1
  refine ⟨c, hc, ?_, hc.out (H := 0) hm.2.2.2⟩
  have hb := rat_of_int hm.2.1
  rw [Rat.intCast_sub, Rat.intCast_mul, Rat.intCast_mul, hc.2, hx.2, hy.2, Int.natCast_mul, Rat.intCast_mul, show (((p2 (k + 125) : Nat) : Int) : Rat) = P2 (k + 125) from rfl, show (((p2 149 : Nat) : Int) : Rat) = P2 149 from rfl] at hb
  have hG2 : P2 k * P2 149 * P2 149 = P2 (k + 125) * 16777216 * P2 149 := by rw [hG]
  clear hm hc hF hx hy h1 h2 hG
  generalize P2 149 = T at *
  generalize P2 (k + 125) = G at *
  generalize P2 k = H at *
  refine ⟨mul_cancel hTT ?_, mul_cancel hTT ?_⟩ <;> grind
theorem V_rat {y : Nat} {b B : Rat} (hy : Rw y b) (hB : 0 < B) (hb : b = B ∨ b = -B) : (((V FloatKind.f32.format (rung FloatKind.f32.format y) : Nat) : Int) : Rat) = B * P2 149 := by
  have hT := P2_pos 149
  have hBT := Rat.mul_pos hB hT
  have h2 := hy.2
  have hs := sv_abs FloatKind.f32.format y
  have h0 : (0 : Rat) ≤ (((V FloatKind.f32.format (rung FloatKind.f32.format y) : Nat) : Int) : Rat) := Rat.intCast_le_intCast.2 (Int.natCast_nonneg _)
  rw [← hs] at h0 ⊢
  rcases Int.natAbs_eq (sv FloatKind.f32.format y) with e | e
  · rw [← e]
    rw [← e] at h0
    rw [h2] at h0 ⊢
    rcases hb with rfl | rfl
    · rfl
    · generalize P2 149 = T at *; grind
  · have e2 : (((sv FloatKind.f32.format y).natAbs : Int) : Rat) = -(b * P2 149) := by
      rw [← h2, ← Rat.intCast_neg]; congr 1; omega
    rw [e2] at h0 ⊢
    rcases hb with rfl | rfl
    · generalize P2 149 = T at *; grind
    · generalize P2 149 = T at *; grind
theorem nat_of_rat {m n : Nat} (h : ((m : Int) : Rat) ≤ ((n : Int) : Rat)) : m ≤ n := by
  have := Rat.intCast_le_intCast.1 h
  omega
theorem Rw.quo {x y : Nat} {a b A B : Rat} (k : Nat) (hk : k < 100) (hx : Rw x a) (hy : Rw y b) (hB : 0 < B) (hb : b = B ∨ b = -B) (hA : a ≤ A ∧ -A ≤ a) (h : A + P2 k / 16777216 * B ≤ P2 k * B) :
    ∃ c, Rw (fop .quo .f32 x y) c ∧ (c * b ≤ a + P2 k / 8388608 * B ∧ a ≤ c * b + P2 k / 8388608 * B) ∧ c ≤ P2 k ∧ -P2 k ≤ c := by
  have hT := P2_pos 149
  have hTT := Rat.mul_pos hT hT
  have hG := P2_split k
  have hVy := V_rat hy hB hb
  have hVx : (((V FloatKind.f32.format (rung FloatKind.f32.format x) : Nat) : Int) : Rat) ≤ A * P2 149 := by
    rw [← sv_abs]
    have u1 := mul_up hT hA.1
    have u2 := mul_up hT hA.2
    have e := hx.2
    rcases Int.natAbs_eq (sv FloatKind.f32.format x) with q | q
    · rw [← q, e]; exact u1
    · have e2 : (((sv FloatKind.f32.format x).natAbs : Int) : Rat) = -(a * P2 149) := by
        rw [← e, ← Rat.intCast_neg]; congr 1; omega
      rw [e2]
      generalize P2 149 = T at *; grind
  have hF : (((p2 (k + 125 + 24) : Nat) : Int) : Rat) = P2 k * P2 149 := by
    rw [show k + 125 + 24 = k + 149 by omega]; exact P2_add k 149
  have hy0 : 0 < V FloatKind.f32.format (rung FloatKind.f32.format y) := by
    rcases Nat.eq_zero_or_pos (V FloatKind.f32.format (rung FloatKind.f32.format y)) with z | z
    · rw [z] at hVy
      have := Rat.mul_pos hB hT
      rw [← hVy] at this
      exact absurd this (by decide)
    · exact z
  have hm := rquo32 (k + 125) (by omega) hx.1 hy.1 hy0 (nat_of_rat (by
    rw [Int.natCast_add, Int.natCast_mul, Int.natCast_mul, Int.natCast_mul, Rat.intCast_add, Rat.intCast_mul, Rat.intCast_mul, Rat.intCast_mul, hVy, hF,
      show (((p2 (k + 125) : Nat) : Int) : Rat) = P2 (k + 125) from rfl, show (((p2 149 : Nat) : Int) : Rat) = P2 149 from rfl]
    have u := mul_up hTT h
    have v := mul_up hT hVx
    have hG2 : P2 k * P2 149 * (B * P2 149) = P2 (k + 125) * 16777216 * (B * P2 149) := by rw [hG]
    generalize P2 149 = T at *
    generalize P2 (k + 125) = G at *
    generalize P2 k = H at *
    generalize (((V FloatKind.f32.format (rung FloatKind.f32.format x) : Nat) : Int) : Rat) = X at *
    clear hVy hx hy hF hG
    grind))
  obtain ⟨c, hc⟩ := Rw.ex hm.1
  refine ⟨c, hc, ?_, hc.out (H := 0) hm.2.2⟩
  have hb2 := rat_of_int hm.2.1
  rw [Rat.intCast_sub, Rat.intCast_mul, Rat.intCast_mul, hc.2, hx.2, hy.2, Int.natCast_mul, Int.natCast_mul, Rat.intCast_mul, Rat.intCast_mul, hVy, show (((p2 (k + 125) : Nat) : Int) : Rat) = P2 (k + 125) from rfl, show (((p2 149 : Nat) : Int) : Rat) = P2 149 from rfl, show (((2 : Nat) : Int) : Rat) = 2 from rfl] at hb2
  have hG2 : P2 k * P2 149 * (B * P2 149) = P2 (k + 125) * 16777216 * (B * P2 149) := by rw [hG]
  clear hm hc hF hx hy h hG hVy hVx hy0 hA
  generalize P2 149 = T at *
  generalize P2 (k + 125) = G at *
  generalize P2 k = H at *
  refine ⟨mul_cancel hTT ?_, mul_cancel hTT ?_⟩ <;> grind
end Go.Fl
