/-
  The square root in 64 bits, as a fraction: its square is nearly the number.
  Sine and cosine by polynomials, as fractions: doubling, the unit circle, quarters; angles by halves.
  Angles of tangents, as fractions: halving, the series.
  The angle of a point of the unit circle, and the sine a quarter on: nearly the point's first number again.
  The tune of a stable line: the sine a quarter behind it is half of the trace, nearly.
  The tune of a stable line: the law's bounds.
-/
import Derived.Test.YtpnmledanloboaaRq
import Derived.Test.YtpnmledanloboaaBd
import Derived.Test.YtpnmledanloboaaSb1
import Derived.Test.YtpnmledanloboaaAng
import Derived.Test.YtpnmledanloboaaRw
import Derived.Test.YtpnmledanloboaaTun
import Derived.Test.YtpnmledanloboaaLnF
set_option linter.unusedSimpArgs false
set_option linter.unusedVariables false
namespace Go.Fl
open Ieee

theorem rootFrom_lt (n : Nat) : ∀ (todo root : Nat), n < (root + 2 ^ todo) * (root + 2 ^ todo) → n < (Ieee.Datum.rootFrom n todo root + 1) * (Ieee.Datum.rootFrom n todo root + 1)
  | 0, _, h => h
  | todo + 1, root, h => by
    unfold Ieee.Datum.rootFrom
    simp only [Nat.one_shiftLeft]
    split
    · refine rootFrom_lt n todo _ ?_
      rw [show root + 2 ^ todo + 2 ^ todo = root + 2 ^ (todo + 1) by rw [Nat.pow_succ]; omega]
      exact h
    · rename_i h2
      exact rootFrom_lt n todo _ (by omega)
/-- The parts of a root: whole · 2 ^ j, from below, and how fine it is. -/
theorem root_parts {m u : Nat} (h0 : m ≠ 0) (hlog : m.log2 ≤ 52) : ∃ (more wh J : Nat) (s : Bool), FloatKind.f64.format.fractionBits = 52 ∧
    ((Datum.number false m (-1074 + (u : Int))).root (FloatKind.f64.format.fractionBits + 2)) = some (.number false (2 * wh + s.toNat) ((J : Int) - 1074 - 1)) ∧
    wh * wh ≤ m * 2 ^ more ∧ m * 2 ^ more < (wh + 1) * (wh + 1) ∧ 2 ^ 53 ≤ wh ∧ u + 1074 = more + 2 * J ∧ 1 ≤ J := by
  obtain ⟨more, hmore⟩ : ∃ more, more = 2 * (FloatKind.f64.format.fractionBits + 2) - m.log2 + (((-1074 + (u : Int)) - ((2 * (FloatKind.f64.format.fractionBits + 2) - m.log2 : Nat) : Int)) % 2).toNat := ⟨_, rfl⟩
  have hf : FloatKind.f64.format.fractionBits = 52 := rfl
  have hmo : more ≤ 109 := by rw [hmore, hf]; omega
  obtain ⟨j, hj⟩ : ∃ j : Int, (-1074 + (u : Int)) - (more : Int) = 2 * j := ⟨((-1074 + (u : Int)) - (more : Int)) / 2, by rw [hf] at hmore; omega⟩
  obtain ⟨J, hJ⟩ : ∃ J : Nat, (J : Int) = j + 1074 := ⟨(j + 1074).toNat, by omega⟩
  obtain ⟨wh, hwh⟩ : ∃ wh, wh = Ieee.Datum.rootFrom (m * 2 ^ more) ((m * 2 ^ more).log2 / 2 + 1) 0 := ⟨_, rfl⟩
  have hn0 : m * 2 ^ more ≠ 0 := Nat.mul_ne_zero h0 (Nat.ne_of_gt (Nat.two_pow_pos _))
  have h1 : wh * wh ≤ m * 2 ^ more := by rw [hwh]; exact rootFrom_sq _ _ _ (by simp)
  have h2 : m * 2 ^ more < (wh + 1) * (wh + 1) := by
    rw [hwh]
    refine rootFrom_lt _ _ _ ?_
    rw [Nat.zero_add, ← Nat.pow_add]
    refine Nat.lt_of_lt_of_le Nat.lt_log2_self (Nat.pow_le_pow_right (by decide) (by omega))
  have h3 : 2 ^ 53 ≤ wh := by
    have g1 : 2 ^ m.log2 ≤ m := Nat.log2_self_le h0
    have g2 : 2 ^ (m.log2 + more) ≤ m * 2 ^ more := by rw [Nat.pow_add]; exact Nat.mul_le_mul_right _ g1
    have g3 : 2 ^ 108 ≤ 2 ^ (m.log2 + more) := Nat.pow_le_pow_right (by decide) (by rw [hmore, hf]; omega)
    refine Nat.le_of_not_lt fun hlt => ?_
    have g4 : (wh + 1) * (wh + 1) ≤ 2 ^ 53 * 2 ^ 53 := Nat.mul_le_mul (by omega) (by omega)
    have g5 : (2 : Nat) ^ 53 * 2 ^ 53 < 2 ^ 108 := by decide
    omega
  refine ⟨more, wh, J, ((wh * wh != m * 2 ^ more)), hf, ?_, h1, h2, h3, by omega, by omega⟩
  unfold Datum.root
  dsimp only
  rw [if_neg h0]
  simp only [Bool.false_eq_true, if_false]
  rw [← hmore, hj, show (2 * j / 2 - 1 : Int) = (J : Int) - 1074 - 1 by omega, Nat.shiftLeft_eq, ← hwh]
theorem k_1074 (k : Nat) : 53 + (k + 1021) = k + 1074 := by omega
theorem k_1022 (k : Nat) : k + 1074 = k + 1022 + 52 := by omega
theorem k_small {k : Nat} (h : k ≤ 50) : k + 1022 + 53 < 2098 := by omega
theorem place_up (J : Nat) : ((J : Int) - 1074 - 1 + 1074).toNat = J - 1 := by omega
theorem place_dn {J : Nat} (h : 1 ≤ J) : (-1074 - ((J : Int) - 1074 - 1)).toNat = 0 := by omega
theorem p2_half {J : Nat} (h : 1 ≤ J) : p2 J = 2 * 2 ^ (J - 1) := by
  rw [p2_eq, ← Nat.pow_succ']; congr 1; omega
theorem p2_e75 (k : Nat) : p2 (k + 1075) = 2 * p2 (k + 1074) := by rw [show k + 1075 = 1 + (k + 1074) by omega, p2_add, show p2 1 = 2 from rfl]
theorem g8_of (k : Nat) : p2 (k + 1021) ≤ p2 (k + 1074) := p2_le (by omega)
theorem hA_of {A wh J st k : Nat} (g5 : 2 * A = (2 * wh + st) * J) (g6 : st * J ≤ J) {a b c : Nat} (g3 : wh * J ≤ a) (g7 : J ≤ b) (g8 : b ≤ a) (e : c = 2 * a) : A ≤ c := by
  rw [Nat.add_mul, Nat.mul_assoc] at g5; omega
theorem near_up {A wh J st VV G : Nat} (g5 : 2 * A = (2 * wh + st) * J) (g6 : st * J ≤ J) (n2 : VV ≤ A + G) : 2 * VV ≤ 2 * (wh * J) + J + 2 * G := by
  rw [Nat.add_mul, Nat.mul_assoc] at g5; omega
theorem near_dn {A wh J st VV G : Nat} (g5 : 2 * A = (2 * wh + st) * J) (n3 : A ≤ VV + G) : 2 * (wh * J) ≤ 2 * VV + 2 * G := by
  rw [Nat.add_mul, Nat.mul_assoc] at g5; omega
theorem rq_sqrt {x k : Nat} {a : Rat} (hk : k ≤ 50) (hx : Rq x a) (hs : neg FloatKind.f64.format x = false) (ha : a ≤ P2 k * P2 k) :
    ∃ r, Rq (fsqrt x) r ∧ neg FloatKind.f64.format (fsqrt x) = false ∧ 0 ≤ r ∧ r ≤ 2 * P2 k ∧ r * r ≤ a + P2 k * P2 k / 562949953421312 ∧ a ≤ r * r + P2 k * P2 k / 562949953421312 := by
  have hT := P2_pos 1074
  have hP := P2_pos k
  obtain ⟨m, hm⟩ : ∃ m, m = mag FloatKind.f64.format (rung FloatKind.f64.format x) := ⟨_, rfl⟩
  obtain ⟨u, hu⟩ : ∃ u, u = up FloatKind.f64.format (rung FloatKind.f64.format x) := ⟨_, rfl⟩
  have e := read_eq FloatKind.f64.format (eb _) x
  rw [if_pos hx.1, lp64, ← hm, ← hu, hs] at e
  have hV : m * 2 ^ u = V FloatKind.f64.format (rung FloatKind.f64.format x) := by rw [hm, hu]; rfl
  have hsv : ((((m * 2 ^ u : Nat) : Int) : Int) : Rat) = a * P2 1074 := by
    have h2 := hx.2
    unfold sv at h2
    rw [hs] at h2
    rw [hV]
    exact h2
  by_cases h0 : m = 0
  · have e0 : fsqrt x = 0 := by
      unfold fsqrt Format.sqrt
      rw [e]
      unfold Datum.root
      dsimp only
      rw [if_pos h0]
      subst h0
      simp only [Option.map_some, Format.write]
      unfold Format.nearest; simp [Format.word]
    have a0 : a = 0 := by
      rw [h0, Nat.zero_mul] at hsv
      rcases Rat.mul_eq_zero.1 hsv.symm with h | h
      · exact h
      · grind
    rw [e0, a0]
    exact ⟨0, Rv.zero, by decide, by grind, by grind, by have := Rat.mul_nonneg (Rat.le_of_lt hP) (Rat.le_of_lt hP); grind, by have := Rat.mul_nonneg (Rat.le_of_lt hP) (Rat.le_of_lt hP); grind⟩
  have hlog : m.log2 ≤ 52 := by rw [hm]; exact mag_log2 FloatKind.f64.format _
  obtain ⟨more, wh, J, st, hfb, hroot, w1, w2, w3, hJ, hJ1⟩ := root_parts (m := m) (u := u) h0 hlog
  have er : fsqrt x = FloatKind.f64.format.nearest false (2 * wh + st.toNat) ((J : Int) - 1074 - 1) := by
    unfold fsqrt Format.sqrt
    rw [e, hroot]
    rfl
  have hsg : neg FloatKind.f64.format (fsqrt x) = false := by rw [er]; exact nearest_neg ..
  -- in units of the least place
  have hX : m * 2 ^ u * p2 1074 = m * 2 ^ more * (p2 J * p2 J) := by
    rw [← p2_eq, ← p2_eq, Nat.mul_assoc, ← p2_add, hJ, p2_add, show 2 * J = J + J by omega, p2_add, Nat.mul_assoc]
  have g1 : wh * p2 J * (wh * p2 J) ≤ m * 2 ^ u * p2 1074 := by
    rw [hX]
    calc wh * p2 J * (wh * p2 J) = wh * wh * (p2 J * p2 J) := by rw [Nat.mul_mul_mul_comm]
      _ ≤ m * 2 ^ more * (p2 J * p2 J) := Nat.mul_le_mul_right _ w1
  have g2 : m * 2 ^ u * p2 1074 < (wh + 1) * p2 J * ((wh + 1) * p2 J) := by
    rw [hX]
    calc m * 2 ^ more * (p2 J * p2 J) < (wh + 1) * (wh + 1) * (p2 J * p2 J) := Nat.mul_lt_mul_of_pos_right w2 (Nat.mul_pos (p2_pos _) (p2_pos _))
      _ = (wh + 1) * p2 J * ((wh + 1) * p2 J) := by rw [Nat.mul_mul_mul_comm]
  have hXb : m * 2 ^ u ≤ p2 k * p2 k * p2 1074 := by
    have h1 := mul_up hT ha
    rw [← hsv] at h1
    have h2 : ((((m * 2 ^ u : Nat) : Int)) : Rat) ≤ (((p2 k * p2 k * p2 1074 : Nat) : Int) : Rat) := by
      rw [Int.natCast_mul (p2 k * p2 k), Int.natCast_mul (p2 k), Rat.intCast_mul, Rat.intCast_mul]; exact h1
    have h3 := Rat.intCast_le_intCast.1 h2
    omega
  have g3 : wh * p2 J ≤ p2 (k + 1074) := by
    refine sq_le (Nat.le_trans g1 (Nat.le_trans (Nat.mul_le_mul_right _ hXb) (Nat.le_of_eq ?_)))
    rw [p2_add, Nat.mul_assoc (p2 k * p2 k), Nat.mul_mul_mul_comm]
  have g4 : p2 53 * p2 J ≤ wh * p2 J := Nat.mul_le_mul_right _ (by rw [p2_eq]; exact w3)
  obtain ⟨A, hA⟩ : ∃ A, A = (2 * wh + st.toNat) * 2 ^ (J - 1) := ⟨_, rfl⟩
  have g5 : 2 * A = (2 * wh + st.toNat) * p2 J := by
    have e1 := p2_half hJ1
    rw [hA, e1, Nat.mul_left_comm]
  have hst : st.toNat ≤ 1 := by cases st <;> decide
  have g6 : st.toNat * p2 J ≤ p2 J := by have := Nat.mul_le_mul_right (p2 J) hst; omega
  have g7 : p2 J ≤ p2 (k + 1021) := by
    have h1 : p2 53 * p2 J ≤ p2 53 * p2 (k + 1021) := by
      rw [← p2_add, ← p2_add]
      rw [← p2_add] at g4
      rw [k_1074 k]; exact Nat.le_trans g4 g3
    exact Nat.le_of_mul_le_mul_left h1 (p2_pos 53)
  have hAb : A ≤ p2 (k + 1022 + 53) * 2 ^ 0 := by
    rw [Nat.pow_zero, Nat.mul_one]
    exact hA_of (k := k) g5 g6 g3 g7 (g8_of k) (p2_e75 k)
  obtain ⟨n1, n2, n3, n4⟩ := near64 false (m := 2 * wh + st.toNat) (p := (J : Int) - 1074 - 1) (A := A) (B := 2 ^ 0) (k + 1022) (k_small hk) (by rw [hA, place_up J]) (by rw [place_dn hJ1]) hAb
  rw [← er] at n1 n2 n3 n4
  rw [Nat.pow_zero, Nat.mul_one, Nat.mul_one] at n2 n3
  -- as fractions
  obtain ⟨r, hr⟩ := Rv.ex n1
  have hrV : (((V FloatKind.f64.format (rung FloatKind.f64.format (fsqrt x)) : Nat) : Int) : Rat) = r * P2 1074 := by
    have h2 := hr.2
    unfold sv at h2
    rw [hsg] at h2
    exact h2
  generalize V FloatKind.f64.format (rung FloatKind.f64.format (fsqrt x)) = VV at n2 n3 n4 hrV
  obtain ⟨W, hW⟩ : ∃ W, W = (((wh * p2 J : Nat) : Int) : Rat) / P2 1074 := ⟨_, rfl⟩
  obtain ⟨t, ht⟩ : ∃ t, t = P2 J / P2 1074 := ⟨_, rfl⟩
  have hTn : P2 1074 ≠ 0 := by grind
  have eW : W * P2 1074 = (((wh * p2 J : Nat) : Int) : Rat) := by rw [hW]; exact Rat.div_mul_cancel hTn
  have et : t * P2 1074 = (((p2 J : Nat) : Int) : Rat) := by rw [ht]; exact Rat.div_mul_cancel hTn
  have c1 : W * P2 1074 * (W * P2 1074) ≤ a * P2 1074 * P2 1074 := by
    have h1 := Rat.intCast_le_intCast.2 (Int.ofNat_le.2 g1)
    rw [Int.natCast_mul, Int.natCast_mul (m * 2 ^ u), Rat.intCast_mul, Rat.intCast_mul, hsv, ← eW] at h1
    exact h1
  have c2 : a * P2 1074 * P2 1074 ≤ (W + t) * P2 1074 * ((W + t) * P2 1074) := by
    have h1 := Rat.intCast_le_intCast.2 (Int.ofNat_le.2 (Nat.le_of_lt g2))
    rw [show (wh + 1) * p2 J = wh * p2 J + p2 J by rw [Nat.add_mul, Nat.one_mul], Int.natCast_mul, Int.natCast_mul (wh * p2 J + p2 J), Rat.intCast_mul, Rat.intCast_mul, hsv, Int.natCast_add, Rat.intCast_add, ← eW, ← et, ← Rat.add_mul] at h1
    exact h1
  have c3 : W * P2 1074 ≤ P2 k * P2 1074 := by
    have h1 := Rat.intCast_le_intCast.2 (Int.ofNat_le.2 g3)
    rw [← eW] at h1
    rw [← P2_add]; exact h1
  have c4 : t * P2 1074 * 9007199254740992 ≤ P2 k * P2 1074 := by
    have h1 := Rat.intCast_le_intCast.2 (Int.ofNat_le.2 g7)
    rw [← et] at h1
    rw [P2_split64]
    exact Rat.mul_le_mul_of_nonneg_right h1 (by decide)
  have c5 : r * P2 1074 ≤ W * P2 1074 + 1/2 * (t * P2 1074) + P2 k * P2 1074 / 4503599627370496 := by
    have h0 := near_up g5 g6 n2
    have h1 := Rat.intCast_le_intCast.2 (Int.ofNat_le.2 h0)
    rw [Int.natCast_mul, Int.natCast_add, Int.natCast_add, Int.natCast_mul, Int.natCast_mul 2 (p2 (k + 1022)), Rat.intCast_mul, Rat.intCast_add, Rat.intCast_add, Rat.intCast_mul, Rat.intCast_mul, hrV, ← eW, ← et] at h1
    have h2 : P2 k * P2 1074 = (((p2 (k + 1022) : Nat) : Int) : Rat) * 4503599627370496 := by
      rw [← P2_add, k_1022 k, P2_add]; rfl
    rw [h2]
    generalize (((p2 (k + 1022) : Nat) : Int) : Rat) = G at *
    rw [show (((2 : Nat) : Int) : Rat) = 2 from rfl] at h1
    grind
  have c6 : W * P2 1074 ≤ r * P2 1074 + P2 k * P2 1074 / 4503599627370496 := by
    have h0 := near_dn g5 n3
    have h1 := Rat.intCast_le_intCast.2 (Int.ofNat_le.2 h0)
    rw [Int.natCast_mul 2 (wh * p2 J), Int.natCast_add, Int.natCast_mul 2 VV, Int.natCast_mul 2 (p2 (k + 1022)), Rat.intCast_mul, Rat.intCast_add, Rat.intCast_mul, Rat.intCast_mul, hrV, ← eW] at h1
    have h2 : P2 k * P2 1074 = (((p2 (k + 1022) : Nat) : Int) : Rat) * 4503599627370496 := by
      rw [← P2_add, k_1022 k, P2_add]; rfl
    rw [h2]
    generalize (((p2 (k + 1022) : Nat) : Int) : Rat) = G at *
    rw [show (((2 : Nat) : Int) : Rat) = 2 from rfl] at h1
    grind
  have W0 : 0 ≤ W * P2 1074 := by rw [eW]; exact Rat.intCast_le_intCast.2 (Int.natCast_nonneg _)
  have t0 : 0 ≤ t * P2 1074 := by rw [et]; exact Rat.intCast_le_intCast.2 (Int.natCast_nonneg _)
  have r0 : 0 ≤ r * P2 1074 := by rw [← hrV]; exact Rat.intCast_le_intCast.2 (Int.natCast_nonneg _)
  clear hX g1 g2 hXb g3 g4 g5 g6 g7 hAb n1 n2 n3 n4 hrV eW et hW ht hsv hV
  generalize P2 1074 = T at *
  have down : ∀ {y z : Rat}, y * T ≤ z * T → y ≤ z := fun {y z} h => Rat.not_lt.1 fun hlt => by have := mul_grow hT hlt; grind
  have W1 : 0 ≤ W := down (by grind)
  have t1 : 0 ≤ t := down (by grind)
  have r1 : 0 ≤ r := down (by grind)
  have q1 : W * W ≤ a := down (down (by grind))
  have q2 : a ≤ (W + t) * (W + t) := down (down (by grind))
  have q3 : W ≤ P2 k := down c3
  have q4 : t * 9007199254740992 ≤ P2 k := down (by grind)
  have q5 : r ≤ W + 1/2 * t + P2 k / 4503599627370496 := down (by grind)
  have q6 : W ≤ r + P2 k / 4503599627370496 := down (by grind)
  generalize P2 k = P at *
  have s1 : (r - W) * (r + W) ≤ (P / 2251799813685248) * (r + W) := Rat.mul_le_mul_of_nonneg_right (by grind) (by grind)
  have s2 : (W - r) * (r + W) ≤ (P / 2251799813685248) * (r + W) := Rat.mul_le_mul_of_nonneg_right (by grind) (by grind)
  have s3 : P * (r + W) ≤ P * (3 * P) := Rat.mul_le_mul_of_nonneg_left (by grind) (by grind)
  have s4 : W * t ≤ P * t := Rat.mul_le_mul_of_nonneg_right q3 t1
  have s5 : P * (t * 9007199254740992) ≤ P * P := Rat.mul_le_mul_of_nonneg_left q4 (by grind)
  have s6 : t * t ≤ P * t := Rat.mul_le_mul_of_nonneg_right (by grind) t1
  exact ⟨r, hr, hsg, r1, by grind, by grind, by grind⟩
end Go.Fl
set_option linter.unusedSimpArgs false
set_option linter.unusedVariables false
namespace Go.Sb

/-- At most c, whatever the sign. -/
def Ab (a c : Rat) : Prop := a ≤ c ∧ -c ≤ a
def sP (x : Rat) : Rat := x - 1/6 * x^3 + 1/120 * x^5 - 1/5040 * x^7 + 1/362880 * x^9
def cP (x : Rat) : Rat := 1 - 1/2 * x^2 + 1/24 * x^4 - 1/720 * x^6 + 1/40320 * x^8
theorem Ab.weak {a c d : Rat} (h : Ab a c) (hd : c ≤ d) : Ab a d := ⟨by have := h.1; grind, by have := h.2; grind⟩
theorem Ab.mul {x y e f : Rat} (hx : Ab x e) (hy : Ab y f) (he : 0 ≤ e) : Ab (x * y) (e * f) := by
  obtain ⟨x1, x2⟩ := hx; obtain ⟨y1, y2⟩ := hy
  rcases (Rat.le_total : 0 ≤ y ∨ y ≤ 0) with h | h
  · have a1 := Rat.mul_le_mul_of_nonneg_right x1 h
    have a2 := Rat.mul_le_mul_of_nonneg_right x2 h
    have a3 := Rat.mul_le_mul_of_nonneg_left y1 he
    constructor <;> grind
  · have h' : 0 ≤ -y := by grind
    have a1 := Rat.mul_le_mul_of_nonneg_right x1 h'
    have a2 := Rat.mul_le_mul_of_nonneg_right x2 h'
    have a3 := Rat.mul_le_mul_of_nonneg_left (show -y ≤ f by grind) he
    constructor <;> grind
theorem dbl_s {x : Rat} (h0 : 0 ≤ x) (h1 : x ≤ 2/5) : Ab (sP (2 * x) - 2 * (sP x * cP x)) (1/1000000) := by
  have e : sP (2 * x) - 2 * (sP x * cP x) = 23/453600 * x^11 - 13/10886400 * x^13 + 1/57153600 * x^15 - 1/7315660800 * x^17 := by unfold sP cP; grind
  have b11 := pow_bd h0 h1 11; rw [show (2/5 : Rat)^11 = 2048/48828125 by decide +kernel] at b11
  have b13 := pow_bd h0 h1 13; rw [show (2/5 : Rat)^13 = 8192/1220703125 by decide +kernel] at b13
  have b15 := pow_bd h0 h1 15; rw [show (2/5 : Rat)^15 = 32768/30517578125 by decide +kernel] at b15
  have b17 := pow_bd h0 h1 17; rw [show (2/5 : Rat)^17 = 131072/762939453125 by decide +kernel] at b17
  rw [e]
  generalize x^11 = x11 at *
  generalize x^13 = x13 at *
  generalize x^15 = x15 at *
  generalize x^17 = x17 at *
  constructor <;> grind
theorem dbl_c {x : Rat} (h0 : 0 ≤ x) (h1 : x ≤ 2/5) : Ab (cP (2 * x) - (cP x * cP x - sP x * sP x)) (1/1000000) := by
  have e : cP (2 * x) - (cP x * cP x - sP x * sP x) = 73/259200 * x^10 - 179/21772800 * x^12 + 47/304819200 * x^14 - 1/585252864 * x^16 + 1/131681894400 * x^18 := by unfold sP cP; grind
  have b10 := pow_bd h0 h1 10; rw [show (2/5 : Rat)^10 = 1024/9765625 by decide +kernel] at b10
  have b12 := pow_bd h0 h1 12; rw [show (2/5 : Rat)^12 = 4096/244140625 by decide +kernel] at b12
  have b14 := pow_bd h0 h1 14; rw [show (2/5 : Rat)^14 = 16384/6103515625 by decide +kernel] at b14
  have b16 := pow_bd h0 h1 16; rw [show (2/5 : Rat)^16 = 65536/152587890625 by decide +kernel] at b16
  have b18 := pow_bd h0 h1 18; rw [show (2/5 : Rat)^18 = 262144/3814697265625 by decide +kernel] at b18
  rw [e]
  generalize x^10 = x10 at *
  generalize x^12 = x12 at *
  generalize x^14 = x14 at *
  generalize x^16 = x16 at *
  generalize x^18 = x18 at *
  constructor <;> grind
theorem circ {x : Rat} (h0 : 0 ≤ x) (h1 : x ≤ 4/5) : Ab (sP x * sP x + cP x * cP x - 1) (1/1000000) := by
  have e : sP x * sP x + cP x * cP x - 1 = 1/1814400 * x^10 - 1/4354560 * x^12 + 1/60963840 * x^14 - 1/2090188800 * x^16 + 1/131681894400 * x^18 := by unfold sP cP; grind
  have b10 := pow_bd h0 h1 10; rw [show (4/5 : Rat)^10 = 1048576/9765625 by decide +kernel] at b10
  have b12 := pow_bd h0 h1 12; rw [show (4/5 : Rat)^12 = 16777216/244140625 by decide +kernel] at b12
  have b14 := pow_bd h0 h1 14; rw [show (4/5 : Rat)^14 = 268435456/6103515625 by decide +kernel] at b14
  have b16 := pow_bd h0 h1 16; rw [show (4/5 : Rat)^16 = 4294967296/152587890625 by decide +kernel] at b16
  have b18 := pow_bd h0 h1 18; rw [show (4/5 : Rat)^18 = 68719476736/3814697265625 by decide +kernel] at b18
  rw [e]
  generalize x^10 = x10 at *
  generalize x^12 = x12 at *
  generalize x^14 = x14 at *
  generalize x^16 = x16 at *
  generalize x^18 = x18 at *
  constructor <;> grind
theorem quart_s {x : Rat} (h0 : 0 ≤ x) (h1 : x ≤ 4/5) : Ab (sP (3927/2500 - x) - cP x) (1/2500) := by
  have e : sP (3927/2500 - x) - cP x = 8649092788117230041585990561/2441406250000000000000000000000000 - 20570944910209218600044287/976562500000000000000000000000 * x + 7661225246311727810681/97656250000000000000000000 * x^2 - 17543219227252054921/117187500000000000000000 * x^3 + 17675503432249469/93750000000000000000 * x^4 - 6239237708747/37500000000000000 * x^5 + 2349019661/22500000000000 * x^6 - 2921329/63000000000 * x^7 + 1427/100800000 * x^8 - 1/362880 * x^9 := by unfold sP cP; grind
  have b2 := pow_bd h0 h1 2; rw [show (4/5 : Rat)^2 = 16/25 by decide +kernel] at b2
  have b3 := pow_bd h0 h1 3; rw [show (4/5 : Rat)^3 = 64/125 by decide +kernel] at b3
  have b4 := pow_bd h0 h1 4; rw [show (4/5 : Rat)^4 = 256/625 by decide +kernel] at b4
  have b5 := pow_bd h0 h1 5; rw [show (4/5 : Rat)^5 = 1024/3125 by decide +kernel] at b5
  have b6 := pow_bd h0 h1 6; rw [show (4/5 : Rat)^6 = 4096/15625 by decide +kernel] at b6
  have b7 := pow_bd h0 h1 7; rw [show (4/5 : Rat)^7 = 16384/78125 by decide +kernel] at b7
  have b8 := pow_bd h0 h1 8; rw [show (4/5 : Rat)^8 = 65536/390625 by decide +kernel] at b8
  have b9 := pow_bd h0 h1 9; rw [show (4/5 : Rat)^9 = 262144/1953125 by decide +kernel] at b9
  rw [e]
  generalize x^2 = x2 at *
  generalize x^3 = x3 at *
  generalize x^4 = x4 at *
  generalize x^5 = x5 at *
  generalize x^6 = x6 at *
  generalize x^7 = x7 at *
  generalize x^8 = x8 at *
  generalize x^9 = x9 at *
  constructor <;> grind
/-- One doubling: the quotient of sine and cosine follows the tangent. -/
theorem dbl_tan {x t τ e E : Rat} (h0 : 0 ≤ x) (h1 : x ≤ 2/5) (ht : Ab t (1001/1000)) (hτ : Ab τ 1) (hr : Ab (t * (1 - τ * τ) - 2 * τ) E) (h : Ab (sP x - τ * cP x) e) (he : e ≤ 1/100) (hE : E ≤ 1/100) : Ab (sP (2 * x) - t * cP (2 * x)) (5 * e + 2 * E + 4/1000000) := by
  have d1 := dbl_s h0 h1
  have d2 := dbl_c h0 h1
  have d3 := circ h0 (show x ≤ 4/5 by grind)
  have e0 : 0 ≤ e := by have := h.1; have := h.2; grind
  have E0 : 0 ≤ E := by have := hr.1; have := hr.2; grind
  have hC : Ab (cP x) (1001/1000) := by
    have hs := sq_nonneg (sP x)
    have h2 := d3.1
    have h3 : cP x * cP x ≤ 1 + 1/1000000 := by grind
    constructor
    · rcases (Rat.le_total : cP x ≤ 1001/1000 ∨ 1001/1000 ≤ cP x) with g | g
      · exact g
      · have a1 := Rat.mul_le_mul_of_nonneg_left g (show (0 : Rat) ≤ 1001/1000 by grind)
        have a2 := Rat.mul_le_mul_of_nonneg_right g (show (0 : Rat) ≤ cP x by grind)
        grind
    · rcases (Rat.le_total : -(1001/1000) ≤ cP x ∨ cP x ≤ -(1001/1000)) with g | g
      · exact g
      · have a1 := Rat.mul_le_mul_of_nonneg_left (show (1001/1000 : Rat) ≤ -cP x by grind) (show (0 : Rat) ≤ 1001/1000 by grind)
        have a2 := Rat.mul_le_mul_of_nonneg_right (show (1001/1000 : Rat) ≤ -cP x by grind) (show (0 : Rat) ≤ -cP x by grind)
        grind
  generalize sP (2 * x) = S2 at *
  generalize cP (2 * x) = C2 at *
  generalize sP x = S at *
  generalize cP x = C at *
  obtain ⟨ε, hε⟩ : ∃ ε, ε = S - τ * C := ⟨_, rfl⟩
  rw [← hε] at h
  have hS : S = τ * C + ε := by grind
  subst hS
  have p1 := h.mul hC e0
  have p2 := hτ.mul p1 (by grind)
  have p3 := h.mul h e0
  have p4 := ht.mul p2 (by grind)
  have p5 := ht.mul p3 (by grind)
  have p6 := ht.mul d2 (by grind)
  have p7 := hC.mul hC (by grind)
  have p8 := hr.mul p7 E0
  have e2 : e * e ≤ 1/100 * e := Rat.mul_le_mul_of_nonneg_right he e0
  obtain ⟨p11, p12⟩ := p1; obtain ⟨p41, p42⟩ := p4; obtain ⟨p51, p52⟩ := p5; obtain ⟨p61, p62⟩ := p6; obtain ⟨p81, p82⟩ := p8; obtain ⟨d11, d12⟩ := d1
  have key : S2 - t * C2 = (S2 - 2 * ((τ * C + ε) * C)) - t * (C2 - (C * C - (τ * C + ε) * (τ * C + ε))) + 2 * (ε * C) + 2 * (t * (τ * (ε * C))) + t * (ε * ε) - (t * (1 - τ * τ) - 2 * τ) * (C * C) := by grind
  rw [key]
  constructor <;> grind
theorem Ab.div {D M W m : Rat} (h : Ab (D * M) W) (hm : 0 < m) (hM : m ≤ M) : Ab D (W / m) := by
  obtain ⟨h1, h2⟩ := h
  have e : W / m * m = W := Rat.div_mul_cancel (by grind)
  generalize W / m = V at e ⊢
  have V0 : 0 ≤ V := by
    refine Rat.not_lt.1 fun hlt => ?_
    have a1 := Rat.mul_lt_mul_of_pos_right hlt hm
    grind
  constructor
  · rcases (Rat.le_total : D ≤ V ∨ V ≤ D) with g | g
    · exact g
    · have a1 := Rat.mul_le_mul_of_nonneg_left hM (show (0 : Rat) ≤ D by grind)
      refine Rat.not_lt.1 fun hlt => ?_
      have a2 := Rat.mul_lt_mul_of_pos_right hlt hm
      grind
  · rcases (Rat.le_total : -V ≤ D ∨ D ≤ -V) with g | g
    · exact g
    · have a1 := Rat.mul_le_mul_of_nonneg_left hM (show (0 : Rat) ≤ -D by grind)
      refine Rat.not_lt.1 fun hlt => ?_
      have a2 := Rat.mul_lt_mul_of_pos_right (show V < -D by grind) hm
      grind
/-- The angle of the smallest tangent. -/
theorem base {t p u : Rat} (h0 : 0 ≤ t) (h1 : t ≤ 1/10) (hp : Ab (p - (1 - 1/3 * (t * t))) (27/1000000)) (hu : u = t * p) : (0 ≤ u ∧ u ≤ 11/100) ∧ Ab (sP u - t * cP u) (1/100000) := by
  have a1 : t * t ≤ 1/10 * t := Rat.mul_le_mul_of_nonneg_right h1 h0
  have a0 : 0 ≤ t * t := Rat.mul_nonneg h0 h0
  obtain ⟨p1, p2⟩ := hp
  have hq : Ab (p - 1) (34/10000) := ⟨by grind, by grind⟩
  have ht : Ab t (1/10) := ⟨h1, by grind⟩
  have hδ := ht.mul hq (by grind)
  have hd := ht.mul (show Ab (p - (1 - 1/3 * (t * t))) (27/1000000) from ⟨p1, p2⟩) (by grind)
  have u0 : 0 ≤ u := by rw [hu]; exact Rat.mul_nonneg h0 (by grind)
  have u1 : u ≤ 11/100 := by have := hδ.1; grind
  obtain ⟨δ, eδ⟩ : ∃ δ, δ = t * (p - 1) := ⟨_, rfl⟩
  rw [← eδ] at hδ
  have b1 := (show Ab (t * t) (1/100) from ⟨by grind, by grind⟩).mul hδ (by grind)
  have b2 := hδ.mul hδ (by grind)
  have b3 := b2.mul hδ (by grind)
  have w4 := pow_bd u0 u1 4; have w5 := pow_bd u0 u1 5; have w6 := pow_bd u0 u1 6; have w7 := pow_bd u0 u1 7; have w8 := pow_bd u0 u1 8; have w9 := pow_bd u0 u1 9
  rw [show (11/100 : Rat)^4 = 14641/100000000 by decide +kernel] at w4
  rw [show (11/100 : Rat)^5 = 161051/10000000000 by decide +kernel] at w5
  rw [show (11/100 : Rat)^6 = 1771561/1000000000000 by decide +kernel] at w6
  rw [show (11/100 : Rat)^7 = 19487171/100000000000000 by decide +kernel] at w7
  rw [show (11/100 : Rat)^8 = 214358881/10000000000000000 by decide +kernel] at w8
  rw [show (11/100 : Rat)^9 = 2357947691/1000000000000000000 by decide +kernel] at w9
  refine ⟨⟨u0, u1⟩, ?_⟩
  have r2 : Ab (1/24 * u^4 - 1/720 * u^6 + 1/40320 * u^8) (1/100000) := ⟨by grind, by grind⟩
  have r3 := ht.mul r2 (by grind)
  have hu2 : u = t + δ := by grind
  have key : sP u - t * cP u = (t * (p - (1 - 1/3 * (t * t)))) + 1/2 * (t * t * δ) - 1/6 * (δ * δ * δ) + (1/120 * u^5 - 1/5040 * u^7 + 1/362880 * u^9) - t * (1/24 * u^4 - 1/720 * u^6 + 1/40320 * u^8) := by
    unfold sP cP
    have e3 : u^3 = (t + δ) * (t + δ) * (t + δ) := by rw [hu2]; grind
    have e2 : u^2 = (t + δ) * (t + δ) := by rw [hu2]; grind
    rw [e3, e2]
    generalize u^4 = x4
    generalize u^5 = x5
    generalize u^6 = x6
    generalize u^7 = x7
    generalize u^8 = x8
    generalize u^9 = x9
    grind
  rw [key]
  obtain ⟨b11, b12⟩ := b1; obtain ⟨b31, b32⟩ := b3; obtain ⟨r31, r32⟩ := r3; obtain ⟨hd1, hd2⟩ := hd
  generalize u^5 = x5 at *
  generalize u^7 = x7 at *
  generalize u^9 = x9 at *
  generalize t * (1/24 * u^4 - 1/720 * u^6 + 1/40320 * u^8) = X at *
  generalize t * (p - (1 - 1/3 * (t * t))) = Y at *
  generalize t * t * δ = Z at *
  generalize δ * δ * δ = V at *
  constructor <;> grind
/-- What lies on the circle at the tangent. -/
theorem fin_sc {S C t k s e : Rat} (hS : Ab (S - t * C) e) (hc : Ab (S * S + C * C - 1) (1/1000000)) (hC : 2/3 ≤ C) (hC1 : C ≤ 1001/1000) (t0 : 0 ≤ t) (t1 : t ≤ 1001/1000) (hk : 7/10 ≤ k) (hk2 : k ≤ 11/10) (hs : Ab (s - t * k) (1/10000)) (hsk : Ab (s * s + k * k - 1) (1/100000)) (he : e ≤ 1/500) :
    Ab (C - k) (1/250) ∧ Ab (S - s) (1/150) := by
  have e0 : 0 ≤ e := by have := hS.1; have := hS.2; grind
  obtain ⟨ε, hε⟩ : ∃ ε, ε = S - t * C := ⟨_, rfl⟩
  obtain ⟨σ, hσ⟩ : ∃ σ, σ = s - t * k := ⟨_, rfl⟩
  rw [← hε] at hS; rw [← hσ] at hs
  have eS : S = t * C + ε := by grind
  have es : s = t * k + σ := by grind
  have ht : Ab t (1001/1000) := ⟨t1, by grind⟩
  have hC2 : Ab C (1001/1000) := ⟨hC1, by grind⟩
  have hk3 : Ab k (11/10) := ⟨hk2, by grind⟩
  have hε2 : Ab ε (1/500) := hS.weak he
  have p1 := (ht.mul hC2 (by grind)).mul hε2 (by grind)
  have p2 := hε2.mul hε2 (by grind)
  have p3 := (ht.mul hk3 (by grind)).mul hs (by grind)
  have p4 := hs.mul hs (by grind)
  subst eS; subst es
  have hM : 136/100 ≤ (C + k) * (1 + t * t) := by
    have a1 := Rat.mul_le_mul_of_nonneg_left (show (1 : Rat) ≤ 1 + t * t by have := sq_nonneg t; grind) (show 0 ≤ C + k by grind)
    grind
  have hD : Ab ((C - k) * ((C + k) * (1 + t * t))) (45/10000) := by
    obtain ⟨p11, p12⟩ := p1; obtain ⟨p21, p22⟩ := p2; obtain ⟨p31, p32⟩ := p3; obtain ⟨p41, p42⟩ := p4; obtain ⟨c1, c2⟩ := hc; obtain ⟨k1, k2⟩ := hsk
    have key : (C - k) * ((C + k) * (1 + t * t)) = ((t * C + ε) * (t * C + ε) + C * C - 1) - ((t * k + σ) * (t * k + σ) + k * k - 1) - 2 * (t * C * ε) - ε * ε + 2 * (t * k * σ) + σ * σ := by grind
    rw [key]
    constructor <;> grind
  have h1 := (hD.div (by grind) hM).weak (show (45/10000 : Rat) / (136/100) ≤ 1/250 by decide +kernel)
  refine ⟨h1, ?_⟩
  have p5 := ht.mul h1 (by grind)
  obtain ⟨p51, p52⟩ := p5; obtain ⟨s1, s2⟩ := hs; obtain ⟨q1, q2⟩ := hε2
  have key : t * C + ε - (t * k + σ) = t * (C - k) + ε - σ := by grind
  rw [key]
  constructor <;> grind
theorem Ab.mulsub {a b c d e f B G : Rat} (h : Ab (a - b) e) (k : Ab (c - d) f) (hc : Ab c G) (hb : Ab b B) (e0 : 0 ≤ e) (B0 : 0 ≤ B) : Ab (a * c - b * d) (e * G + B * f) := by
  have p1 := h.mul hc e0
  have p2 := hb.mul k B0
  obtain ⟨p11, p12⟩ := p1; obtain ⟨p21, p22⟩ := p2
  constructor <;> grind
/-- Sines of angles that are near. -/
theorem lip {a b η : Rat} (ha : Ab a (8/5)) (hb : Ab b (8/5)) (h : Ab (a - b) η) : Ab (sP a - sP b) (3 * η) := by
  have e0 : 0 ≤ η := by have := h.1; have := h.2; grind
  have a2 := (ha.mul ha (by grind)).weak (show (8/5 : Rat) * (8/5) ≤ 64/25 by decide +kernel)
  have b2 := (hb.mul hb (by grind)).weak (show (8/5 : Rat) * (8/5) ≤ 64/25 by decide +kernel)
  have b3 := (b2.mul hb (by grind)).weak (show (64/25 : Rat) * (8/5) ≤ 41/10 by decide +kernel)
  have b5 := (b3.mul b2 (by grind)).weak (show (41/10 : Rat) * (64/25) ≤ 105/10 by decide +kernel)
  have b7 := (b5.mul b2 (by grind)).weak (show (105/10 : Rat) * (64/25) ≤ 269/10 by decide +kernel)
  have d2 := (h.mulsub h ha hb e0 (by grind)).weak (show η * (8/5) + 8/5 * η ≤ 16/5 * η by grind)
  have d3 := (d2.mulsub h ha b2 (by grind) (by grind)).weak (show 16/5 * η * (8/5) + 64/25 * η ≤ 77/10 * η by grind)
  have d5 := (d3.mulsub d2 a2 b3 (by grind) (by grind)).weak (show 77/10 * η * (64/25) + 41/10 * (16/5 * η) ≤ 33 * η by grind)
  have d7 := (d5.mulsub d2 a2 b5 (by grind) (by grind)).weak (show 33 * η * (64/25) + 105/10 * (16/5 * η) ≤ 119 * η by grind)
  have d9 := (d7.mulsub d2 a2 b7 (by grind) (by grind)).weak (show 119 * η * (64/25) + 269/10 * (16/5 * η) ≤ 391 * η by grind)
  have e3 : ∀ x : Rat, x^3 = x * x * x := fun x => by grind
  have e5 : ∀ x : Rat, x^5 = x * x * x * (x * x) := fun x => by grind
  have e7 : ∀ x : Rat, x^7 = x * x * x * (x * x) * (x * x) := fun x => by grind
  have e9 : ∀ x : Rat, x^9 = x * x * x * (x * x) * (x * x) * (x * x) := fun x => by grind
  unfold sP
  rw [e3, e3, e5, e5, e7, e7, e9, e9]
  obtain ⟨h1, h2⟩ := h; obtain ⟨d31, d32⟩ := d3; obtain ⟨d51, d52⟩ := d5; obtain ⟨d71, d72⟩ := d7; obtain ⟨d91, d92⟩ := d9
  generalize a * a * a * (a * a) * (a * a) * (a * a) = a9 at *
  generalize b * b * b * (b * b) * (b * b) * (b * b) = b9 at *
  generalize a * a * a * (a * a) * (a * a) = a7 at *
  generalize b * b * b * (b * b) * (b * b) = b7 at *
  generalize a * a * a * (a * a) = a5 at *
  generalize b * b * b * (b * b) = b5 at *
  generalize a * a * a = a3 at *
  generalize b * b * b = b3 at *
  constructor <;> grind
theorem sP_odd (x : Rat) : sP (-x) = -sP x := by unfold sP; grind
theorem pol_pos {z : Rat} (h0 : 0 ≤ z) (h1 : z ≤ 8/5) : Ab (z * pol (z * z) - sP z) (1/100000) := by
  have e : z * pol (z * z) - sP z = -1/39916800 * z^11 + 1/6227020800 * z^13 - 1/1307674368000 * z^15 + 1/355687428096000 * z^17 := by unfold pol sP; grind
  have b11 := pow_bd h0 h1 11; have b13 := pow_bd h0 h1 13; have b15 := pow_bd h0 h1 15; have b17 := pow_bd h0 h1 17
  rw [show (8/5 : Rat)^11 = 8589934592/48828125 by decide +kernel] at b11
  rw [show (8/5 : Rat)^13 = 549755813888/1220703125 by decide +kernel] at b13
  rw [show (8/5 : Rat)^15 = 35184372088832/30517578125 by decide +kernel] at b15
  rw [show (8/5 : Rat)^17 = 2251799813685248/762939453125 by decide +kernel] at b17
  rw [e]
  generalize z^11 = x11 at *
  generalize z^13 = x13 at *
  generalize z^15 = x15 at *
  generalize z^17 = x17 at *
  constructor <;> grind
theorem pol_near {z : Rat} (h : Ab z (8/5)) : Ab (z * pol (z * z) - sP z) (1/100000) := by
  rcases (Rat.le_total : 0 ≤ z ∨ z ≤ 0) with g | g
  · exact pol_pos g h.1
  · have h2 := pol_pos (z := -z) (by grind) (by have := h.2; grind)
    rw [sP_odd, show -z * -z = z * z by grind] at h2
    obtain ⟨h3, h4⟩ := h2
    constructor <;> grind
end Go.Sb
set_option linter.unusedSimpArgs false
set_option linter.unusedVariables false
namespace Go.Fl
open Ieee Sb

theorem P2_k0 : P2 0 = 1 := by decide +kernel
theorem P2_k1 : P2 1 = 2 := by decide +kernel
theorem P2_k2 : P2 2 = 4 := by decide +kernel
theorem P2_k3 : P2 3 = 8 := by decide +kernel
theorem rq_neg {x : Nat} {a : Rat} (h : Rq x a) (ha : 0 < a) : neg FloatKind.f64.format x = false := by
  have hT := P2_pos 1074
  have h2 := h.2
  unfold sv at h2
  cases hn : neg FloatKind.f64.format x with
  | false => rfl
  | true =>
    exfalso
    rw [hn, if_pos rfl] at h2
    have h3 : 0 < a * P2 1074 := Rat.mul_pos ha hT
    have h4 : ((-((V FloatKind.f64.format (rung FloatKind.f64.format x) : Nat) : Int) : Int) : Rat) ≤ ((0 : Int) : Rat) := Rat.intCast_le_intCast.2 (by omega)
    rw [h2] at h4
    have h5 : a * P2 1074 ≤ 0 := h4
    grind
theorem nn_rq {x : Nat} {a : Rat} (h : Rq x a) (hn : neg FloatKind.f64.format x = false) : 0 ≤ a := by
  have hT := P2_pos 1074
  have h2 := h.2
  unfold sv at h2
  rw [hn, if_neg (by decide)] at h2
  have h4 : ((0 : Int) : Rat) ≤ (((V FloatKind.f64.format (rung FloatKind.f64.format x) : Nat) : Int) : Rat) := Rat.intCast_le_intCast.2 (by omega)
  refine Rat.not_lt.1 fun hlt => ?_
  have h3 := mul_grow hT hlt
  have h5 : (0 : Rat) ≤ a * P2 1074 := by
    have h6 : (0 : Rat) ≤ (((V FloatKind.f64.format (rung FloatKind.f64.format x) : Nat) : Int) : Rat) := h4
    rw [h2] at h6; exact h6
  grind
/-- The sign of a quotient of numbers without signs. -/
theorem quo_nn {x y : Nat} (hx : rung FloatKind.f64.format x < FloatKind.f64.format.infRung) (hy : rung FloatKind.f64.format y < FloatKind.f64.format.infRung) (nx : neg FloatKind.f64.format x = false) (ny : neg FloatKind.f64.format y = false)
    (hy0 : 0 < V FloatKind.f64.format (rung FloatKind.f64.format y)) : neg FloatKind.f64.format (fop .quo .f64 x y) = false := by
  obtain ⟨m, u, e1, g1⟩ := read_any hx
  obtain ⟨n, v, e2, g2⟩ := read_any hy
  have hn0 : 0 < n := Nat.pos_of_ne_zero fun hz => by
    rw [hz, Nat.zero_mul] at g2
    omega
  unfold fop floatBits Format.div
  dsimp only
  rw [e1, e2]
  unfold Datum.quotient
  dsimp only
  rw [if_neg (by omega)]
  dsimp only [Option.map]
  unfold Format.write
  dsimp only
  rw [nearest_neg, nx, ny]
  rfl
/-- One halving. -/
theorem rt_near {T : Nat} {t : Rat} (h : Rq T t) (hn : neg FloatKind.f64.format T = false) (h1 : t ≤ 1001/1000) :
    ∃ τ, Rq (rt T) τ ∧ neg FloatKind.f64.format (rt T) = false ∧ 0 ≤ τ ∧ τ ≤ 51/100 ∧ Ab (t * (1 - τ * τ) - 2 * τ) (1/1000000000) := by
  have h0 := nn_rq h hn
  have tt : t * t ≤ 1001/1000 * t := Rat.mul_le_mul_of_nonneg_right h1 h0
  have tt0 : 0 ≤ t * t := Rat.mul_nonneg h0 h0
  obtain ⟨m, hm, ⟨m1, m2⟩, _, _⟩ := Rq.mul 1 (by decide) h h (by rw [P2_k1]; grind) (by rw [P2_k1]; grind)
  rw [P2_k1] at m1 m2
  have hone : Rq ONE 1 := Rv.one
  obtain ⟨s, hs, ⟨s1, s2⟩, _, _⟩ := Rq.add 2 (by decide) hone hm (by rw [P2_k2]; grind) (by rw [P2_k2]; grind)
  rw [P2_k2] at s1 s2
  obtain ⟨r, hr, nr, r0, r1, r2, r3⟩ := rq_sqrt (k := 1) (by decide) hs (rq_neg hs (by grind)) (by rw [P2_k1]; grind)
  rw [P2_k1] at r1 r2 r3
  obtain ⟨R, hR, ⟨R1, R2⟩, _, _⟩ := Rq.add 3 (by decide) hone hr (by rw [P2_k3]; grind) (by rw [P2_k3]; grind)
  rw [P2_k3] at R1 R2
  have r4 : 999/1000 ≤ r := by
    refine Rat.not_lt.1 fun hlt => ?_
    have a1 := Rat.mul_le_mul_of_nonneg_right (Rat.le_of_lt hlt) r0
    grind
  have r5 : r ≤ 15/10 := by
    refine Rat.not_lt.1 fun hlt => ?_
    have a1 := Rat.mul_le_mul_of_nonneg_right (Rat.le_of_lt hlt) (show (0 : Rat) ≤ r by grind)
    grind
  obtain ⟨τ, hτ, ⟨τ1, τ2⟩, _, _⟩ := Rq.quo 1 (by decide) h hR (B := R) (A := 1001/1000) (by grind) (.inl rfl) ⟨h1, by grind⟩ (by rw [P2_k1]; grind)
  rw [P2_k1] at τ1 τ2
  have hRn := rq_neg hR (by grind)
  have hV0 : 0 < V FloatKind.f64.format (rung FloatKind.f64.format (fop .add .f64 ONE (fsqrt (fop .add .f64 ONE (fop .mul .f64 T T))))) := by
    refine Nat.pos_of_ne_zero fun hz => ?_
    have h2 := hR.2
    unfold sv at h2
    rw [hRn, if_neg (by decide), hz] at h2
    have hT := Rat.mul_pos (show (0 : Rat) < R by grind) (P2_pos 1074)
    have h3 : ((((0 : Nat) : Int)) : Rat) = 0 := rfl
    rw [h3] at h2
    have h4 : (0 : Rat) = R * P2 1074 := h2
    grind
  have nτ := quo_nn h.1 hR.1 hn hRn hV0
  have τ0 := nn_rq hτ nτ
  have hτ2 : τ ≤ 51/100 := by
    refine Rat.not_lt.1 fun hlt => ?_
    have a1 := Rat.mul_le_mul_of_nonneg_right (Rat.le_of_lt hlt) (show (0 : Rat) ≤ R by grind)
    grind
  refine ⟨τ, hτ, nτ, τ0, hτ2, ?_⟩
  -- the relation
  obtain ⟨ε1, hε1⟩ : ∃ ε, ε = τ * R - t := ⟨_, rfl⟩
  obtain ⟨ρ, hρ⟩ : ∃ ρ, ρ = R - 1 := ⟨_, rfl⟩
  obtain ⟨ε2, hε2⟩ : ∃ ε, ε = ρ * ρ - 1 - t * t := ⟨_, rfl⟩
  have b1 : Ab ε1 (1/100000000000) := ⟨by grind, by grind⟩
  have d1 : Ab (ρ - r) (1/100000000000000) := ⟨by grind, by grind⟩
  have d2 := d1.mul (show Ab (ρ + r) 4 from ⟨by grind, by grind⟩) (by grind)
  have b2 : Ab ε2 (1/10000000000) := by
    obtain ⟨d21, d22⟩ := d2
    have key : ε2 = (ρ - r) * (ρ + r) + (r * r - 1 - t * t) := by grind
    rw [key]
    constructor <;> grind
  have ht : Ab t (1001/1000) := ⟨h1, by grind⟩
  have hτ3 : Ab τ (51/100) := ⟨hτ2, by grind⟩
  have p1 := b1.mul ht (by grind)
  have key : ((ρ - 1) - τ * t) * R = ε2 - ε1 * t := by grind
  have p2 : Ab ((ρ - 1) - τ * t) (12/100000000000) := by
    have q : Ab (((ρ - 1) - τ * t) * R) (12/100000000000) := by
      rw [key]
      obtain ⟨p11, p12⟩ := p1; obtain ⟨b21, b22⟩ := b2
      constructor <;> grind
    exact (q.div (show (0 : Rat) < 1 by grind) (by grind)).weak (by grind)
  have p3 := hτ3.mul p2 (by grind)
  have p4 := b1.mul (hτ3.mul hτ3 (by grind)) (by grind)
  obtain ⟨p31, p32⟩ := p3; obtain ⟨p41, p42⟩ := p4; obtain ⟨b11, b12⟩ := b1
  have p5 := hτ3.mul (hτ3.mul (show Ab ε1 (1/100000000000) from ⟨b11, b12⟩) (by grind)) (by grind)
  obtain ⟨p51, p52⟩ := p5
  have key2 : t * (1 - τ * τ) - 2 * τ = τ * ((ρ - 1) - τ * t) - τ * (τ * ε1) - ε1 + ε1 * (τ * τ) := by grind
  rw [key2]
  constructor <;> grind
/-! ### the series -/
theorem sa_step {u s d : Nat} {U p : Rat} (hu : Rq u U) (hs : Rq s p) (h0 : 0 ≤ U) (h1 : U ≤ 101/10000) (hp : Ab p (2/5)) (hd : 2 ≤ d) (hd2 : d < 2 ^ 52) {D : Rat} (hD : D * ((d : Int) : Rat) = 1) :
    ∃ q, Rq (fop .sub .f64 (fop .quo .f64 ONE (floatOfInt .f64 (d : Int))) (fop .mul .f64 u s)) q ∧ Ab (q - (D - U * p)) (1/1000000000000) := by
  have hD2 : (2 : Rat) ≤ ((d : Int) : Rat) := Rat.intCast_le_intCast.2 (show (2 : Int) ≤ (d : Int) by omega)
  have hU : Ab U (101/10000) := ⟨h1, by grind⟩
  obtain ⟨b1, b2⟩ := hU.mul hp (by grind)
  obtain ⟨c, hc, c1, c2⟩ := Rv.quo Rv.one hd hd2 (by grind) (by grind)
  have hcD : Ab (c - D) (4/1125899906842624) := by
    have q : Ab ((c - D) * ((d : Int) : Rat)) (2/1125899906842624 * ((d : Int) : Rat)) := ⟨by grind, by grind⟩
    have hpos : (0 : Rat) < ((d : Int) : Rat) := by grind
    have q2 := q.div hpos (Rat.le_refl)
    refine q2.weak ?_
    have e : 2/1125899906842624 * ((d : Int) : Rat) / ((d : Int) : Rat) = 2/1125899906842624 := by
      rw [Rat.div_def, Rat.mul_assoc, Rat.mul_inv_cancel _ (by grind), Rat.mul_one]
    rw [e]
    grind
  obtain ⟨e1, e2⟩ := hcD
  have D1 : D ≤ 1/2 := by
    refine Rat.not_lt.1 fun hlt => ?_
    have a1 := Rat.mul_lt_mul_of_pos_right hlt (show (0 : Rat) < ((d : Int) : Rat) by grind)
    grind
  have D0 : 0 ≤ D := by
    refine Rat.not_lt.1 fun hlt => ?_
    have a1 := Rat.mul_lt_mul_of_pos_right hlt (show (0 : Rat) < ((d : Int) : Rat) by grind)
    grind
  obtain ⟨m, hm, ⟨m1, m2⟩, _, _⟩ := Rq.mul 0 (by decide) hu hs (by rw [P2_k0]; grind) (by rw [P2_k0]; grind)
  rw [P2_k0] at m1 m2
  obtain ⟨q, hq, ⟨q1, q2⟩, _, _⟩ := Rq.sub 1 (by decide) (show Rq _ c from hc) hm (by rw [P2_k1]; grind) (by rw [P2_k1]; grind)
  rw [P2_k1] at q1 q2
  exact ⟨q, hq, by grind, by grind⟩
theorem serA_near {u : Nat} {U : Rat} (hu : Rq u U) (h0 : 0 ≤ U) (h1 : U ≤ 101/10000) : ∃ p, Rq (serA u 8) p ∧ Ab (p - (1 - 1/3 * U)) (1/40000) := by
  have hU : Ab U (101/10000) := ⟨h1, by grind⟩
  have r0 : Rq (serA u 0) 0 := Rv.zero
  have one : ∀ {D q p : Rat}, Ab p (2/5) → 0 ≤ D → D ≤ 1/3 → Ab (q - (D - U * p)) (1/1000000000000) → Ab q (2/5) := fun {D q p} hp hD0 hD1 hq => by
    obtain ⟨b1, b2⟩ := hU.mul hp (by grind)
    obtain ⟨q1, q2⟩ := hq
    exact ⟨by grind, by grind⟩
  obtain ⟨p1, k1, n1⟩ := sa_step (d := 15) (D := 1/15) hu r0 h0 h1 ⟨by grind, by grind⟩ (by decide) (by decide) (by show (1/15 : Rat) * 15 = 1; grind)
  have a1 := one ⟨by grind, by grind⟩ (by grind) (by grind) n1
  obtain ⟨p2, k2, n2⟩ := sa_step (d := 13) (D := 1/13) hu k1 h0 h1 a1 (by decide) (by decide) (by show (1/13 : Rat) * 13 = 1; grind)
  have a2 := one a1 (by grind) (by grind) n2
  obtain ⟨p3, k3, n3⟩ := sa_step (d := 11) (D := 1/11) hu k2 h0 h1 a2 (by decide) (by decide) (by show (1/11 : Rat) * 11 = 1; grind)
  have a3 := one a2 (by grind) (by grind) n3
  obtain ⟨p4, k4, n4⟩ := sa_step (d := 9) (D := 1/9) hu k3 h0 h1 a3 (by decide) (by decide) (by show (1/9 : Rat) * 9 = 1; grind)
  have a4 := one a3 (by grind) (by grind) n4
  obtain ⟨p5, k5, n5⟩ := sa_step (d := 7) (D := 1/7) hu k4 h0 h1 a4 (by decide) (by decide) (by show (1/7 : Rat) * 7 = 1; grind)
  have a5 := one a4 (by grind) (by grind) n5
  obtain ⟨p6, k6, n6⟩ := sa_step (d := 5) (D := 1/5) hu k5 h0 h1 a5 (by decide) (by decide) (by show (1/5 : Rat) * 5 = 1; grind)
  have a6 := one a5 (by grind) (by grind) n6
  obtain ⟨p7, k7, n7⟩ := sa_step (d := 3) (D := 1/3) hu k6 h0 h1 a6 (by decide) (by decide) (by show (1/3 : Rat) * 3 = 1; grind)
  have a7 := one a6 (by grind) (by grind) n7
  obtain ⟨m, hm, ⟨m1, m2⟩, _, _⟩ := Rq.mul 0 (by decide) hu k7 (by rw [P2_k0]; have := (hU.mul a7 (by grind)).2; grind) (by rw [P2_k0]; have := (hU.mul a7 (by grind)).1; grind)
  rw [P2_k0] at m1 m2
  have hb7 := hU.mul a7 (by grind)
  obtain ⟨q, hq, ⟨q1, q2⟩, _, _⟩ := Rq.sub 1 (by decide) (show Rq ONE 1 from Rv.one) hm (by rw [P2_k1]; have := hb7.1; grind) (by rw [P2_k1]; have := hb7.2; grind)
  rw [P2_k1] at q1 q2
  refine ⟨q, ?_, ?_⟩
  · have e : fop .quo .f64 ONE (floatOfInt .f64 (15 - 2 * ((7 : Nat) : Int))) = ONE := by decide +kernel
    show Rq (fop .sub .f64 (fop .quo .f64 ONE (floatOfInt .f64 (15 - 2 * ((7 : Nat) : Int)))) (fop .mul .f64 u (serA u 7))) q
    rw [e]
    exact hq
  · have b5 := hU.mul a5 (by grind)
    obtain ⟨n61, n62⟩ := n6
    obtain ⟨b51, b52⟩ := b5
    have b6 : Ab p6 (41/200) := ⟨by grind, by grind⟩
    obtain ⟨n71, n72⟩ := n7
    obtain ⟨c61, c62⟩ := hU.mul b6 (by grind)
    have b7 : Ab (p7 - 1/3) (21/10000) := ⟨by grind, by grind⟩
    obtain ⟨c71, c72⟩ := hU.mul b7 (by grind)
    constructor <;> grind
/-! ### flat angles -/
theorem half_le {t τ c d : Rat} (h : Ab (t * (1 - τ * τ) - 2 * τ) (1/1000000000)) (ht : t ≤ d) (t0 : 0 ≤ τ) (t1 : τ ≤ 51/100) (c0 : 0 ≤ c) (hc : d * (1 - c * c) + 1/1000000 < 2 * c) (hd : 0 ≤ d) : τ ≤ c := by
  refine Rat.not_lt.1 fun hlt => ?_
  have a1 : c * c ≤ τ * c := Rat.mul_le_mul_of_nonneg_right (Rat.le_of_lt hlt) c0
  have a2 : τ * c ≤ τ * τ := Rat.mul_le_mul_of_nonneg_left (Rat.le_of_lt hlt) t0
  have a3 : τ * τ ≤ 51/100 * τ := Rat.mul_le_mul_of_nonneg_right t1 t0
  have a4 : t * (1 - τ * τ) ≤ d * (1 - τ * τ) := Rat.mul_le_mul_of_nonneg_right ht (by grind)
  have a5 : d * (c * c) ≤ d * (τ * τ) := Rat.mul_le_mul_of_nonneg_left (by grind) hd
  have := h.2
  grind
def QT : Rat := 7074237752028440/1125899906842624
theorem rq_tau : Rq TAU QT := Rv.tau
theorem rq_eight : Rq EIGHT 8 := by
  refine ⟨by decide, ?_⟩
  have h : sv FloatKind.f64.format EIGHT = 8 * ((p2 1074 : Nat) : Int) := by decide +kernel
  rw [h, Rat.intCast_mul]
  rfl
/-- The angle of a tangent: where its sine and its cosine stand. -/
theorem flat_near {T : Nat} {t : Rat} (h : Rq T t) (hn : neg FloatKind.f64.format T = false) (h1 : t ≤ 1001/1000) :
    ∃ F x, Rq (flatA T) F ∧ 0 ≤ x ∧ x ≤ 4/5 ∧ Ab (F * QT - x) (1/1000000000) ∧ Ab (sP x - t * cP x) (1/700) ∧ Ab F (1/7) := by
  have t0 := nn_rq h hn
  obtain ⟨τ1, k1, n1, z1, l1, r1⟩ := rt_near h hn h1
  have c1 := half_le (c := 4152/10000) (d := 1001/1000) r1 h1 z1 l1 (by grind) (by grind) (by grind)
  obtain ⟨τ2, k2, n2, z2, l2, r2⟩ := rt_near k1 n1 (by grind)
  have c2 := half_le (c := 2/10) (d := 4152/10000) r2 c1 z2 l2 (by grind) (by grind) (by grind)
  obtain ⟨τ3, k3, n3, z3, l3, r3⟩ := rt_near k2 n2 (by grind)
  have c3 := half_le (c := 995/10000) (d := 2/10) r3 c2 z3 l3 (by grind) (by grind) (by grind)
  have k3' : Rq (rtN T 3) τ3 := k3
  have tt : τ3 * τ3 ≤ 995/10000 * τ3 := Rat.mul_le_mul_of_nonneg_right c3 z3
  have tt0 : 0 ≤ τ3 * τ3 := Rat.mul_nonneg z3 z3
  obtain ⟨U, hU, ⟨U1, U2⟩, _, _⟩ := Rq.mul 0 (by decide) k3' k3' (by rw [P2_k0]; grind) (by rw [P2_k0]; grind)
  rw [P2_k0] at U1 U2
  have hUn : 0 ≤ U := nn_rq hU (mul_nn k3'.1)
  obtain ⟨p, hp, p1, p2⟩ := serA_near hU hUn (by grind)
  have hpp : Ab (p - (1 - 1/3 * (τ3 * τ3))) (26/1000000) := ⟨by grind, by grind⟩
  have p0 : 0 ≤ p := by grind
  have pb : p ≤ 1 + 26/1000000 := by grind
  obtain ⟨u, eu⟩ : ∃ u, u = τ3 * p := ⟨_, rfl⟩
  have u0 : 0 ≤ u := by rw [eu]; exact Rat.mul_nonneg z3 p0
  have u1 : u ≤ 9953/100000 := by
    have a1 : τ3 * p ≤ τ3 * (1 + 26/1000000) := Rat.mul_le_mul_of_nonneg_left pb z3
    grind
  obtain ⟨_, b0⟩ := base (t := τ3) (p := p) (u := u) z3 (by grind) (hpp.weak (by grind)) eu
  have d1 := dbl_tan (t := τ2) (τ := τ3) u0 (by grind) ⟨by grind, by grind⟩ ⟨by grind, by grind⟩ r3 b0 (by grind) (by grind)
  have d2 := dbl_tan (x := 2 * u) (t := τ1) (τ := τ2) (by grind) (by grind) ⟨by grind, by grind⟩ ⟨by grind, by grind⟩ r2 d1 (by grind) (by grind)
  have d3 := dbl_tan (x := 2 * (2 * u)) (t := t) (τ := τ1) (by grind) (by grind) ⟨by grind, by grind⟩ ⟨by grind, by grind⟩ r1 d2 (by grind) (by grind)
  -- the word
  have hτp := (show Ab τ3 (995/10000) from ⟨c3, by grind⟩).mul (show Ab p (11/10) from ⟨by grind, by grind⟩) (by grind)
  obtain ⟨m, hm, ⟨m1, m2⟩, _, _⟩ := Rq.mul 0 (by decide) k3' hp (by rw [P2_k0]; have := hτp.2; grind) (by rw [P2_k0]; have := hτp.1; grind)
  rw [P2_k0] at m1 m2
  obtain ⟨g, hg, ⟨g1, g2⟩, _, _⟩ := Rq.mul 1 (by decide) rq_eight hm (by rw [P2_k1]; have := hτp.2; grind) (by rw [P2_k1]; have := hτp.1; grind)
  rw [P2_k1] at g1 g2
  have hQ : (6 : Rat) ≤ QT := by unfold QT; grind
  have hQ2 : QT ≤ 63/10 := by unfold QT; grind
  obtain ⟨F, hF, ⟨F1, F2⟩, _, _⟩ := Rq.quo 0 (by decide) hg rq_tau (B := QT) (A := 8/10) (by grind) (.inl rfl) ⟨by grind, by grind⟩ (by rw [P2_k0]; grind)
  rw [P2_k0] at F1 F2
  have hFx : Ab (F * QT - 8 * u) (1/1000000000) := ⟨by grind, by grind⟩
  refine ⟨F, 8 * u, hF, by grind, by grind, hFx, ?_, ?_⟩
  · have e : 2 * (2 * (2 * u)) = 8 * u := by grind
    rw [e] at d3
    exact d3.weak (by grind)
  · have q : Ab (F * QT) (8/10) := ⟨by have := hFx.1; grind, by have := hFx.2; grind⟩
    exact (q.div (show (0 : Rat) < 6 by grind) hQ).weak (by grind)
theorem cP_ge {x : Rat} (h0 : 0 ≤ x) (h1 : x ≤ 4/5) : 2/3 ≤ cP x ∧ cP x ≤ 1 := by
  have b2 := pow_bd h0 h1 2; have b4 := pow_bd h0 h1 4; have b6 := pow_bd h0 h1 6; have b8 := pow_bd h0 h1 8
  have c4 : x^4 ≤ 16/25 * x^2 := by
    have e : x^4 = x^2 * x^2 := by grind
    rw [e]
    rw [show (4/5 : Rat)^2 = 16/25 by decide +kernel] at b2
    exact Rat.mul_le_mul_of_nonneg_right b2.2 b2.1
  have c8 : x^8 ≤ 16/25 * x^6 := by
    have e : x^8 = x^2 * x^6 := by grind
    rw [e]
    rw [show (4/5 : Rat)^2 = 16/25 by decide +kernel] at b2
    exact Rat.mul_le_mul_of_nonneg_right b2.2 b6.1
  have c6 : x^6 ≤ 16/25 * x^4 := by
    have e : x^6 = x^2 * x^4 := by grind
    rw [e]
    rw [show (4/5 : Rat)^2 = 16/25 by decide +kernel] at b2
    exact Rat.mul_le_mul_of_nonneg_right b2.2 b4.1
  rw [show (4/5 : Rat)^2 = 16/25 by decide +kernel] at b2
  unfold cP
  generalize x^2 = x2 at *
  generalize x^4 = x4 at *
  generalize x^6 = x6 at *
  generalize x^8 = x8 at *
  constructor <;> grind
/-! ### narrowing -/
theorem nar_places9 {m u X n : Nat} (hn : n = 925) (h : m * 2 ^ u = X) : m * 2 ^ ((-1074 + (u : Int)) + 149).toNat * p2 n = X * 2 ^ (-149 - (-1074 + (u : Int))).toNat := by
  rw [← h, p2_eq]
  by_cases hc : u ≤ n
  · rw [show ((-1074 + (u : Int)) + 149).toNat = 0 by omega, show (-149 - (-1074 + (u : Int))).toNat = n - u by omega, Nat.pow_zero, Nat.mul_one, Nat.mul_assoc, ← Nat.pow_add, show u + (n - u) = n by omega]
  · rw [show ((-1074 + (u : Int)) + 149).toNat = u - n by omega, show (-149 - (-1074 + (u : Int))).toNat = 0 by omega, Nat.pow_zero, Nat.mul_one, Nat.mul_assoc, ← Nat.pow_add, show u - n + n = u by omega]
theorem nar_cut {V A X B E G : Nat} (hB : 0 < B) (e : A * E = X * B) (h1 : V * B ≤ A + G * B) (h2 : A ≤ V * B + G * B) : V * E ≤ X + G * E ∧ X ≤ V * E + G * E := by
  constructor
  · refine Nat.le_of_mul_le_mul_right (c := B) ?_ hB
    have := Nat.mul_le_mul_right E h1
    rw [Nat.add_mul, e] at this
    calc V * E * B = V * B * E := by rw [Nat.mul_right_comm]
      _ ≤ X * B + G * B * E := this
      _ = (X + G * E) * B := by rw [Nat.add_mul, Nat.mul_right_comm G B E]
  · refine Nat.le_of_mul_le_mul_right (c := B) ?_ hB
    have := Nat.mul_le_mul_right E h2
    rw [Nat.add_mul, e] at this
    calc X * B ≤ V * B * E + G * B * E := this
      _ = (V * E + G * E) * B := by rw [Nat.add_mul, Nat.mul_right_comm V B E, Nat.mul_right_comm G B E]
theorem nar_top {V A X B E : Nat} (hB : 0 < B) (hE : 0 < E) (e : A * E = X * B) (h : X ≤ V * E) : A ≤ V * B := by
  refine Nat.le_of_mul_le_mul_right (c := E) ?_ hE
  rw [e]
  calc X * B ≤ V * E * B := Nat.mul_le_mul_right _ h
    _ = V * B * E := by rw [Nat.mul_right_comm]
theorem nar_alg {a b x w P E G : Rat} (hP : 0 < P) (hE : 0 < E) (hG : P = G * 8388608) (h1 : x = a * (P * E)) (h2 : w = b * P) (d1 : w * E ≤ x + G * E) (d2 : x ≤ w * E + G * E) : Ab (b - a) (1/8388608) := by
  have hPE := Rat.mul_pos hP hE
  have e1 : (b - a) * (P * E) = w * E - x := by rw [h1, h2]; grind
  have e2 : 1/8388608 * (P * E) = G * E := by rw [hG]; grind
  have e3 : -(1/8388608) * (P * E) = -(G * E) := by rw [← e2]; grind
  constructor
  · refine Rat.not_lt.1 fun hlt => ?_
    have := mul_grow hPE hlt
    rw [e1, e2] at this
    grind
  · refine Rat.not_lt.1 fun hlt => ?_
    have := mul_grow hPE hlt
    rw [e1, e3] at this
    grind
theorem nar_near {x : Nat} {a : Rat} (hx : Rq x a) (ha : Ab a 2) : ∃ b, Rw (nar x) b ∧ Ab (b - a) (1/8388608) := by
  have hn : nan .f64 x = false := Rv.nan hx
  obtain ⟨m, u, e1, h1⟩ := read_any hx.1
  have er : nar x = FloatKind.f32.format.nearest (neg FloatKind.f64.format x) m (-1074 + (u : Int)) := by
    unfold nar
    rw [hn, if_neg (by decide), e1]
    rfl
  have hsg : neg FloatKind.f32.format (nar x) = neg FloatKind.f64.format x := by rw [er]; exact nearest_neg ..
  have hX : V FloatKind.f64.format (rung FloatKind.f64.format x) ≤ p2 (126 + 24) * p2 925 := by
    have h2 := hx.2
    have hT := P2_pos 1074
    have b1 := mul_up hT ha.1
    have b2 := mul_up hT ha.2
    have b3 : (((V FloatKind.f64.format (rung FloatKind.f64.format x) : Nat) : Int) : Rat) ≤ (((p2 1075 : Nat) : Int) : Rat) := by
      show _ ≤ P2 1075
      rw [show (1075 : Nat) = 1074 + 1 from rfl, P2_add, show P2 1 = 2 by decide +kernel]
      unfold sv at h2
      by_cases hs : neg FloatKind.f64.format x = true
      · rw [if_pos hs, Rat.intCast_neg] at h2
        have h3 : -(((V FloatKind.f64.format (rung FloatKind.f64.format x) : Nat) : Int) : Rat) = a * P2 1074 := h2
        grind
      · rw [if_neg hs] at h2
        have h3 : (((V FloatKind.f64.format (rung FloatKind.f64.format x) : Nat) : Int) : Rat) = a * P2 1074 := h2
        grind
    rw [← p2_add]
    have b4 := Rat.intCast_le_intCast.1 b3
    exact Int.ofNat_le.1 b4
  obtain ⟨N, hN⟩ : ∃ N, N = 925 := ⟨_, rfl⟩
  have hpl := nar_places9 hN h1
  have hB : 0 < 2 ^ (-149 - (-1074 + (u : Int))).toNat := Nat.two_pow_pos _
  obtain ⟨n1, n2, n3, _⟩ := near32 (neg FloatKind.f64.format x) (m := m) (p := -1074 + (u : Int)) 126 (by decide) rfl rfl (nar_top hB (p2_pos N) hpl (by rw [hN]; exact hX))
  rw [← er] at n1 n2 n3
  obtain ⟨c1, c2⟩ := nar_cut hB hpl n2 n3
  rw [hN] at c1 c2
  obtain ⟨b, hb⟩ := Rw.ex n1
  refine ⟨b, hb, ?_⟩
  have hT := P2_pos 149
  have hE := P2_pos 925
  have e74 : P2 1074 = P2 149 * P2 925 := by rw [← P2_add]
  have e24 : P2 149 = P2 126 * 8388608 := by rw [show (149 : Nat) = 126 + 23 from rfl, P2_add]; rfl
  have d1 := Rat.intCast_le_intCast.2 (Int.ofNat_le.2 c1)
  have d2 := Rat.intCast_le_intCast.2 (Int.ofNat_le.2 c2)
  rw [Int.natCast_mul, Int.natCast_add, Int.natCast_mul, Rat.intCast_mul, Rat.intCast_add, Rat.intCast_mul] at d1
  rw [Int.natCast_add, Int.natCast_mul, Int.natCast_mul, Rat.intCast_add, Rat.intCast_mul, Rat.intCast_mul] at d2
  have f1 := hx.2
  have f2 := hb.2
  unfold sv at f1 f2
  rw [hsg] at f2
  have f1' : ((if neg FloatKind.f64.format x = true then -(((V FloatKind.f64.format (rung FloatKind.f64.format x) : Nat) : Int)) else (((V FloatKind.f64.format (rung FloatKind.f64.format x) : Nat) : Int)) : Int) : Rat) = a * P2 1074 := f1
  rw [e74] at f1'
  change (((V FloatKind.f32.format (rung FloatKind.f32.format (nar x)) : Nat) : Int) : Rat) * P2 925 ≤ (((V FloatKind.f64.format (rung FloatKind.f64.format x) : Nat) : Int) : Rat) + P2 126 * P2 925 at d1
  change (((V FloatKind.f64.format (rung FloatKind.f64.format x) : Nat) : Int) : Rat) ≤ (((V FloatKind.f32.format (rung FloatKind.f32.format (nar x)) : Nat) : Int) : Rat) * P2 925 + P2 126 * P2 925 at d2
  generalize V FloatKind.f64.format (rung FloatKind.f64.format x) = X at *
  generalize V FloatKind.f32.format (rung FloatKind.f32.format (nar x)) = W at *
  clear n1 n2 n3 c1 c2 hpl hX h1 e1
  by_cases hs : neg FloatKind.f64.format x = true
  · rw [if_pos hs, Rat.intCast_neg] at f1' f2
    have r := nar_alg (a := -a) (b := -b) hT hE e24 (by rw [Rat.neg_mul, ← f1', Rat.neg_neg]) (by rw [Rat.neg_mul, ← f2, Rat.neg_neg]) d1 d2
    exact ⟨by have := r.2; grind, by have := r.1; grind⟩
  · rw [if_neg hs] at f1' f2
    exact nar_alg hT hE e24 f1' f2 d1 d2
/-! ### no more than a half -/
theorem V32_half : V FloatKind.f32.format 1056964608 = p2 148 := by decide +kernel
theorem V32_hnext : V FloatKind.f32.format (1056964608 + 1) = p2 148 + p2 125 := by decide +kernel
theorem nar_half {x : Nat} (hx : rung FloatKind.f64.format x < FloatKind.f64.format.infRung) (h : V FloatKind.f64.format (rung FloatKind.f64.format x) * 536870912 ≤ 536870913 * p2 1073) : rung FloatKind.f32.format (nar x) ≤ 1056964608 := by
  have hn : nan .f64 x = false := by unfold Fl.nan isNaN; exact decide_eq_false (by omega)
  obtain ⟨m, u, e1, h1⟩ := read_any hx
  unfold nar
  rw [if_neg (by rw [hn]; simp), e1]
  unfold Format.write
  dsimp only
  rw [nearest_rung]
  split
  · exact Nat.zero_le _
  · rename_i h0
    refine Nat.le_trans (Nat.min_le_left _ _) (rnd_mid FloatKind.f32.format _ h0 ?_)
    rw [lp32, V32_half, V32_hnext]
    rw [← h1, ← p2_eq] at h
    have key : 2 * (m * p2 u) < (p2 148 + (p2 148 + p2 125)) * p2 925 := by
      have k1 : p2 1073 = 8388608 * (p2 125 * p2 925) := by rw [← p2_add, show (1073 : Nat) = 23 + (125 + 925) from rfl, p2_add, show p2 23 = 8388608 by decide]
      have k2 : p2 148 = 8388608 * p2 125 := by rw [show (148 : Nat) = 23 + 125 from rfl, p2_add, show p2 23 = 8388608 by decide]
      rw [k2, Nat.add_mul, Nat.add_mul, Nat.mul_assoc]
      rw [k1] at h
      have hp : 0 < p2 125 * p2 925 := Nat.mul_pos (p2_pos _) (p2_pos _)
      generalize p2 125 * p2 925 = K at *
      generalize m * p2 u = M at *
      omega
    generalize p2 148 + (p2 148 + p2 125) = R at *
    by_cases h4 : u ≤ 925
    · have e3 : (-1074 + (u : Int) - (-149)).toNat = 0 := by omega
      have e4 : (-149 - (-1074 + (u : Int))).toNat = 925 - u := by omega
      rw [e3, e4, Nat.pow_zero, Nat.mul_one, ← p2_eq]
      have hs : p2 925 = p2 (925 - u) * p2 u := by rw [← p2_add]; exact congrArg p2 (by omega)
      rw [hs, ← Nat.mul_assoc, ← Nat.mul_assoc] at key
      exact Nat.lt_of_mul_lt_mul_right key
    · have e3 : (-1074 + (u : Int) - (-149)).toNat = u - 925 := by omega
      have e4 : (-149 - (-1074 + (u : Int))).toNat = 0 := by omega
      rw [e3, e4, Nat.pow_zero, Nat.mul_one, ← p2_eq]
      have hs : p2 u = p2 (u - 925) * p2 925 := by rw [← p2_add]; exact congrArg p2 (by omega)
      rw [hs, ← Nat.mul_assoc, ← Nat.mul_assoc] at key
      exact Nat.lt_of_mul_lt_mul_right key
end Go.Fl
set_option linter.unusedSimpArgs false
set_option linter.unusedVariables false
namespace Go.Proofs.Ytpnmledanloboaa
open Go.Fl Go.Sb Ieee

def ab (a : Rat) : Rat := if 0 ≤ a then a else -a
theorem ab_nn (a : Rat) : 0 ≤ ab a := by unfold ab; split <;> grind
theorem abs_rq {x : Nat} {a : Rat} (hx : Rq x a) : Rq (fabs x) (ab a) ∧ neg FloatKind.f64.format (fabs x) = false := by
  have hn : nan .f64 x = false := Rv.nan hx
  have e : fabs x = x % 2 ^ 63 := by unfold fabs; rw [hn]; rfl
  have hT := P2_pos 1074
  refine ⟨⟨?_, ?_⟩, by rw [e]; exact neg_mod63 x⟩
  · rw [rung_fabs hn]; exact hx.1
  · have h2 := hx.2
    unfold sv at h2 ⊢
    rw [show neg FloatKind.f64.format (fabs x) = false by rw [e]; exact neg_mod63 x, rung_fabs hn]
    have hV : (0 : Rat) ≤ (((V FloatKind.f64.format (rung FloatKind.f64.format x) : Nat) : Int) : Rat) := Rat.intCast_le_intCast.2 (Int.natCast_nonneg _)
    show (((V FloatKind.f64.format (rung FloatKind.f64.format x) : Nat) : Int) : Rat) = ab a * P2 1074
    generalize V FloatKind.f64.format (rung FloatKind.f64.format x) = W at *
    by_cases hs : neg FloatKind.f64.format x = true
    · rw [if_pos hs, Rat.intCast_neg] at h2
      have h3 : -(((W : Nat) : Int) : Rat) = a * P2 1074 := h2
      unfold ab
      split
      · rename_i h0
        have h4 := Rat.mul_nonneg h0 (Rat.le_of_lt hT)
        grind
      · grind
    · rw [if_neg hs] at h2
      have h3 : (((W : Nat) : Int) : Rat) = a * P2 1074 := h2
      unfold ab
      split
      · exact h3
      · rename_i h0
        exfalso
        have h4 := mul_grow hT (Rat.not_le.1 h0)
        grind
theorem rq_pos {x : Nat} {a : Rat} (h : Rq x a) (ha : 0 < a) : 0 < V FloatKind.f64.format (rung FloatKind.f64.format x) := by
  refine Nat.pos_of_ne_zero fun hz => ?_
  have h2 := h.2
  unfold sv at h2
  rw [rq_neg h ha, if_neg (by decide), hz] at h2
  have hT := Rat.mul_pos ha (P2_pos 1074)
  have h3 : ((((0 : Nat) : Int)) : Rat) = 0 := rfl
  rw [h3] at h2
  have h4 : (0 : Rat) = a * P2 1074 := h2
  grind
theorem QT_bd : 62831/10000 ≤ QT ∧ QT ≤ 62832/10000 ∧ Ab (QT * (1/4) - 3927/2500) (1/200000) := by
  unfold QT
  refine ⟨by grind, by grind, by grind, by grind⟩
/-- The angle of a point of the first quarter. -/
theorem steep_near {A B : Nat} {y b : Rat} (hA : Rq A y) (nA : neg FloatKind.f64.format A = false) (hB : Rq B b) (nB : neg FloatKind.f64.format B = false) (hc : Ab (y * y + b * b - 1) (1/200000)) :
    ∃ G, Rq (steep A B) G ∧ Ab (sP (QT * (1/4 - G)) - b) (7/1000) ∧ -(2/10000000000) ≤ G ∧ G ≤ 1/4 + 1/1000000 ∧ Ab (QT * (1/4 - G)) (8/5) := by
  have y0 := nn_rq hA nA
  have b0 := nn_rq hB nB
  obtain ⟨c1, c2⟩ := hc
  obtain ⟨Q1, Q2, Q3⟩ := QT_bd
  have yy := Rat.mul_nonneg y0 y0
  have bb := Rat.mul_nonneg b0 b0
  have y1 : y ≤ 1001/1000 := by
    refine Rat.not_lt.1 fun hlt => ?_
    have a1 := Rat.mul_le_mul_of_nonneg_right (Rat.le_of_lt hlt) y0
    grind
  have b1 : b ≤ 1001/1000 := by
    refine Rat.not_lt.1 fun hlt => ?_
    have a1 := Rat.mul_le_mul_of_nonneg_right (Rat.le_of_lt hlt) b0
    grind
  unfold steep
  split
  · rename_i hg
    have hlt : b < y := (Rv.gtr hA hB).1 hg
    have yk : 7/10 ≤ y := by
      refine Rat.not_lt.1 fun h => ?_
      have a1 := Rat.mul_le_mul_of_nonneg_right (Rat.le_of_lt h) y0
      have a2 := Rat.mul_le_mul_of_nonneg_right (Rat.le_of_lt hlt) b0
      have a3 := Rat.mul_le_mul_of_nonneg_left (Rat.le_of_lt hlt) y0
      grind
    obtain ⟨t, ht, ⟨t1, t2⟩, _, _⟩ := Rq.quo 1 (by decide) hB hA (B := y) (A := b) (by grind) (.inl rfl) ⟨Rat.le_refl, by grind⟩ (by rw [P2_k1]; grind)
    rw [P2_k1] at t1 t2
    have nt := quo_nn hB.1 hA.1 nB nA (rq_pos hA (by grind))
    have t0 := nn_rq ht nt
    have tl : t ≤ 1001/1000 := by
      refine Rat.not_lt.1 fun h => ?_
      have a1 := Rat.mul_le_mul_of_nonneg_right (Rat.le_of_lt h) y0
      grind
    obtain ⟨F, x, hF, x0, x1, f1, f2, f3⟩ := flat_near ht nt tl
    have hcP := cP_ge x0 x1
    obtain ⟨_, s2⟩ := fin_sc (S := sP x) (C := cP x) (t := t) (k := y) (s := b) f2 (circ x0 x1) hcP.1 (by grind) t0 tl yk (by grind) ⟨by grind, by grind⟩ ⟨by grind, by grind⟩ (by grind)
    obtain ⟨f31, f32⟩ := f3
    obtain ⟨G, hG, ⟨G1, G2⟩, _, _⟩ := Rq.sub 0 (by decide) (show Rq QUART (1/4) from Rv.quart) hF (by rw [P2_k0]; grind) (by rw [P2_k0]; grind)
    rw [P2_k0] at G1 G2
    have d := (show Ab (1/4 - G - F) (1/1000000000000) from ⟨by grind, by grind⟩).mul (show Ab QT (63/10) from ⟨by grind, by grind⟩) (by grind)
    have F0 : -(17/100000000000) ≤ F := by
      have h1 : Ab (F * QT - x) (1/1000000000) := f1
      refine Rat.not_lt.1 fun h => ?_
      have a1 := Rat.mul_lt_mul_of_pos_right h (show (0 : Rat) < QT by grind)
      have := h1.2
      grind
    have dz : Ab (QT * (1/4 - G) - x) (2/1000000000) := by
      obtain ⟨d1, d2⟩ := d; obtain ⟨f11, f12⟩ := f1
      have e : QT * (1/4 - G) - x = (1/4 - G - F) * QT + (F * QT - x) := by grind
      rw [e]
      constructor <;> grind
    have hz : Ab (QT * (1/4 - G)) (8/5) := ⟨by have := dz.1; grind, by have := dz.2; grind⟩
    obtain ⟨l1, l2⟩ := lip hz (show Ab x (8/5) from ⟨by grind, by grind⟩) dz
    obtain ⟨s21, s22⟩ := s2
    exact ⟨G, hG, ⟨by grind, by grind⟩, by grind, by grind, hz⟩
  · rename_i hg
    have hle : y ≤ b := Rat.not_lt.1 fun h => hg ((Rv.gtr hA hB).2 h)
    have bk : 7/10 ≤ b := by
      refine Rat.not_lt.1 fun h => ?_
      have a1 := Rat.mul_le_mul_of_nonneg_right (Rat.le_of_lt h) b0
      have a2 := Rat.mul_le_mul_of_nonneg_right hle y0
      have a3 := Rat.mul_le_mul_of_nonneg_left hle b0
      grind
    obtain ⟨t, ht, ⟨t1, t2⟩, _, _⟩ := Rq.quo 1 (by decide) hA hB (B := b) (A := y) (by grind) (.inl rfl) ⟨Rat.le_refl, by grind⟩ (by rw [P2_k1]; grind)
    rw [P2_k1] at t1 t2
    have nt := quo_nn hA.1 hB.1 nA nB (rq_pos hB (by grind))
    have t0 := nn_rq ht nt
    have tl : t ≤ 1001/1000 := by
      refine Rat.not_lt.1 fun h => ?_
      have a1 := Rat.mul_le_mul_of_nonneg_right (Rat.le_of_lt h) b0
      grind
    obtain ⟨F, x, hF, x0, x1, f1, f2, f3⟩ := flat_near ht nt tl
    have hcP := cP_ge x0 x1
    obtain ⟨s1, _⟩ := fin_sc (S := sP x) (C := cP x) (t := t) (k := b) (s := y) f2 (circ x0 x1) hcP.1 (by grind) t0 tl bk (by grind) ⟨by grind, by grind⟩ ⟨by grind, by grind⟩ (by grind)
    obtain ⟨f31, f32⟩ := f3
    have F0 : -(17/100000000000) ≤ F := by
      have h1 : Ab (F * QT - x) (1/1000000000) := f1
      refine Rat.not_lt.1 fun h => ?_
      have a1 := Rat.mul_lt_mul_of_pos_right h (show (0 : Rat) < QT by grind)
      have := h1.2
      grind
    have dz : Ab (QT * (1/4 - F) - (3927/2500 - x)) (6/1000000) := by
      obtain ⟨d1, d2⟩ := Q3; obtain ⟨f11, f12⟩ := f1
      have e : QT * (1/4 - F) - (3927/2500 - x) = (QT * (1/4) - 3927/2500) - (F * QT - x) := by grind
      rw [e]
      constructor <;> grind
    have hz : Ab (QT * (1/4 - F)) (8/5) := ⟨by have := dz.1; grind, by have := dz.2; grind⟩
    obtain ⟨l1, l2⟩ := lip hz (show Ab (3927/2500 - x) (8/5) from ⟨by grind, by grind⟩) dz
    obtain ⟨q1, q2⟩ := quart_s x0 x1
    obtain ⟨s11, s12⟩ := s1
    exact ⟨F, hF, ⟨by grind, by grind⟩, by grind, by grind, hz⟩
/-- The angle of a point of the upper half. -/
theorem angW_near {Y C : Nat} {y q : Rat} (hY : Rq Y y) (hy : 0 ≤ y) (hC : Rq C q) (hc : Ab (y * y + q * q - 1) (1/200000)) :
    ∃ G, Rq (angW Y C) G ∧ Ab (sP (QT * (1/4 - G)) - q) (71/10000) ∧ -(2/10000000000) ≤ G ∧ G ≤ 1/2 + 3/10000000000 := by
  obtain ⟨a1, n1⟩ := abs_rq hY
  obtain ⟨a2, n2⟩ := abs_rq hC
  have ey : ab y = y := by unfold ab; rw [if_pos hy]
  rw [ey] at a1
  have eq2 : ab q * ab q = q * q := by unfold ab; split <;> grind
  obtain ⟨Q1, Q2, _⟩ := QT_bd
  obtain ⟨G, hG, ⟨s1, s2⟩, g1, g2, hz⟩ := steep_near a1 n1 a2 n2 (by rw [eq2]; exact hc)
  have hYn : fcmp .lss .f64 Y 0 = false := by
    cases h : fcmp .lss .f64 Y 0 with
    | false => rfl
    | true => exact absurd ((Rv.lss hY Rv.zero).1 h) (Rat.not_lt.2 hy)
  unfold angW turnY turnX
  rw [hYn, if_neg (by decide)]
  split
  · rename_i hl
    have hq : q < 0 := (Rv.lss hC Rv.zero).1 hl
    have ea : ab q = -q := by unfold ab; rw [if_neg (by grind)]
    rw [ea] at s1 s2
    obtain ⟨H, hH, ⟨H1, H2⟩, _, _⟩ := Rq.sub 0 (by decide) (show Rq HALF (1/2) from Rv.half) hG (by rw [P2_k0]; grind) (by rw [P2_k0]; grind)
    rw [P2_k0] at H1 H2
    have d := (show Ab ((1/4 - H) - -(1/4 - G)) (1/1000000000000) from ⟨by grind, by grind⟩).mul (show Ab QT (63/10) from ⟨by grind, by grind⟩) (by grind)
    have dz : Ab (QT * (1/4 - H) - -(QT * (1/4 - G))) (1/1000000000) := by
      obtain ⟨d1, d2⟩ := d
      have e : QT * (1/4 - H) - -(QT * (1/4 - G)) = ((1/4 - H) - -(1/4 - G)) * QT := by grind
      rw [e]
      constructor <;> grind
    have hz2 : Ab (-(QT * (1/4 - G))) (8/5) := ⟨by have := hz.2; grind, by have := hz.1; grind⟩
    have hz3 : Ab (QT * (1/4 - H)) (8/5) := by
      have b1 : -(25001/100000) ≤ 1/4 - H := by grind
      have b2 : 1/4 - H ≤ 1/100000 := by grind
      have m1 := (show Ab (1/4 - H) (25001/100000) from ⟨by grind, by grind⟩).mul (show Ab QT (63/10) from ⟨by grind, by grind⟩) (by grind)
      obtain ⟨m11, m12⟩ := m1
      exact ⟨by grind, by grind⟩
    obtain ⟨l1, l2⟩ := lip hz3 hz2 dz
    rw [sP_odd] at l1 l2
    exact ⟨H, hH, ⟨by grind, by grind⟩, by grind, by grind⟩
  · rename_i hl
    have hq : 0 ≤ q := Rat.not_lt.1 fun h => hl ((Rv.lss hC Rv.zero).2 h)
    have ea : ab q = q := by unfold ab; rw [if_pos hq]
    rw [ea] at s1 s2
    exact ⟨G, hG, ⟨by grind, by grind⟩, by grind, by grind⟩
/-! ### the sine -/
theorem neg_neg64 {x : Nat} : neg FloatKind.f64.format (Op.negFloat .f64 x) = !neg FloatKind.f64.format x := by
  have e : Op.negFloat .f64 x = x ^^^ 2 ^ 63 := rfl
  have en : ∀ y, neg FloatKind.f64.format y = (y / 2 ^ 63 % 2 == 1) := fun _ => rfl
  have et : ∀ y : Nat, (y / 2 ^ 63 % 2 == 1) = y.testBit 63 := fun y => by rw [Nat.testBit_eq_decide_div_mod_eq]; rfl
  rw [e, en, en, et, et, Nat.testBit_xor, Nat.testBit_two_pow]
  simp
theorem rq_fneg {x : Nat} {a : Rat} (h : Rq x a) (hl : x < 2 ^ FloatKind.f64.format.width) : Rq (fneg .f64 x) (-a) := by
  have hn : nan .f64 x = false := Rv.nan h
  have e : fneg .f64 x = Op.negFloat .f64 x := by unfold fneg; rw [hn]; rfl
  have e2 := (neg_rung hl).1
  rw [e]
  refine ⟨by rw [e2]; exact h.1, ?_⟩
  have h2 := h.2
  unfold sv at h2 ⊢
  rw [neg_neg64, e2]
  cases hs : neg FloatKind.f64.format x with
  | true =>
    rw [hs, if_pos rfl, Rat.intCast_neg] at h2
    show (((V FloatKind.f64.format (rung FloatKind.f64.format x) : Nat) : Int) : Rat) = -a * P2 1074
    have h3 : -(((V FloatKind.f64.format (rung FloatKind.f64.format x) : Nat) : Int) : Rat) = a * P2 1074 := h2
    grind
  | false =>
    rw [hs, if_neg (by decide)] at h2
    show ((-((V FloatKind.f64.format (rung FloatKind.f64.format x) : Nat) : Int) : Int) : Rat) = -a * P2 1074
    rw [Rat.intCast_neg]
    have h3 : (((V FloatKind.f64.format (rung FloatKind.f64.format x) : Nat) : Int) : Rat) = a * P2 1074 := h2
    grind
theorem pstep {u v h g e d : Rat} (u0 : 0 ≤ u) (u1 : u ≤ 5/2) (v0 : 0 ≤ v) (v1 : v ≤ 5/2) (h0 : 0 ≤ h) (h1 : h ≤ 1) (g0 : 0 ≤ g) (g1 : g ≤ 1) (huv : Ab (u - v) e) (hhg : Ab (h - g) e) (hd : 0 ≤ d) (hd2 : d ≤ 1/6) :
    Ab ((1 - d * u * h) - (1 - d * v * g)) e ∧ 0 ≤ 1 - d * u * h ∧ 1 - d * u * h ≤ 1 ∧ 0 ≤ 1 - d * v * g ∧ 1 - d * v * g ≤ 1 := by
  have e0 : 0 ≤ e := by have := huv.1; have := huv.2; grind
  have p1 := huv.mulsub hhg (show Ab h 1 from ⟨h1, by grind⟩) (show Ab v (5/2) from ⟨v1, by grind⟩) e0 (by grind)
  have p2 := (show Ab d (1/6) from ⟨hd2, by grind⟩).mul p1 (by grind)
  have m1 := Rat.mul_le_mul_of_nonneg_left h1 u0
  have m2 := Rat.mul_le_mul_of_nonneg_left g1 v0
  have m3 := Rat.mul_nonneg u0 h0
  have m4 := Rat.mul_nonneg v0 g0
  have n1 : d * (u * h) ≤ 1/6 * (u * h) := Rat.mul_le_mul_of_nonneg_right hd2 m3
  have n2 : d * (v * g) ≤ 1/6 * (v * g) := Rat.mul_le_mul_of_nonneg_right hd2 m4
  have n3 := Rat.mul_nonneg hd m3
  have n4 := Rat.mul_nonneg hd m4
  obtain ⟨p21, p22⟩ := p2
  have k1 : d * u * h = d * (u * h) := by grind
  have k2 : d * v * g = d * (v * g) := by grind
  rw [k1, k2]
  refine ⟨⟨by grind, by grind⟩, by grind, by grind, by grind, by grind⟩
theorem pol_lip {u v e : Rat} (u0 : 0 ≤ u) (u1 : u ≤ 5/2) (v0 : 0 ≤ v) (v1 : v ≤ 5/2) (huv : Ab (u - v) e) : Ab (pol u - pol v) e ∧ 0 ≤ pol u ∧ pol u ≤ 1 := by
  have e0 : 0 ≤ e := by have := huv.1; have := huv.2; grind
  obtain ⟨a1, b1, c1, d1, f1⟩ := pstep (d := 1/272) (h := 1) (g := 1) u0 u1 v0 v1 (by grind) (by grind) (by grind) (by grind) huv ⟨by grind, by grind⟩ (by grind) (by grind)
  obtain ⟨a2, b2, c2, d2, f2⟩ := pstep (d := 1/210) u0 u1 v0 v1 b1 c1 d1 f1 huv a1 (by grind) (by grind)
  obtain ⟨a3, b3, c3, d3, f3⟩ := pstep (d := 1/156) u0 u1 v0 v1 b2 c2 d2 f2 huv a2 (by grind) (by grind)
  obtain ⟨a4, b4, c4, d4, f4⟩ := pstep (d := 1/110) u0 u1 v0 v1 b3 c3 d3 f3 huv a3 (by grind) (by grind)
  obtain ⟨a5, b5, c5, d5, f5⟩ := pstep (d := 1/72) u0 u1 v0 v1 b4 c4 d4 f4 huv a4 (by grind) (by grind)
  obtain ⟨a6, b6, c6, d6, f6⟩ := pstep (d := 1/42) u0 u1 v0 v1 b5 c5 d5 f5 huv a5 (by grind) (by grind)
  obtain ⟨a7, b7, c7, d7, f7⟩ := pstep (d := 1/20) u0 u1 v0 v1 b6 c6 d6 f6 huv a6 (by grind) (by grind)
  obtain ⟨a8, b8, c8, d8, f8⟩ := pstep (d := 1/6) u0 u1 v0 v1 b7 c7 d7 f7 huv a7 (by grind) (by grind)
  have e : ∀ x : Rat, pol x = 1 - 1/6 * x * (1 - 1/20 * x * (1 - 1/42 * x * (1 - 1/72 * x * (1 - 1/110 * x * (1 - 1/156 * x * (1 - 1/210 * x * (1 - 1/272 * x * 1))))))) := fun x => by unfold pol; grind
  rw [e u, e v]
  exact ⟨a8, b8, c8⟩
theorem sineV_near {F : Nat} {f : Rat} (h : Rq (fold2 (fold1 F)) f) (hf : Ab f (2503/10000)) : ∃ R, Rq (sineV F) R ∧ Ab (R - sP (QT * f)) (2/100000) := by
  obtain ⟨Q1, Q2, _⟩ := QT_bd
  have hq := hf.mul (show Ab QT (62832/10000) from ⟨Q2, by grind⟩) (by grind)
  obtain ⟨q1, q2⟩ := hq
  obtain ⟨z, hz, ⟨z1, z2⟩, _, _⟩ := Rq.mul 1 (by decide) h rq_tau (by rw [P2_k1]; grind) (by rw [P2_k1]; grind)
  rw [P2_k1] at z1 z2
  have hz' : Rq (sineZ F) z := hz
  have hzb : Ab z (15728/10000) := ⟨by grind, by grind⟩
  obtain ⟨zz1, zz2⟩ := hzb.mul hzb (by grind)
  have zz0 := sq_nonneg z
  obtain ⟨U, hU, ⟨U1, U2⟩, _, _⟩ := Rq.mul 2 (by decide) hz' hz' (by rw [P2_k2]; grind) (by rw [P2_k2]; grind)
  rw [P2_k2] at U1 U2
  have hU0 := nn_rq hU (mul_nn hz'.1)
  obtain ⟨p, hp, p1, p2, p3, p4⟩ := ser_near hU hU0 (by grind)
  obtain ⟨⟨l1, l2⟩, _, _⟩ := pol_lip (u := U) (v := z * z) (e := 5/9007199254740992) hU0 (by grind) zz0 (by grind) ⟨by grind, by grind⟩
  have hpb : Ab p (1001/1000) := ⟨by grind, by grind⟩
  obtain ⟨w1, w2⟩ := hzb.mul hpb (by grind)
  obtain ⟨R, hR, ⟨R1, R2⟩, _, _⟩ := Rq.mul 1 (by decide) hz' hp (by rw [P2_k1]; grind) (by rw [P2_k1]; grind)
  rw [P2_k1] at R1 R2
  refine ⟨R, hR, ?_⟩
  obtain ⟨n1, n2⟩ := pol_near (hzb.weak (show (15728/10000 : Rat) ≤ 8/5 by grind))
  have d := hzb.mul (show Ab (p - pol (z * z)) (1/100000000000) from ⟨by grind, by grind⟩) (by grind)
  obtain ⟨d1, d2⟩ := d
  have hQf : Ab (QT * f) (8/5) := ⟨by grind, by grind⟩
  obtain ⟨k1, k2⟩ := lip (hzb.weak (show (15728/10000 : Rat) ≤ 8/5 by grind)) hQf (show Ab (z - QT * f) (1/1000000000) from ⟨by grind, by grind⟩)
  have e : z * (p - pol (z * z)) = z * p - z * pol (z * z) := by grind
  rw [e] at d1 d2
  constructor <;> grind
def tgt (T : Rat) : Rat := if T ≤ 1/4 then T else 1/2 - T
theorem tint_zero {Y : Nat} {T : Rat} (h : Rq Y T) (hT : Ab T (9/10)) : floatOfInt .f64 (tint Y) = 0 := by
  have hV : V FloatKind.f64.format (rung FloatKind.f64.format Y) < p2 1074 := by
    have h2 := h.2
    have hP := P2_pos 1074
    have b1 := mul_grow hP (show T < 1 by have := hT.1; grind)
    have b2 := mul_grow hP (show -1 < T by have := hT.2; grind)
    unfold sv at h2
    have b3 : (((V FloatKind.f64.format (rung FloatKind.f64.format Y) : Nat) : Int) : Rat) < (((p2 1074 : Nat) : Int) : Rat) := by
      show _ < P2 1074
      by_cases hs : neg FloatKind.f64.format Y = true
      · rw [if_pos hs, Rat.intCast_neg] at h2
        have h3 : -(((V FloatKind.f64.format (rung FloatKind.f64.format Y) : Nat) : Int) : Rat) = T * P2 1074 := h2
        grind
      · rw [if_neg hs] at h2
        have h3 : (((V FloatKind.f64.format (rung FloatKind.f64.format Y) : Nat) : Int) : Rat) = T * P2 1074 := h2
        grind
    have b4 := Rat.intCast_lt_intCast.1 b3
    exact Int.ofNat_lt.1 b4
  have e : tz Y = 0 := Nat.div_eq_of_lt hV
  have e2 : tint Y = 0 := by unfold tint; rw [e]; unfold signed; split <;> simp
  rw [e2]
  decide +kernel
/-- The sine of a part of a turn. -/
theorem sineW_near {Y : Nat} {T : Rat} (h : Rq Y T) (h0 : -(25002/100000) ≤ T) (h1 : T ≤ 75002/100000) : ∃ R, Rq (sineW Y) R ∧ Ab (R - sP (QT * tgt T)) (1/1000) := by
  obtain ⟨Q1, Q2, _⟩ := QT_bd
  have e0 := tint_zero h ⟨by grind, by grind⟩
  obtain ⟨P, hP, ⟨p1, p2⟩, _, _⟩ := Rq.sub 0 (by decide) h (show Rq 0 0 from Rv.zero) (by rw [P2_k0]; grind) (by rw [P2_k0]; grind)
  rw [P2_k0] at p1 p2
  have hP' : Rq (part0 Y) P := by unfold part0; rw [e0]; exact hP
  -- what is left: a number whose sine is taken, and its sign
  have fin : ∀ {F : Nat} {f θ : Rat}, Rq (fold2 (fold1 F)) f → Ab f (2503/10000) → (fcmp .geq .f64 F HALF = true ∧ θ = -f ∨ ¬ fcmp .geq .f64 F HALF = true ∧ θ = f) → Ab (θ - tgt T) (41/1000000) → partT Y = F → ∃ R, Rq (sineW Y) R ∧ Ab (R - sP (QT * tgt T)) (1/1000) := by
    intro F f θ hf hfb hs hd hF
    obtain ⟨R, hR, r1, r2⟩ := sineV_near hf hfb
    have hθ : Ab θ (2503/10000) := by rcases hs with ⟨_, e⟩ | ⟨_, e⟩ <;> rw [e]
                                      · exact ⟨by have := hfb.2; grind, by have := hfb.1; grind⟩
                                      · exact hfb
    have hq1 := hθ.mul (show Ab QT (62832/10000) from ⟨Q2, by grind⟩) (by grind)
    have hq2 := (show Ab (tgt T) (2504/10000) from ⟨by have := hd.2; have := hθ.1; grind, by have := hd.1; have := hθ.2; grind⟩).mul (show Ab QT (62832/10000) from ⟨Q2, by grind⟩) (by grind)
    have hq3 := hd.mul (show Ab QT (62832/10000) from ⟨Q2, by grind⟩) (by grind)
    obtain ⟨x1, x2⟩ := hq1; obtain ⟨y1, y2⟩ := hq2; obtain ⟨w1, w2⟩ := hq3
    obtain ⟨k1, k2⟩ := lip (a := QT * θ) (b := QT * tgt T) (η := 26/100000) ⟨by grind, by grind⟩ ⟨by grind, by grind⟩ ⟨by grind, by grind⟩
    unfold sineW sineF
    rw [hF]
    rcases hs with ⟨hg, e⟩ | ⟨hg, e⟩
    · rw [if_pos hg]
      refine ⟨-R, rq_fneg hR (fop_lt ..), ?_⟩
      have e2 : sP (QT * θ) = -sP (QT * f) := by rw [← sP_odd, e]; congr 1; grind
      rw [e2] at k1 k2
      constructor <;> grind
    · rw [if_neg hg]
      refine ⟨R, hR, ?_⟩
      rw [e] at k1 k2
      constructor <;> grind
  have hhalf : Rq HALF (1/2) := Rv.half
  have hquart : Rq QUART (1/4) := Rv.quart
  by_cases hl : fcmp .lss .f64 (part0 Y) 0 = true
  · have hPn : P < 0 := (Rv.lss hP' Rv.zero).1 hl
    have hF : partT Y = fop .add .f64 (part0 Y) ONE := by unfold partT; rw [if_pos hl]
    obtain ⟨g, hg, ⟨g1, g2⟩, _, _⟩ := Rq.add 1 (by decide) hP' (show Rq ONE 1 from Rv.one) (by rw [P2_k1]; grind) (by rw [P2_k1]; grind)
    rw [P2_k1] at g1 g2
    have hgeq : fcmp .geq .f64 (fop .add .f64 (part0 Y) ONE) HALF = true := (Rv.geq hg hhalf).2 (by grind)
    obtain ⟨k, hk, ⟨k1, k2⟩, _, _⟩ := Rq.sub 0 (by decide) hg hhalf (by rw [P2_k0]; grind) (by rw [P2_k0]; grind)
    rw [P2_k0] at k1 k2
    have hfold1 : fold1 (fop .add .f64 (part0 Y) ONE) = fop .sub .f64 (fop .add .f64 (part0 Y) ONE) HALF := by unfold fold1; rw [if_pos hgeq]
    by_cases hq : fcmp .gtr .f64 (fop .sub .f64 (fop .add .f64 (part0 Y) ONE) HALF) QUART = true
    · obtain ⟨f, hf, ⟨f1, f2⟩, _, _⟩ := Rq.sub 0 (by decide) hhalf hk (by rw [P2_k0]; grind) (by rw [P2_k0]; grind)
      rw [P2_k0] at f1 f2
      have hgt : 1/4 < k := (Rv.gtr hk hquart).1 hq
      refine fin (F := fop .add .f64 (part0 Y) ONE) (f := f) (θ := -f) (by rw [hfold1]; unfold fold2; rw [if_pos hq]; exact hf) ⟨by grind, by grind⟩ (.inl ⟨hgeq, rfl⟩) ?_ hF
      unfold tgt
      rw [if_pos (by grind)]
      constructor <;> grind
    · have hle : ¬ 1/4 < k := fun hh => hq ((Rv.gtr hk hquart).2 hh)
      refine fin (F := fop .add .f64 (part0 Y) ONE) (f := k) (θ := -k) (by rw [hfold1]; unfold fold2; rw [if_neg hq]; exact hk) ⟨by grind, by grind⟩ (.inl ⟨hgeq, rfl⟩) ?_ hF
      unfold tgt
      rw [if_pos (by grind)]
      constructor <;> grind
  · have hPn : 0 ≤ P := Rat.not_lt.1 fun hh => hl ((Rv.lss hP' Rv.zero).2 hh)
    have hF : partT Y = part0 Y := by unfold partT; rw [if_neg hl]
    by_cases hge : fcmp .geq .f64 (part0 Y) HALF = true
    · have hPh : 1/2 ≤ P := (Rv.geq hP' hhalf).1 hge
      obtain ⟨k, hk, ⟨k1, k2⟩, _, _⟩ := Rq.sub 0 (by decide) hP' hhalf (by rw [P2_k0]; grind) (by rw [P2_k0]; grind)
      rw [P2_k0] at k1 k2
      have hfold1 : fold1 (part0 Y) = fop .sub .f64 (part0 Y) HALF := by unfold fold1; rw [if_pos hge]
      by_cases hq : fcmp .gtr .f64 (fop .sub .f64 (part0 Y) HALF) QUART = true
      · obtain ⟨f, hf, ⟨f1, f2⟩, _, _⟩ := Rq.sub 0 (by decide) hhalf hk (by rw [P2_k0]; grind) (by rw [P2_k0]; grind)
        rw [P2_k0] at f1 f2
        have hgt : 1/4 < k := (Rv.gtr hk hquart).1 hq
        refine fin (F := part0 Y) (f := f) (θ := -f) (by rw [hfold1]; unfold fold2; rw [if_pos hq]; exact hf) ⟨by grind, by grind⟩ (.inl ⟨hge, rfl⟩) ?_ hF
        unfold tgt
        rw [if_neg (by grind)]
        constructor <;> grind
      · have hle : ¬ 1/4 < k := fun hh => hq ((Rv.gtr hk hquart).2 hh)
        refine fin (F := part0 Y) (f := k) (θ := -k) (by rw [hfold1]; unfold fold2; rw [if_neg hq]; exact hk) ⟨by grind, by grind⟩ (.inl ⟨hge, rfl⟩) ?_ hF
        unfold tgt
        rw [if_neg (by grind)]
        constructor <;> grind
    · have hPh : ¬ 1/2 ≤ P := fun hh => hge ((Rv.geq hP' hhalf).2 hh)
      have hfold1 : fold1 (part0 Y) = part0 Y := by unfold fold1; rw [if_neg hge]
      by_cases hq : fcmp .gtr .f64 (part0 Y) QUART = true
      · obtain ⟨f, hf, ⟨f1, f2⟩, _, _⟩ := Rq.sub 0 (by decide) hhalf hP' (by rw [P2_k0]; grind) (by rw [P2_k0]; grind)
        rw [P2_k0] at f1 f2
        have hgt : 1/4 < P := (Rv.gtr hP' hquart).1 hq
        refine fin (F := part0 Y) (f := f) (θ := f) (by rw [hfold1]; unfold fold2; rw [if_pos hq]; exact hf) ⟨by grind, by grind⟩ (.inr ⟨hge, rfl⟩) ?_ hF
        unfold tgt
        split <;> constructor <;> grind
      · have hle : ¬ 1/4 < P := fun hh => hq ((Rv.gtr hP' hquart).2 hh)
        refine fin (F := part0 Y) (f := P) (θ := P) (by rw [hfold1]; unfold fold2; rw [if_neg hq]; exact hP') ⟨by grind, by grind⟩ (.inr ⟨hge, rfl⟩) ?_ hF
        unfold tgt
        split <;> constructor <;> grind
end Go.Proofs.Ytpnmledanloboaa
set_option linter.unusedSimpArgs false
set_option linter.unusedVariables false
namespace Go.Proofs.Ytpnmledanloboaa
open Go.Fl Go.Sb Ieee

/-- A difference that is not less than 0 has no sign. -/
theorem sub_nn32 {x y : Nat} (hx : rung FloatKind.f32.format x < FloatKind.f32.format.infRung) (hy : rung FloatKind.f32.format y < FloatKind.f32.format.infRung) (nx : neg FloatKind.f32.format x = false)
    (h : sv FloatKind.f32.format y ≤ sv FloatKind.f32.format x) : neg FloatKind.f32.format (fop .sub .f32 x y) = false := by
  obtain ⟨m, u, e1, h1⟩ := read32 hx
  obtain ⟨n, v, e2, h2⟩ := read32 hy
  have k1 : sv FloatKind.f32.format x = signed (neg FloatKind.f32.format x) m u := by unfold sv signed; rw [Nat.shiftLeft_eq, h1]
  have k2 : sv FloatKind.f32.format y = signed (neg FloatKind.f32.format y) n v := by unfold sv signed; rw [Nat.shiftLeft_eq, h2]
  have sn : ∀ (s : Bool) (a b : Nat), signed (!s) a b = -signed s a b := fun s a b => by unfold signed; cases s <;> simp
  rw [k1, k2] at h
  have f1 : ((-149 : Int) + (u : Int) - min (-149 + (u : Int)) (-149 + (v : Int))).toNat = u - min u v := by omega
  have f2 : ((-149 : Int) + (v : Int) - min (-149 + (u : Int)) (-149 + (v : Int))).toNat = v - min u v := by omega
  generalize hq : signed (neg FloatKind.f32.format x) m (u - min u v) + signed (!neg FloatKind.f32.format y) n (v - min u v) = q
  have hqE : signed (neg FloatKind.f32.format x) m u - signed (neg FloatKind.f32.format y) n v = q * 2 ^ (min u v) := by
    rw [← hq, Int.add_mul, ← signed_up, ← signed_up, show u - min u v + min u v = u by omega, show v - min u v + min u v = v by omega, sn]
    omega
  have er : fop .sub .f32 x y = FloatKind.f32.format.nearest (if q = 0 then neg FloatKind.f32.format x && !neg FloatKind.f32.format y else decide (q < 0)) q.natAbs (min (-149 + (u : Int)) (-149 + (v : Int))) := by
    unfold fop floatBits Format.sub
    rw [e1, e2]
    unfold Datum.opposite
    dsimp only
    unfold Datum.sum
    dsimp only
    rw [f1, f2, hq]
    rfl
  rw [er, nearest_neg]
  have hp : (0 : Int) < 2 ^ (min u v) := Int.pow_pos (by omega)
  have hq0 : 0 ≤ q := by
    refine Int.not_lt.1 fun hl => ?_
    have := Int.mul_neg_of_neg_of_pos hl hp
    omega
  by_cases h0 : q = 0
  · rw [if_pos h0, nx]; rfl
  · rw [if_neg h0]; exact decide_eq_false (by omega)
theorem nar_neg_of {x : Nat} {a : Rat} (hx : Rq x a) : neg FloatKind.f32.format (nar x) = neg FloatKind.f64.format x := by
  have hn : nan .f64 x = false := Rv.nan hx
  obtain ⟨m, u, e1, _⟩ := read_any hx.1
  unfold nar
  rw [hn, if_neg (by decide), e1]
  unfold Format.write
  dsimp only
  exact nearest_neg ..
theorem rw_fin {x : Nat} {a : Rat} (h : Rw x a) : fin .f32 x = true := by unfold fin; exact decide_eq_true h.1
theorem rw_half : Rw 1056964608 (1/2) := by
  refine ⟨by decide, ?_⟩
  have e : sv FloatKind.f32.format 1056964608 = 1 * ((p2 148 : Nat) : Int) := by decide +kernel
  rw [e, Rat.intCast_mul, show (((p2 148 : Nat) : Int) : Rat) = P2 148 from rfl, show (149 : Nat) = 148 + 1 from rfl, P2_add, show P2 1 = 2 by decide +kernel]
  generalize P2 148 = T
  rw [show ((1 : Int) : Rat) = 1 from rfl]
  grind
theorem rw_quart : Rw 1048576000 (1/4) := by
  refine ⟨by decide, ?_⟩
  have e : sv FloatKind.f32.format 1048576000 = 1 * ((p2 147 : Nat) : Int) := by decide +kernel
  rw [e, Rat.intCast_mul, show (((p2 147 : Nat) : Int) : Rat) = P2 147 from rfl, show (149 : Nat) = 147 + 2 from rfl, P2_add, show P2 2 = 4 by decide +kernel]
  generalize P2 147 = T
  rw [show ((1 : Int) : Rat) = 1 from rfl]
  grind
/-- The root of what is left of 1. -/
theorem root_near {C : Nat} {q : Rat} (hC : Rw C q) (hq : Ab q 1) : ∃ y, Rw (rootC C) y ∧ 0 ≤ y ∧ neg FloatKind.f32.format (rootC C) = false ∧ Ab (y * y + q * q - 1) (1/1000000) := by
  have qq0 := sq_nonneg q
  obtain ⟨qq1, qq2⟩ := hq.mul hq (by grind)
  obtain ⟨v, hv, ⟨v1, v2⟩, v3, _⟩ := Rw.mul 0 (by decide) hC hC (by rw [P2_k0]; grind) (by rw [P2_k0]; grind)
  rw [P2_k0] at v1 v2 v3
  obtain ⟨s, hs, ⟨s1, s2⟩, _, _⟩ := Rw.sub 1 (by decide) rw_one hv (by rw [P2_k1]; grind) (by rw [P2_k1]; grind)
  rw [P2_k1] at s1 s2
  have hsv : sv FloatKind.f32.format (fop .mul .f32 C C) ≤ sv FloatKind.f32.format 1065353216 := by
    have h1 := mul_up (P2_pos 149) v3
    rw [← hv.2, ← rw_one.2] at h1
    exact Rat.intCast_le_intCast.1 h1
  have hneg := sub_nn32 rw_one.1 hv.1 (by decide) hsv
  have hw := wid_rv hs
  have nw : neg FloatKind.f64.format (wid (fop .sub .f32 1065353216 (fop .mul .f32 C C))) = false := by rw [(wid_fin hs.1).1]; exact hneg
  obtain ⟨r, hr, nr, r0, r1, r2, r3⟩ := rq_sqrt (k := 1) (by decide) (rv_rq hw) nw (by rw [P2_k1]; grind)
  rw [P2_k1] at r1 r2 r3
  have rb : r ≤ 10001/10000 := by
    refine Rat.not_lt.1 fun hlt => ?_
    have a1 := Rat.mul_le_mul_of_nonneg_right (Rat.le_of_lt hlt) r0
    grind
  obtain ⟨y, hy, y1, y2⟩ := nar_near hr ⟨by grind, by grind⟩
  have hyn : neg FloatKind.f32.format (rootC C) = false := by
    unfold rootC
    rw [nar_neg_of hr]
    exact nr
  have y0 : 0 ≤ y := by
    have h2 := hy.2
    unfold sv at h2
    rw [show neg FloatKind.f32.format (nar (fsqrt (wid (fop .sub .f32 1065353216 (fop .mul .f32 C C))))) = false from hyn, if_neg (by decide)] at h2
    refine Rat.not_lt.1 fun hlt => ?_
    have h3 := mul_grow (P2_pos 149) hlt
    have h4 : ((0 : Int) : Rat) ≤ (((V FloatKind.f32.format (rung FloatKind.f32.format (nar (fsqrt (wid (fop .sub .f32 1065353216 (fop .mul .f32 C C)))))) : Nat) : Int) : Rat) := Rat.intCast_le_intCast.2 (Int.natCast_nonneg _)
    have h5 : (0 : Rat) ≤ y * P2 149 := by
      have h6 : (0 : Rat) ≤ (((V FloatKind.f32.format (rung FloatKind.f32.format (nar (fsqrt (wid (fop .sub .f32 1065353216 (fop .mul .f32 C C)))))) : Nat) : Int) : Rat) := h4
      rw [h2] at h6; exact h6
    grind
  have d := (show Ab (y - r) (1/8388608) from ⟨y1, y2⟩).mul (show Ab (y + r) 3 from ⟨by grind, by grind⟩) (by grind)
  obtain ⟨d1, d2⟩ := d
  refine ⟨y, hy, y0, hyn, ?_⟩
  have e : y * y + q * q - 1 = (y - r) * (y + r) + (r * r + q * q - 1) := by grind
  rw [e]
  constructor <;> grind
/-- The angle of a point of the upper half, narrowed. -/
theorem angT_near {Y C : Nat} {y q : Rat} (hY : Rw Y y) (hy : 0 ≤ y) (hC : Rw C q) (hc : Ab (y * y + q * q - 1) (1/1000000)) :
    ∃ g, Rw (angT Y C) g ∧ Ab (sP (QT * (1/4 - g)) - q) (72/10000) ∧ -(1/100000) ≤ g ∧ g ≤ 1/2 := by
  obtain ⟨Q1, Q2, _⟩ := QT_bd
  have hz : (fcmp .eql .f32 C 0 && fcmp .eql .f32 Y 0) = false := by
    cases h : (fcmp .eql .f32 C 0 && fcmp .eql .f32 Y 0) with
    | false => rfl
    | true =>
      exfalso
      rw [Bool.and_eq_true] at h
      have z : ∀ {x : Nat} {a : Rat}, Rw x a → fcmp .eql .f32 x 0 = true → a = 0 := fun {x a} hx he => by
        rw [Go.Fl.eql_zero .f32 (rw_nan hx)] at he
        have hr : rung FloatKind.f32.format x = 0 := of_decide_eq_true he
        have h2 := hx.2
        unfold sv at h2
        rw [hr, V_zero] at h2
        have h3 : (0 : Rat) = a * P2 149 := by
          rw [← h2]; split <;> rfl
        rcases Rat.mul_eq_zero.1 h3.symm with h4 | h4
        · exact h4
        · have := P2_pos 149; grind
      have hq := z hC h.1
      have hy2 := z hY h.2
      rw [hq, hy2] at hc
      have := hc.2
      grind
  unfold angT
  rw [rw_fin hC, rw_fin hY, hz]
  simp only [Bool.and_self, Bool.false_eq_true, if_true, if_false]
  obtain ⟨G, hG, ⟨s1, s2⟩, g1, g2⟩ := angW_near (rv_rq (wid_rv hY)) hy (rv_rq (wid_rv hC)) (hc.weak (by grind))
  obtain ⟨g, hg, n1, n2⟩ := nar_near hG ⟨by grind, by grind⟩
  have m1 := (show Ab (1/4 - g) (2501/10000) from ⟨by grind, by grind⟩).mul (show Ab QT (62832/10000) from ⟨Q2, by grind⟩) (by grind)
  have m2 := (show Ab (1/4 - G) (2501/10000) from ⟨by grind, by grind⟩).mul (show Ab QT (62832/10000) from ⟨Q2, by grind⟩) (by grind)
  have m3 := (show Ab ((1/4 - g) - (1/4 - G)) (1/8388608) from ⟨by grind, by grind⟩).mul (show Ab QT (62832/10000) from ⟨Q2, by grind⟩) (by grind)
  obtain ⟨x1, x2⟩ := m1; obtain ⟨y1, y2⟩ := m2; obtain ⟨w1, w2⟩ := m3
  obtain ⟨k1, k2⟩ := lip (a := QT * (1/4 - g)) (b := QT * (1/4 - G)) (η := 1/1000000) ⟨by grind, by grind⟩ ⟨by grind, by grind⟩ ⟨by grind, by grind⟩
  refine ⟨g, hg, ⟨by grind, by grind⟩, by grind, ?_⟩
  -- no more than a half
  by_cases hs : neg FloatKind.f64.format (angW (wid Y) (wid C)) = true
  · have hneg : neg FloatKind.f32.format (nar (angW (wid Y) (wid C))) = true := by rw [nar_neg_of hG]; exact hs
    have h2 := hg.2
    unfold sv at h2
    rw [hneg, if_pos rfl, Rat.intCast_neg] at h2
    have h3 : -(((V FloatKind.f32.format (rung FloatKind.f32.format (nar (angW (wid Y) (wid C)))) : Nat) : Int) : Rat) = g * P2 149 := h2
    have h4 : (0 : Rat) ≤ (((V FloatKind.f32.format (rung FloatKind.f32.format (nar (angW (wid Y) (wid C)))) : Nat) : Int) : Rat) := Rat.intCast_le_intCast.2 (Int.natCast_nonneg _)
    refine Rat.not_lt.1 fun hlt => ?_
    have h5 := mul_grow (P2_pos 149) (show (0 : Rat) < g by grind)
    grind
  · have hV : (((V FloatKind.f64.format (rung FloatKind.f64.format (angW (wid Y) (wid C))) : Nat) : Int) : Rat) = G * P2 1074 := by
      have h2 := hG.2
      unfold sv at h2
      rw [if_neg hs] at h2
      exact h2
    have hle : V FloatKind.f64.format (rung FloatKind.f64.format (angW (wid Y) (wid C))) * 536870912 ≤ 536870913 * p2 1073 := by
      have h3 : ((((V FloatKind.f64.format (rung FloatKind.f64.format (angW (wid Y) (wid C))) * 536870912 : Nat) : Int)) : Rat) ≤ (((536870913 * p2 1073 : Nat) : Int) : Rat) := by
        rw [Int.natCast_mul, Int.natCast_mul, Rat.intCast_mul, Rat.intCast_mul, hV, show (((p2 1073 : Nat) : Int) : Rat) = P2 1073 from rfl, show P2 1074 = P2 1073 * P2 1 by rw [← P2_add], P2_k1]
        have hP := P2_pos 1073
        have h4 := mul_up hP (show G * 2 * 536870912 ≤ 536870913 by grind)
        have e1 : G * (P2 1073 * 2) * (((536870912 : Nat) : Int) : Rat) = G * 2 * 536870912 * P2 1073 := by
          rw [show (((536870912 : Nat) : Int) : Rat) = 536870912 from rfl]
          generalize P2 1073 = T
          grind
        rw [e1]
        exact h4
      exact Int.ofNat_le.1 (Rat.intCast_le_intCast.1 h3)
    have hr := nar_half hG.1 hle
    have hneg : neg FloatKind.f32.format (nar (angW (wid Y) (wid C))) = false := by rw [nar_neg_of hG]; simpa using hs
    have h2 := hg.2
    unfold sv at h2
    rw [hneg, if_neg (by decide)] at h2
    have h5 : V FloatKind.f32.format (rung FloatKind.f32.format (nar (angW (wid Y) (wid C)))) ≤ p2 148 := by rw [← V32_half]; exact (V_le_iff _).2 hr
    have h6 := Rat.intCast_le_intCast.2 (Int.ofNat_le.2 h5)
    have h7 : (((V FloatKind.f32.format (rung FloatKind.f32.format (nar (angW (wid Y) (wid C)))) : Nat) : Int) : Rat) = g * P2 149 := h2
    have h8 : g * P2 149 ≤ 1/2 * P2 149 := by
      rw [← h7]
      refine Rat.le_trans h6 ?_
      rw [show (149 : Nat) = 148 + 1 from rfl, P2_add, P2_k1]
      show P2 148 ≤ _
      generalize P2 148 = T
      grind
    refine Rat.not_lt.1 fun hlt => ?_
    have h9 := mul_grow (P2_pos 149) hlt
    grind
end Go.Proofs.Ytpnmledanloboaa
set_option linter.unusedSimpArgs false
set_option linter.unusedVariables false
namespace Go.Proofs.Ytpnmledanloboaa
open Go.Fl Go.Sb Ieee

theorem sP_bd {z : Rat} (h : Ab z (15728/10000)) : Ab (sP z) (16/10) := by
  obtain ⟨n1, n2⟩ := pol_near (h.weak (show (15728/10000 : Rat) ≤ 8/5 by grind))
  obtain ⟨zz1, zz2⟩ := h.mul h (by grind)
  have zz0 := sq_nonneg z
  obtain ⟨_, p0, p1⟩ := pol_lip (u := z * z) (v := z * z) (e := 0) zz0 (by grind) zz0 (by grind) ⟨by grind, by grind⟩
  obtain ⟨w1, w2⟩ := h.mul (show Ab (pol (z * z)) 1 from ⟨p1, by grind⟩) (by grind)
  constructor <;> grind
theorem V_lt_one {Y : Nat} {T : Rat} (h : Rq Y T) (hT : Ab T (9/10)) : V FloatKind.f64.format (rung FloatKind.f64.format Y) < p2 1074 := by
  have h2 := h.2
  have hP := P2_pos 1074
  have b1 := mul_grow hP (show T < 1 by have := hT.1; grind)
  have b2 := mul_grow hP (show -1 < T by have := hT.2; grind)
  unfold sv at h2
  have b3 : (((V FloatKind.f64.format (rung FloatKind.f64.format Y) : Nat) : Int) : Rat) < (((p2 1074 : Nat) : Int) : Rat) := by
    show _ < P2 1074
    by_cases hs : neg FloatKind.f64.format Y = true
    · rw [if_pos hs, Rat.intCast_neg] at h2
      have h3 : -(((V FloatKind.f64.format (rung FloatKind.f64.format Y) : Nat) : Int) : Rat) = T * P2 1074 := h2
      grind
    · rw [if_neg hs] at h2
      have h3 : (((V FloatKind.f64.format (rung FloatKind.f64.format Y) : Nat) : Int) : Rat) = T * P2 1074 := h2
      grind
  have b4 := Rat.intCast_lt_intCast.1 b3
  exact Int.ofNat_lt.1 b4
theorem p2_le_1126 : p2 1074 ≤ p2 1126 := by decide +kernel
/-- The sine of a part of a turn, narrowed. -/
theorem sineT_near {X : Nat} {T : Rat} (h : Rw X T) (h0 : -(25002/100000) ≤ T) (h1 : T ≤ 75002/100000) : ∃ R, Rw (sineT X) R ∧ Ab (R - sP (QT * tgt T)) (11/10000) := by
  obtain ⟨Q1, Q2, _⟩ := QT_bd
  have hw : Rq (wid X) T := rv_rq (wid_rv h)
  have hf : fin .f64 (wid X) = true := by unfold fin; exact decide_eq_true hw.1
  have hl : ¬ longB (wid X) = true := by
    rw [long_iff (Rv.nan (rq_rv hw))]
    have hv := Nat.lt_of_lt_of_le (V_lt_one hw ⟨by grind, by grind⟩) p2_le_1126
    rw [decide_eq_false (Nat.not_le.2 hv)]
    decide
  obtain ⟨R, hR, r1, r2⟩ := sineW_near hw h0 h1
  have ht : Ab (tgt T) (25002/100000) := by unfold tgt; split <;> constructor <;> grind
  obtain ⟨q1, q2⟩ := ht.mul (show Ab QT (62832/10000) from ⟨Q2, by grind⟩) (by grind)
  obtain ⟨s1, s2⟩ := sP_bd (z := QT * tgt T) ⟨by grind, by grind⟩
  obtain ⟨b, hb, b1, b2⟩ := nar_near hR ⟨by grind, by grind⟩
  unfold sineT
  rw [if_pos hf, if_neg hl]
  exact ⟨b, hb, by grind, by grind⟩
theorem rw_fneg {x : Nat} {a : Rat} (h : Rw x a) (hl : x < 2 ^ FloatKind.f32.format.width) : Rw (fneg .f32 x) (-a) := by
  have hn : nan .f32 x = false := rw_nan h
  have e : fneg .f32 x = Op.negFloat .f32 x := by unfold fneg; rw [hn]; rfl
  obtain ⟨e2, e3, _⟩ := ng_bits hl
  rw [e]
  refine ⟨by rw [e2]; exact h.1, ?_⟩
  have h2 := h.2
  unfold sv at h2 ⊢
  rw [e3, e2]
  cases hs : neg FloatKind.f32.format x with
  | true =>
    rw [hs, if_pos rfl, Rat.intCast_neg] at h2
    show (((V FloatKind.f32.format (rung FloatKind.f32.format x) : Nat) : Int) : Rat) = -a * P2 149
    have h3 : -(((V FloatKind.f32.format (rung FloatKind.f32.format x) : Nat) : Int) : Rat) = a * P2 149 := h2
    grind
  | false =>
    rw [hs, if_neg (by decide)] at h2
    show ((-((V FloatKind.f32.format (rung FloatKind.f32.format x) : Nat) : Int) : Int) : Rat) = -a * P2 149
    rw [Rat.intCast_neg]
    have h3 : (((V FloatKind.f32.format (rung FloatKind.f32.format x) : Nat) : Int) : Rat) = a * P2 149 := h2
    grind
theorem rw_abs {x : Nat} {a : Rat} (h : Rw x a) : Rw (absF x) (ab a) := by
  have hn : nan .f32 x = false := rw_nan h
  have e : absF x = r32 x := by unfold absF; rw [hn]; rfl
  have er : rung FloatKind.f32.format (r32 x) = rung FloatKind.f32.format x := r32_r32 x
  rw [e]
  refine ⟨by rw [er]; exact h.1, ?_⟩
  have h2 := h.2
  have hT := P2_pos 149
  unfold sv at h2 ⊢
  rw [neg_r32, er]
  have hV : (0 : Rat) ≤ (((V FloatKind.f32.format (rung FloatKind.f32.format x) : Nat) : Int) : Rat) := Rat.intCast_le_intCast.2 (Int.natCast_nonneg _)
  show (((V FloatKind.f32.format (rung FloatKind.f32.format x) : Nat) : Int) : Rat) = ab a * P2 149
  generalize V FloatKind.f32.format (rung FloatKind.f32.format x) = W at *
  by_cases hs : neg FloatKind.f32.format x = true
  · rw [if_pos hs, Rat.intCast_neg] at h2
    have h3 : -(((W : Nat) : Int) : Rat) = a * P2 149 := h2
    unfold ab
    split
    · rename_i h0
      have h4 := Rat.mul_nonneg h0 (Rat.le_of_lt hT)
      grind
    · grind
  · rw [if_neg hs] at h2
    have h3 : (((W : Nat) : Int) : Rat) = a * P2 149 := h2
    unfold ab
    split
    · exact h3
    · rename_i h0
      exfalso
      have h4 := mul_grow hT (Rat.not_le.1 h0)
      grind
theorem rw_two : Rw 1073741824 2 := by
  refine ⟨by decide, ?_⟩
  have e : sv FloatKind.f32.format 1073741824 = 1 * ((p2 150 : Nat) : Int) := by decide +kernel
  rw [e, Rat.intCast_mul, show (((p2 150 : Nat) : Int) : Rat) = P2 150 from rfl, show (150 : Nat) = 149 + 1 from rfl, P2_add, P2_k1]
  generalize P2 149 = T
  rw [show ((1 : Int) : Rat) = 1 from rfl]
  grind
theorem rw_lss {x y : Nat} {a b : Rat} (hx : Rw x a) (hy : Rw y b) : fcmp .lss .f32 x y = true ↔ a < b := by
  rw [fcmp_lss .f32 (rw_nan hx) (rw_nan hy), decide_eq_true_eq]; exact rw_lt hx hy
/-- A line is stable exactly where the law says so. -/
theorem stab_is {x : Nat} {a : Rat} (h : Rw x a) (hl : x < 2 ^ FloatKind.f32.format.width) : fcmp .lss .f32 (absF x) 1073741824 = (fcmp .lss .f32 x 1073741824 && fcmp .lss .f32 (fneg .f32 x) 1073741824) := by
  have k1 := rw_lss (rw_abs h) rw_two
  have k2 := rw_lss h rw_two
  have k3 := rw_lss (rw_fneg h hl) rw_two
  rw [Bool.eq_iff_iff, Bool.and_eq_true, k1, k2, k3]
  unfold ab
  split <;> constructor <;> grind
theorem angT_lt (Y C : Nat) : angT Y C < 2 ^ FloatKind.f32.format.width := by
  unfold angT
  split
  · split
    · decide
    · exact nar_lt _
  · decide
/-- The tune and its sine. -/
theorem tune_near {M : Nat → Nat} {tr : Rat} (h : Rw (trF M) tr) (t1 : -2 < tr) (t2 : tr < 2) :
    ∃ u R, Rw (tuneF M) u ∧ Ab u (1/2) ∧ Rw (sineT (fop .add .f32 (tuneF M) 1048576000)) R ∧ Ab (R - tr / 2) (9/1000) := by
  obtain ⟨Q1, Q2, _⟩ := QT_bd
  obtain ⟨q, hq, ⟨q1, q2⟩, q3, q4⟩ := Rw.mul 0 (by decide) rw_half h (by rw [P2_k0]; grind) (by rw [P2_k0]; grind)
  rw [P2_k0] at q1 q2 q3 q4
  have hq' : Rw (halfTr M) q := hq
  obtain ⟨y, hy, y0, _, hyy⟩ := root_near hq' ⟨q3, q4⟩
  obtain ⟨g, hg, ⟨s1, s2⟩, g1, g2⟩ := angT_near hy y0 hq' hyy
  have fin : ∀ {u : Rat}, Rw (tuneF M) u → (u = g ∨ u = -g) → ∃ u R, Rw (tuneF M) u ∧ Ab u (1/2) ∧ Rw (sineT (fop .add .f32 (tuneF M) 1048576000)) R ∧ Ab (R - tr / 2) (9/1000) := by
    intro u hu hug
    have ub : -(1/2) ≤ u ∧ u ≤ 1/2 := by rcases hug with e | e <;> constructor <;> grind
    obtain ⟨T, hT, ⟨T1, T2⟩, _, _⟩ := Rw.add 0 (by decide) hu rw_quart (by rw [P2_k0]; grind) (by rw [P2_k0]; grind)
    rw [P2_k0] at T1 T2
    obtain ⟨R, hR, R1, R2⟩ := sineT_near hT (by rcases hug with e | e <;> grind) (by rcases hug with e | e <;> grind)
    have hd : Ab (tgt T - (1/4 - g)) (3/100000) := by
      unfold tgt
      rcases hug with e | e <;> split <;> constructor <;> grind
    have hb := (show Ab (1/4 - g) (25001/100000) from ⟨by grind, by grind⟩).mul (show Ab QT (62832/10000) from ⟨Q2, by grind⟩) (by grind)
    have ha := (show Ab (tgt T) (25004/100000) from ⟨by have := hd.1; grind, by have := hd.2; grind⟩).mul (show Ab QT (62832/10000) from ⟨Q2, by grind⟩) (by grind)
    have hc := hd.mul (show Ab QT (62832/10000) from ⟨Q2, by grind⟩) (by grind)
    obtain ⟨x1, x2⟩ := ha; obtain ⟨y1, y2⟩ := hb; obtain ⟨w1, w2⟩ := hc
    obtain ⟨k1, k2⟩ := lip (a := QT * tgt T) (b := QT * (1/4 - g)) (η := 1886/10000000) ⟨by grind, by grind⟩ ⟨by grind, by grind⟩ ⟨by grind, by grind⟩
    refine ⟨u, R, hu, ⟨ub.2, ub.1⟩, hR, by grind, by grind⟩
  by_cases hs : fcmp .lss .f32 (M 1) 0 = true
  · have e : tuneF M = fneg .f32 (angT (rootC (halfTr M)) (halfTr M)) := by unfold tuneF; rw [if_pos hs]
    exact fin (e ▸ rw_fneg hg (angT_lt _ _)) (.inr rfl)
  · have e : tuneF M = angT (rootC (halfTr M)) (halfTr M) := by unfold tuneF; rw [if_neg hs]
    exact fin (e ▸ hg) (.inl rfl)
/-- The trace of a drawn line's matrix. -/
theorem trace_rw {ts : List El} (hd : ∀ t ∈ ts, DrE t) (hl : ts.length ≤ 4) : ∃ tr, Rw (trF (lineM ts ts.length)) tr ∧ Ab tr 64 := by
  obtain ⟨a, b, c, d, ⟨ha, _, _, hd4⟩, ⟨⟨a1, a2⟩, _, _, ⟨d1, d2⟩⟩, _⟩ := line_mx hd hl ts.length (Nat.le_refl _)
  have hp : P2 ts.length ≤ 16 := by
    rw [show (16 : Rat) = P2 4 by decide +kernel]
    have t : ((List.range 5).all fun n => decide (P2 n ≤ P2 4)) = true := by decide +kernel
    exact of_decide_eq_true (List.all_eq_true.1 t _ (List.mem_range.2 (by omega)))
  obtain ⟨t, ht, _, t3, t4⟩ := Rw.add 6 (by decide) ha hd4 (by rw [e6_64]; grind) (by rw [e6_64]; grind)
  rw [e6_64] at t3 t4
  exact ⟨t, ht, t3, t4⟩
theorem rq_two : Rq 4611686018427387904 2 := by
  refine ⟨by decide, ?_⟩
  have e : sv FloatKind.f64.format 4611686018427387904 = 1 * ((p2 1075 : Nat) : Int) := by decide +kernel
  rw [e, Rat.intCast_mul, show (((p2 1075 : Nat) : Int) : Rat) = P2 1075 from rfl, show (1075 : Nat) = 1074 + 1 from rfl, P2_add, P2_k1]
  generalize P2 1074 = T
  rw [show ((1 : Int) : Rat) = 1 from rfl]
  grind
/-- The last comparison of the law. -/
theorem cmp_tune {c t : Nat} {R tr : Rat} (hc : Rw c R) (ht : Rw t tr) (h1 : Ab (R - tr / 2) (9/1000)) (h2 : Ab tr 2) : fcmp .lss .f64 (gapW (wid c) (fop .quo .f64 (wid t) 4611686018427387904)) 4576918229304087675 = true := by
  obtain ⟨t1, t2⟩ := h2
  obtain ⟨q, hq, ⟨q1, q2⟩, q3, q4⟩ := Rq.quo 1 (by decide) (rv_rq (wid_rv ht)) rq_two (B := 2) (A := 2) (by grind) (.inl rfl) ⟨t1, t2⟩ (by rw [P2_k1]; grind)
  rw [P2_k1] at q1 q2
  obtain ⟨h11, h12⟩ := h1
  have e : tr / 2 = tr * (1/2) := by grind
  rw [e] at h11 h12
  obtain ⟨G, hG, G1, _⟩ := gap_rq (k := 0) (e := 91/10000) (by decide) (rv_rq (wid_rv hc)) hq ⟨by grind, by grind⟩ (by rw [P2_k0]; grind)
  rw [P2_k0] at G1
  exact (Rv.lss (rq_rv hG) (rq_rv rq_centi)).2 (by grind)
theorem rw_mhalf : Rw 3204448256 (-(1/2)) := by
  refine ⟨by decide, ?_⟩
  have e : sv FloatKind.f32.format 3204448256 = -1 * ((p2 148 : Nat) : Int) := by decide +kernel
  rw [e, Rat.intCast_mul, show (((p2 148 : Nat) : Int) : Rat) = P2 148 from rfl, show (149 : Nat) = 148 + 1 from rfl, P2_add, show P2 1 = 2 by decide +kernel]
  generalize P2 148 = T
  rw [show ((-1 : Int) : Rat) = -1 from rfl]
  grind
end Go.Proofs.Ytpnmledanloboaa
