/-
  Bounds on floats: how great results can be, so that narrowing and conversions stay within what the language fixes.
-/
import Derived.Test.YtpnmledanloboaaFn
namespace Go.Fl
open Ieee

/-- A finite 64-bit number of magnitude at most 2 to the power of E, in units of the least place. -/
def Bd (x E : Nat) : Prop := rung FloatKind.f64.format x < FloatKind.f64.format.infRung ∧ V FloatKind.f64.format (rung FloatKind.f64.format x) ≤ p2 E

theorem Bd.nan {x E : Nat} (h : Bd x E) : nan .f64 x = false := by unfold Fl.nan isNaN; exact decide_eq_false (by have := h.1; omega)
theorem p2_le {a b : Nat} (h : a ≤ b) : p2 a ≤ p2 b := Nat.pow_le_pow_right (by decide) h
theorem p2_lt {a b : Nat} (h : a < b) : p2 a < p2 b := Nat.pow_lt_pow_right (by decide) h
theorem p2_add (a b : Nat) : p2 (a + b) = p2 a * p2 b := Nat.pow_add 2 a b
theorem Bd.mono {x E F : Nat} (h : Bd x E) (hEF : E ≤ F) : Bd x F := ⟨h.1, Nat.le_trans h.2 (p2_le hEF)⟩

theorem top64 : p2 2098 = V FloatKind.f64.format FloatKind.f64.format.infRung := by decide +kernel

theorem top32 : V FloatKind.f32.format FloatKind.f32.format.infRung = p2 277 := by decide +kernel

theorem lp64 : FloatKind.f64.format.leastPlace = -1074 := by decide
theorem lp32 : FloatKind.f32.format.leastPlace = -149 := by decide

theorem pow_rung (f : Format) (E : Nat) : ∃ r, V f r = p2 E := by
  obtain ⟨r, hr⟩ := exact_rung f 1 E (by rw [show Nat.log2 1 = 0 by decide]; exact Nat.zero_le _)
  exact ⟨r, by rw [hr, Nat.one_mul]; rfl⟩

/-- What is rounded is bounded as what it came of. -/
theorem near_bd (s : Bool) {m : Nat} {p : Int} {E : Nat} (hE : E < 2098) (h : m * 2 ^ (p + 1074).toNat ≤ p2 E * 2 ^ (-1074 - p).toNat) : Bd (FloatKind.f64.format.nearest s m p) E := by
  obtain ⟨r, hr⟩ := exact_rung FloatKind.f64.format 1 E (by decide)
  rw [Nat.one_mul] at hr
  have hri : r < FloatKind.f64.format.infRung := by
    rw [← V_lt_iff FloatKind.f64.format, ← top64, hr, ← p2_eq]
    exact p2_lt hE
  unfold Bd
  rw [nearest_rung]
  by_cases h0 : m = 0
  · rw [if_pos h0]
    exact ⟨by decide, by rw [V_zero]; exact Nat.zero_le _⟩
  · rw [if_neg h0]
    have hle := rnd_le FloatKind.f64.format s (r := r) h0 (by
      rw [lp64, hr, show p - (-1074) = p + 1074 by omega]
      exact h)
    have hmin : min (rnd FloatKind.f64.format s m p) FloatKind.f64.format.infRung = rnd FloatKind.f64.format s m p := Nat.min_eq_left (by omega)
    rw [hmin]
    exact ⟨by omega, by rw [p2_eq, ← hr]; exact V_le _ hle⟩

theorem read_bd {x E : Nat} (h : Bd x E) : ∃ (s : Bool) (m u : Nat), FloatKind.f64.format.read x = .number s m (-1074 + (u : Int)) ∧ m * 2 ^ u ≤ p2 E ∧ s = neg FloatKind.f64.format x ∧ m * 2 ^ u = V FloatKind.f64.format (rung FloatKind.f64.format x) := by
  have e := read_eq FloatKind.f64.format (eb _) x
  rw [if_pos h.1, lp64] at e
  exact ⟨_, _, _, e, h.2, rfl, rfl⟩

theorem signed_abs (s : Bool) (m u : Nat) : (signed s m u).natAbs = m * 2 ^ u := by
  unfold signed; cases s <;> simp [Nat.shiftLeft_eq, Int.natAbs_mul, Int.natAbs_pow]

theorem sum_bd {s t : Bool} {m n u v E : Nat} (hE : E + 1 < 2098) (h1 : m * 2 ^ u ≤ p2 E) (h2 : n * 2 ^ v ≤ p2 E) :
    ∃ r, (Datum.sum (.number s m (-1074 + (u : Int))) (.number t n (-1074 + (v : Int)))).map FloatKind.f64.format.write = some r ∧ Bd r (E + 1) := by
  unfold Datum.sum
  dsimp only
  refine ⟨_, rfl, ?_⟩
  unfold Format.write
  dsimp only
  have e1 : ((-1074 : Int) + (u : Int) - min (-1074 + (u : Int)) (-1074 + (v : Int))).toNat = u - min u v := by omega
  have e2 : ((-1074 : Int) + (v : Int) - min (-1074 + (u : Int)) (-1074 + (v : Int))).toNat = v - min u v := by omega
  rw [e1, e2]
  refine near_bd _ hE ?_
  have e3 : (min (-1074 + (u : Int)) (-1074 + (v : Int)) + 1074).toNat = min u v := by omega
  have e4 : (-1074 - min (-1074 + (u : Int)) (-1074 + (v : Int))).toNat = 0 := by omega
  rw [e3, e4, Nat.pow_zero, Nat.mul_one]
  have h3 : (signed s m (u - min u v) + signed t n (v - min u v)).natAbs ≤ m * 2 ^ (u - min u v) + n * 2 ^ (v - min u v) := by
    have := Int.natAbs_add_le (signed s m (u - min u v)) (signed t n (v - min u v))
    rwa [signed_abs, signed_abs] at this
  calc (signed s m (u - min u v) + signed t n (v - min u v)).natAbs * 2 ^ min u v ≤ (m * 2 ^ (u - min u v) + n * 2 ^ (v - min u v)) * 2 ^ min u v := Nat.mul_le_mul_right _ h3
    _ = m * 2 ^ u + n * 2 ^ v := by
      rw [Nat.add_mul, Nat.mul_assoc, Nat.mul_assoc, ← Nat.pow_add, ← Nat.pow_add]
      congr 3 <;> omega
    _ ≤ p2 (E + 1) := by
      rw [p2_add]; show _ ≤ p2 E * 2; omega

theorem Bd.add {x y E : Nat} (hx : Bd x E) (hy : Bd y E) (hE : E + 1 < 2098) : Bd (fop .add .f64 x y) (E + 1) := by
  obtain ⟨s, m, u, e1, h1, _⟩ := read_bd hx
  obtain ⟨t, n, v, e2, h2, _⟩ := read_bd hy
  obtain ⟨r, hr, hb⟩ := sum_bd (s := s) (t := t) hE h1 h2
  unfold fop floatBits Format.add
  rw [e1, e2, hr]
  exact hb

theorem Bd.sub {x y E : Nat} (hx : Bd x E) (hy : Bd y E) (hE : E + 1 < 2098) : Bd (fop .sub .f64 x y) (E + 1) := by
  obtain ⟨s, m, u, e1, h1, _⟩ := read_bd hx
  obtain ⟨t, n, v, e2, h2, _⟩ := read_bd hy
  obtain ⟨r, hr, hb⟩ := sum_bd (s := s) (t := !t) hE h1 h2
  unfold fop floatBits Format.sub
  rw [e1, e2]
  unfold Datum.opposite
  rw [hr]
  exact hb

/-- A product: 2 ^ 1074 units are 1. -/
theorem Bd.mul {x y E F G : Nat} (hx : Bd x E) (hy : Bd y F) (hG : E + F ≤ G + 1074) (hG2 : G < 2098) : Bd (fop .mul .f64 x y) G := by
  obtain ⟨s, m, u, e1, h1, _⟩ := read_bd hx
  obtain ⟨t, n, v, e2, h2, _⟩ := read_bd hy
  unfold fop floatBits Format.mul
  rw [e1, e2]
  unfold Datum.product
  dsimp only
  rw [Option.map_some]
  dsimp only
  unfold Format.write
  dsimp only
  refine near_bd _ hG2 ?_
  have h3 : (m * n) * 2 ^ (u + v) ≤ p2 (G + 1074) := by
    calc (m * n) * 2 ^ (u + v) = (m * 2 ^ u) * (n * 2 ^ v) := by rw [Nat.pow_add]; simp [Nat.mul_left_comm, Nat.mul_assoc]
      _ ≤ p2 E * p2 F := Nat.mul_le_mul h1 h2
      _ = p2 (E + F) := (p2_add _ _).symm
      _ ≤ _ := p2_le hG
  rw [p2_add] at h3
  rw [← p2_eq] at h3
  by_cases h4 : u + v ≤ 1074
  · have e3 : (-1074 + (u : Int) + (-1074 + (v : Int)) + 1074).toNat = 0 := by omega
    have e4 : (-1074 - (-1074 + (u : Int) + (-1074 + (v : Int)))).toNat = 1074 - (u + v) := by omega
    rw [e3, e4, Nat.pow_zero, Nat.mul_one, ← p2_eq]
    have hs : p2 1074 = p2 (1074 - (u + v)) * p2 (u + v) := by rw [← p2_add]; exact congrArg p2 (by omega)
    rw [hs, ← Nat.mul_assoc] at h3
    exact Nat.le_of_mul_le_mul_right h3 (p2_pos _)
  · have e3 : (-1074 + (u : Int) + (-1074 + (v : Int)) + 1074).toNat = u + v - 1074 := by omega
    have e4 : (-1074 - (-1074 + (u : Int) + (-1074 + (v : Int)))).toNat = 0 := by omega
    rw [e3, e4, Nat.pow_zero, Nat.mul_one, ← p2_eq]
    have hs : p2 (u + v) = p2 (u + v - 1074) * p2 1074 := by rw [← p2_add]; exact congrArg p2 (by omega)
    rw [hs, ← Nat.mul_assoc] at h3
    exact Nat.le_of_mul_le_mul_right h3 (p2_pos _)

/-! ### quotients -/
theorem floor_step {d n k : Nat} (h : d ≤ n * k) : 2 * (d / n) + (d % n != 0).toNat ≤ 2 * k := by
  have h1 : d / n ≤ k := Nat.div_le_of_le_mul h
  by_cases h2 : d / n = k
  · have h3 := Nat.div_add_mod d n
    rw [h2] at h3
    have h4 : d % n = 0 := by omega
    rw [h4, h2]; simp
  · have : (d % n != 0).toNat ≤ 1 := Bool.toNat_le _
    omega

/-- x is at most 2 to the power of K times y, y is not zero. -/
theorem Bd.div {x y K : Nat} (hx : rung FloatKind.f64.format x < FloatKind.f64.format.infRung) (hy : rung FloatKind.f64.format y < FloatKind.f64.format.infRung) (hy0 : 0 < V FloatKind.f64.format (rung FloatKind.f64.format y))
    (h : V FloatKind.f64.format (rung FloatKind.f64.format x) ≤ V FloatKind.f64.format (rung FloatKind.f64.format y) * p2 K) (hK : K < 1024) : Bd (fop .quo .f64 x y) (1074 + K) := by
  have e1 := read_eq FloatKind.f64.format (eb _) x
  have e2 := read_eq FloatKind.f64.format (eb _) y
  rw [if_pos hx] at e1
  rw [if_pos hy] at e2
  unfold fop floatBits Format.div
  dsimp only
  rw [e1, e2]
  unfold V at h hy0
  generalize mag FloatKind.f64.format (rung FloatKind.f64.format x) = m at *
  generalize up FloatKind.f64.format (rung FloatKind.f64.format x) = u at *
  generalize mag FloatKind.f64.format (rung FloatKind.f64.format y) = n at *
  generalize up FloatKind.f64.format (rung FloatKind.f64.format y) = v at *
  generalize neg FloatKind.f64.format x = s at *
  generalize neg FloatKind.f64.format y = t at *
  have hn : 0 < n := Nat.pos_of_ne_zero (fun h0 => by subst h0; simp at hy0)
  unfold Datum.quotient
  dsimp only
  rw [if_neg (by omega)]
  rw [Option.map_some]
  dsimp only
  unfold Format.write
  dsimp only
  have hmore : n.log2 ≤ FloatKind.f64.format.fractionBits + 2 + n.log2 - m.log2 + m.log2 := by omega
  generalize FloatKind.f64.format.fractionBits + 2 + n.log2 - m.log2 = more at hmore
  rw [lp64, Nat.shiftLeft_eq]
  refine near_bd _ (by omega) ?_
  -- the place of the quotient
  have hpl : ((-1074 : Int) + (u : Int) - (-1074 + (v : Int)) - (more : Int) - 1) = (u : Int) - v - more - 1 := by omega
  rw [hpl]
  -- q ≤ 2 ^ (K + v - u + more), as whole numbers
  by_cases hc : u ≤ K + v + more
  · have h1 : m * 2 ^ more ≤ n * p2 (K + v + more - u) := by
      have h2 : m * 2 ^ u * 2 ^ more ≤ n * 2 ^ v * p2 K * 2 ^ more := Nat.mul_le_mul_right _ h
      have h3 : n * 2 ^ v * p2 K * 2 ^ more = n * p2 (K + v + more - u) * p2 u := by
        rw [Nat.mul_assoc n (p2 _) (p2 _), ← p2_add, ← p2_eq, ← p2_eq, Nat.mul_assoc n, ← p2_add, Nat.mul_assoc n, ← p2_add]
        exact congrArg (n * p2 ·) (by omega)
      rw [h3, Nat.mul_right_comm, ← p2_eq u] at h2
      exact Nat.le_of_mul_le_mul_right h2 (p2_pos _)
    have h4 := floor_step h1
    refine Nat.le_trans (Nat.mul_le_mul_right _ h4) ?_
    rw [← p2_eq, ← p2_eq, show 2 * p2 (K + v + more - u) = p2 (K + v + more - u + 1) by rw [p2_add]; show _ = _ * 2; omega, ← p2_add, ← p2_add]
    exact p2_le (by omega)
  · -- then the dividend is nought
    have h1 : m = 0 := by
      refine Nat.eq_zero_of_le_zero (Nat.le_of_not_lt fun hm => ?_)
      have h2 : m * p2 (u - (K + v)) ≤ n := by
        have h3 : p2 u = p2 (u - (K + v)) * p2 (K + v) := by rw [← p2_add]; exact congrArg p2 (by omega)
        rw [Nat.mul_assoc n, ← p2_eq u, ← p2_eq v, ← p2_add, Nat.add_comm v K, h3, ← Nat.mul_assoc] at h
        exact Nat.le_of_mul_le_mul_right h (p2_pos _)
      have h3 : 2 ^ (m.log2 + (u - (K + v))) ≤ n := by
        rw [Nat.pow_add]
        exact Nat.le_trans (Nat.mul_le_mul_right _ (Nat.log2_self_le (by omega))) h2
      have h4 := (Nat.le_log2 (by omega)).2 h3
      omega
    subst h1
    simp

/-! ### roots -/
def fsqrt (x : Nat) : Nat := match FloatKind.f64.format.sqrt x with | some r => r | none => qn .f64

theorem rootFrom_sq (n : Nat) : ∀ (todo root : Nat), root * root ≤ n → Ieee.Datum.rootFrom n todo root * Ieee.Datum.rootFrom n todo root ≤ n
  | 0, _, h => h
  | todo + 1, root, h => by
    unfold Ieee.Datum.rootFrom
    dsimp only
    split
    · rename_i h2; exact rootFrom_sq n todo _ h2
    · exact rootFrom_sq n todo _ h

theorem sq_le {a b : Nat} (h : a * a ≤ b * b) : a ≤ b := by
  rcases Nat.lt_or_ge b a with h1 | h1
  · have : b * b < a * a := Nat.mul_lt_mul_of_lt_of_le h1 (Nat.le_of_lt h1) (by omega)
    omega
  · exact h1

theorem root_step {n w l : Nat} (hw : w * w ≤ n) (hn : n ≤ l * l) : 2 * w + (w * w != n).toNat ≤ 2 * l := by
  have h1 : w ≤ l := sq_le (Nat.le_trans hw hn)
  by_cases h2 : w = l
  · subst h2
    have : (w * w != n) = false := by simp; omega
    rw [this]; simp
  · have : (w * w != n).toNat ≤ 1 := Bool.toNat_le _
    omega

/-- The root of a number of at most 2 to the power of 2 K that has no sign. -/
theorem Bd.root {x K : Nat} (hx : Bd x (1074 + 2 * K)) (hs : neg FloatKind.f64.format x = false) (hK : K < 1000) : Bd (fsqrt x) (1074 + K) ∧ neg FloatKind.f64.format (fsqrt x) = false := by
  obtain ⟨s, m, u, e1, h1, h2, _⟩ := read_bd hx
  rw [hs] at h2
  subst h2
  unfold fsqrt Format.sqrt
  rw [e1]
  unfold Datum.root
  dsimp only
  by_cases h0 : m = 0
  · rw [if_pos h0]
    subst h0
    simp only [Option.map_some, Format.write]
    have e : FloatKind.f64.format.nearest false 0 (-1074 + (u : Int)) = 0 := by unfold Format.nearest; simp [Format.word]
    rw [e]
    exact ⟨⟨by decide, by rw [show rung FloatKind.f64.format 0 = 0 by decide, V_zero]; exact Nat.zero_le _⟩, by decide⟩
  · rw [if_neg h0]
    simp only [Bool.false_eq_true, if_false, Option.map_some, Format.write]
    refine ⟨?_, nearest_neg ..⟩
    generalize hmore : 2 * (FloatKind.f64.format.fractionBits + 2) - m.log2 + (((-1074 + (u : Int)) - ((2 * (FloatKind.f64.format.fractionBits + 2) - m.log2 : Nat) : Int)) % 2).toNat = more
    have heven : ((-1074 + (u : Int)) - (more : Int)) % 2 = 0 := by omega
    obtain ⟨j, hj⟩ : ∃ j : Int, (-1074 + (u : Int)) - (more : Int) = 2 * j := ⟨((-1074 + (u : Int)) - (more : Int)) / 2, by omega⟩
    rw [hj, show (2 * j / 2 - 1 : Int) = j - 1 by omega, Nat.shiftLeft_eq]
    have hw : Ieee.Datum.rootFrom (m * 2 ^ more) ((m * 2 ^ more).log2 / 2 + 1) 0 * Ieee.Datum.rootFrom (m * 2 ^ more) ((m * 2 ^ more).log2 / 2 + 1) 0 ≤ m * 2 ^ more := rootFrom_sq _ _ _ (by simp)
    generalize Ieee.Datum.rootFrom (m * 2 ^ more) ((m * 2 ^ more).log2 / 2 + 1) 0 = wh at hw
    -- m 2 ^ more ≤ (2 ^ (K - j)) ^ 2
    have hm1 : 1 ≤ m := by omega
    have hKj : j ≤ K := by
      by_cases hle : j ≤ K
      · exact hle
      · exfalso
        have h3 : m * p2 u * p2 more ≤ p2 (1074 + 2 * K) * p2 more := Nat.mul_le_mul_right _ h1
        have h4 : p2 (u + more) ≤ p2 (1074 + 2 * K + more) := by
          rw [p2_add, p2_add (1074 + 2 * K)]
          refine Nat.le_trans ?_ h3
          rw [Nat.mul_assoc]; exact Nat.le_mul_of_pos_left _ hm1
        have h5 := @p2_lt (1074 + 2 * K + more) (u + more) (by omega)
        omega
    have hn : m * 2 ^ more ≤ p2 (K - j).toNat * p2 (K - j).toNat := by
      rw [← p2_add]
      have h3 : m * p2 u * p2 more ≤ p2 (1074 + 2 * K) * p2 more := Nat.mul_le_mul_right _ h1
      have h4 : p2 (1074 + 2 * K) * p2 more = p2 ((K - j).toNat + (K - j).toNat) * p2 u := by
        rw [← p2_add, ← p2_add]; exact congrArg p2 (by omega)
      rw [h4, Nat.mul_right_comm] at h3
      exact Nat.le_of_mul_le_mul_right h3 (p2_pos _)
    have h5 := root_step hw hn
    refine near_bd _ (by omega) ?_
    refine Nat.le_trans (Nat.mul_le_mul_right _ h5) ?_
    rw [← p2_eq, ← p2_eq, show 2 * p2 (K - j).toNat = p2 ((K - j).toNat + 1) by rw [p2_add]; show _ = _ * 2; omega, ← p2_add, ← p2_add]
    exact p2_le (by omega)

/-- Narrowing a number below 2 to the power of 128 makes no infinity. -/
theorem Bd.fits {x E : Nat} (h : Bd x E) (hE : E ≤ 1201) : fits x := by
  have hn := h.nan
  refine .inr (.inr ?_)
  obtain ⟨s, m, u, e1, h1, _⟩ := read_bd h
  unfold nar
  rw [if_neg (by rw [hn]; simp), e1]
  unfold Format.write
  dsimp only
  rw [nearest_rung]
  split
  · decide
  · rename_i h0
    obtain ⟨r, hr⟩ := pow_rung FloatKind.f32.format 276
    have hri : r < FloatKind.f32.format.infRung := by
      rw [← V_lt_iff FloatKind.f32.format, hr, top32]
      exact p2_lt (by decide)
    have hle := rnd_le FloatKind.f32.format s (r := r) (place := -1074 + (u : Int)) h0 (by
      rw [lp32, hr]
      have h2 : m * p2 u ≤ p2 276 * p2 925 := by rw [← p2_add]; exact Nat.le_trans h1 (p2_le hE)
      by_cases h4 : u ≤ 925
      · have e3 : (-1074 + (u : Int) - (-149)).toNat = 0 := by omega
        have e4 : (-149 - (-1074 + (u : Int))).toNat = 925 - u := by omega
        rw [e3, e4, Nat.pow_zero, Nat.mul_one, ← p2_eq]
        have hs : p2 925 = p2 (925 - u) * p2 u := by rw [← p2_add]; exact congrArg p2 (by omega)
        rw [hs, ← Nat.mul_assoc] at h2
        exact Nat.le_of_mul_le_mul_right h2 (p2_pos _)
      · have e3 : (-1074 + (u : Int) - (-149)).toNat = u - 925 := by omega
        have e4 : (-149 - (-1074 + (u : Int))).toNat = 0 := by omega
        rw [e3, e4, Nat.pow_zero, Nat.mul_one, ← p2_eq]
        have hs : p2 u = p2 (u - 925) * p2 925 := by rw [← p2_add]; exact congrArg p2 (by omega)
        rw [hs, ← Nat.mul_assoc] at h2
        exact Nat.le_of_mul_le_mul_right h2 (p2_pos _))
    have := Nat.min_le_left (rnd FloatKind.f32.format s m (-1074 + (u : Int))) FloatKind.f32.format.infRung
    omega
end Go.Fl
