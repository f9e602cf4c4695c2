/-
  Angles, as plain functions of the words; their bounds.
-/
import Derived.Test.YtpnmledanloboaaCirc
import Derived.Test.YtpnmledanloboaaFn
namespace Go.Fl
open Ieee

def EIGHT : Nat := 4620693217682128896
def rt (t : Nat) : Nat := fop .quo .f64 t (fop .add .f64 ONE (fsqrt (fop .add .f64 ONE (fop .mul .f64 t t))))
def rtN (t : Nat) : Nat → Nat
  | 0 => t
  | j + 1 => rt (rtN t j)
def serA (u : Nat) : Nat → Nat
  | 0 => 0
  | j + 1 => fop .sub .f64 (fop .quo .f64 ONE (floatOfInt .f64 (15 - 2 * (j : Int)))) (fop .mul .f64 u (serA u j))
def flatZ (t : Nat) : Nat := fop .quo .f64 (fop .mul .f64 EIGHT (fop .mul .f64 t (serA (fop .mul .f64 t t) 8))) TAU
def flatA (t : Nat) : Nat := flatZ (rtN t 3)
def steep (a b : Nat) : Nat := if fcmp .gtr .f64 a b = true then fop .sub .f64 QUART (flatA (fop .quo .f64 b a)) else flatA (fop .quo .f64 a b)
def turnX (x g : Nat) : Nat := if fcmp .lss .f64 x 0 = true then fop .sub .f64 HALF g else g
def turnY (y g : Nat) : Nat := if fcmp .lss .f64 y 0 = true then fneg .f64 g else g
def angW (y x : Nat) : Nat := turnY y (turnX x (steep (fabs y) (fabs x)))

/-- No sign. -/
def Nn (x : Nat) : Prop := neg FloatKind.f64.format x = false

theorem read_fin {x : Nat} (h : rung FloatKind.f64.format x < FloatKind.f64.format.infRung) : FloatKind.f64.format.read x = .number (neg FloatKind.f64.format x) (mag FloatKind.f64.format (rung FloatKind.f64.format x)) (-1074 + (up FloatKind.f64.format (rung FloatKind.f64.format x) : Int)) := by
  have e := read_eq FloatKind.f64.format (eb _) x
  rw [if_pos h, lp64] at e
  exact e

theorem mul_nn {x : Nat} (h : rung FloatKind.f64.format x < FloatKind.f64.format.infRung) : Nn (fop .mul .f64 x x) := by
  unfold Nn fop floatBits Format.mul
  dsimp only
  rw [read_fin h]
  unfold Datum.product
  dsimp only
  rw [Option.map_some]
  dsimp only
  unfold Format.write
  dsimp only
  rw [nearest_neg]; simp

/-- A sum of two numbers without a sign has none, and is not less than the first. -/
theorem add_ge {x y E : Nat} (hx : Bd x E) (hy : Bd y E) (nx : Nn x) (ny : Nn y) (hE : E + 1 < 2098) :
    Nn (fop .add .f64 x y) ∧ V FloatKind.f64.format (rung FloatKind.f64.format x) ≤ V FloatKind.f64.format (rung FloatKind.f64.format (fop .add .f64 x y)) := by
  have hb := hx.add hy hE
  have e1 := read_fin hx.1
  have e2 := read_fin hy.1
  unfold Nn at nx ny
  rw [nx] at e1
  rw [ny] at e2
  have hfx : V FloatKind.f64.format (rung FloatKind.f64.format x) = mag FloatKind.f64.format (rung FloatKind.f64.format x) * 2 ^ up FloatKind.f64.format (rung FloatKind.f64.format x) := rfl
  have hri := hx.1
  revert hb
  unfold Nn fop floatBits Format.add
  dsimp only
  rw [e1, e2]
  generalize rung FloatKind.f64.format x = rx at *
  generalize mag FloatKind.f64.format rx = m at *
  generalize up FloatKind.f64.format rx = u at *
  generalize mag FloatKind.f64.format (rung FloatKind.f64.format y) = n at *
  generalize up FloatKind.f64.format (rung FloatKind.f64.format y) = v at *
  unfold Datum.sum
  dsimp only
  rw [Option.map_some]
  dsimp only
  unfold Format.write
  dsimp only
  have f1 : ((-1074 : Int) + (u : Int) - min (-1074 + (u : Int)) (-1074 + (v : Int))).toNat = u - min u v := by omega
  have f2 : ((-1074 : Int) + (v : Int) - min (-1074 + (u : Int)) (-1074 + (v : Int))).toNat = v - min u v := by omega
  rw [f1, f2]
  have g1 : signed false m (u - min u v) = ((m * 2 ^ (u - min u v) : Nat) : Int) := by unfold signed; simp [Nat.shiftLeft_eq]
  have g2 : signed false n (v - min u v) = ((n * 2 ^ (v - min u v) : Nat) : Int) := by unfold signed; simp [Nat.shiftLeft_eq]
  rw [g1, g2]
  generalize hA : m * 2 ^ (u - min u v) = A
  generalize n * 2 ^ (v - min u v) = B
  intro hb
  refine ⟨?_, ?_⟩
  · rw [nearest_neg]
    split
    · rfl
    · exact decide_eq_false (by omega)
  · have h3 : ((A : Int) + (B : Int)).natAbs = A + B := by omega
    rw [h3, nearest_rung]
    have hVA : V FloatKind.f64.format rx = A * 2 ^ min u v := by
      rw [hfx, ← hA, Nat.mul_assoc, ← Nat.pow_add]
      congr 2; omega
    by_cases h0 : A + B = 0
    · rw [if_pos h0]
      have : A = 0 := by omega
      rw [hVA, this, Nat.zero_mul]; exact Nat.zero_le _
    · rw [if_neg h0]
      refine V_le _ ?_
      have hle := le_rnd FloatKind.f64.format (if (A : Int) + (B : Int) = 0 then false && false else decide ((A : Int) + (B : Int) < 0)) (mag := A + B) (r := rx) (place := min (-1074 + (u : Int)) (-1074 + (v : Int))) h0 (by
        have e3 : (FloatKind.f64.format.leastPlace - min (-1074 + (u : Int)) (-1074 + (v : Int))).toNat = 0 := by rw [lp64]; omega
        have e4 : (min (-1074 + (u : Int)) (-1074 + (v : Int)) - FloatKind.f64.format.leastPlace).toNat = min u v := by rw [lp64]; omega
        rw [e3, e4, hVA, Nat.pow_zero, Nat.mul_one]
        exact Nat.mul_le_mul_right _ (Nat.le_add_right A B))
      exact Nat.le_min.mpr ⟨hle, Nat.le_of_lt hri⟩

theorem one_nn : Nn ONE := by
  unfold Nn
  decide +kernel
theorem one_V : V FloatKind.f64.format (rung FloatKind.f64.format ONE) = p2 1074 := by decide +kernel

/-- A round on a number of at most 1. -/
theorem rt_bd {t : Nat} (h : Bd t 1074) : Bd (rt t) 1074 := by
  have hm : Bd (fop .mul .f64 t t) 1074 := h.mul h (by decide) (by decide)
  have ha := add_ge one_bd hm one_nn (mul_nn h.1) (by decide)
  have hab : Bd (fop .add .f64 ONE (fop .mul .f64 t t)) (1074 + 2 * 1) := (one_bd.add hm (by decide)).mono (by decide)
  have hs := Bd.root hab ha.1 (by decide)
  have hd := add_ge (one_bd.mono (by decide)) hs.1 one_nn hs.2 (by decide)
  have hdb := (one_bd.mono (F := 1075) (by decide)).add hs.1 (by decide)
  unfold rt
  have hge : p2 1074 ≤ V FloatKind.f64.format (rung FloatKind.f64.format (fop .add .f64 ONE (fsqrt (fop .add .f64 ONE (fop .mul .f64 t t))))) := by rw [← one_V]; exact hd.2
  exact Bd.div (K := 0) h.1 hdb.1 (Nat.lt_of_lt_of_le (p2_pos _) hge) (by
    rw [show p2 0 = 1 from rfl, Nat.mul_one]; exact Nat.le_trans h.2 hge) (by decide)

theorem rtN_bd {t : Nat} (h : Bd t 1074) : ∀ j, Bd (rtN t j) 1074
  | 0 => h
  | j + 1 => rt_bd (rtN_bd h j)

theorem serA_bd {u : Nat} (hu : Bd u 1074) : ∀ j, j ≤ 8 → Bd (serA u j) (1074 + j)
  | 0, _ => ⟨by show rung FloatKind.f64.format 0 < _; decide, by rw [show rung FloatKind.f64.format (serA u 0) = 0 from rfl, V_zero]; exact Nat.zero_le _⟩
  | j + 1, hj => by
    have ih := serA_bd hu j (by omega)
    have ih' : Bd (serA u j) (1074 + j) := ih
    have h1 : Bd (fop .mul .f64 u (serA u j)) (1074 + j) := hu.mul ih' (by omega) (by omega)
    have hp : (2 : Int) ^ 52 = 4503599627370496 := by decide
    have h2 := one_bd.div_int (n := 15 - 2 * (j : Int)) (by omega) (by omega) (by decide) (by decide)
    unfold serA
    have h3 : Bd (fop .quo .f64 ONE (floatOfInt .f64 (15 - 2 * (j : Int)))) (1074 + j) := h2.mono (by omega)
    have h4 := h3.sub h1 (by omega)
    exact h4

theorem eight_bd : Bd EIGHT 1077 := bd_of (by decide) (by decide +kernel)
theorem tau_ge : p2 1076 ≤ V FloatKind.f64.format (rung FloatKind.f64.format TAU) := of_decide_eq_true (by decide +kernel)

theorem flatA_bd {t : Nat} (h : Bd t 1074) : Bd (flatA t) 1083 := by
  have ht := rtN_bd h 3
  unfold flatA flatZ
  generalize rtN t 3 = q at ht
  have hu : Bd (fop .mul .f64 q q) 1074 := ht.mul ht (by decide) (by decide)
  have h1 : Bd (fop .mul .f64 q (serA (fop .mul .f64 q q) 8)) 1082 := ht.mul (serA_bd hu 8 (by decide)) (by decide) (by decide)
  have h2 : Bd (fop .mul .f64 EIGHT (fop .mul .f64 q (serA (fop .mul .f64 q q) 8))) 1085 := eight_bd.mul h1 (by decide) (by decide)
  exact Bd.div (K := 9) h2.1 (by decide) (Nat.lt_of_lt_of_le (p2_pos _) tau_ge) (by
    refine Nat.le_trans h2.2 ?_
    rw [show (1085 : Nat) = 1076 + 9 from rfl, p2_add]
    exact Nat.mul_le_mul_right _ tau_ge) (by decide)

theorem quart_bd : Bd QUART 1074 := bd_of (by decide) (by decide +kernel)

theorem rung_fabs {X : Nat} (h : nan .f64 X = false) : rung FloatKind.f64.format (fabs X) = rung FloatKind.f64.format X := by
  unfold fabs; rw [h]
  simp only [Bool.false_eq_true, if_false]
  rw [rung64, rung64, Nat.mod_mod]

theorem steep_bd {A B : Nat} (ha : fin .f64 A = true) (hb : fin .f64 B = true) (hz : rung FloatKind.f64.format A ≠ 0 ∨ rung FloatKind.f64.format B ≠ 0) :
    Bd (steep (fabs A) (fabs B)) 1084 := by
  have na := nan_of_fin ha
  have nb := nan_of_fin hb
  have ra := rung_fabs na
  have rb := rung_fabs nb
  unfold fin at ha hb
  have ha' := of_decide_eq_true ha
  have hb' := of_decide_eq_true hb
  have v0 := V_zero FloatKind.f64.format
  have hg : fcmp .gtr .f64 (fabs A) (fabs B) = decide (rung FloatKind.f64.format B < rung FloatKind.f64.format A) := by
    rw [fcmp_gtr .f64 (by rw [nan_fabs, na]) (by rw [nan_fabs, nb]), key_fabs na, key_fabs nb, Bool.eq_iff_iff]
    simp
  unfold steep
  rw [hg]
  by_cases h : rung FloatKind.f64.format B < rung FloatKind.f64.format A
  · rw [if_pos (decide_eq_true h)]
    have hd : Bd (fop .quo .f64 (fabs B) (fabs A)) 1074 := Bd.div (K := 0) (by rw [rb]; exact hb') (by rw [ra]; exact ha') (by
        rw [ra]; have := V_lt FloatKind.f64.format h; omega) (by
        rw [ra, rb, show p2 0 = 1 from rfl, Nat.mul_one]; exact V_le _ (Nat.le_of_lt h)) (by decide)
    exact (quart_bd.mono (by decide)).sub (flatA_bd hd) (by decide)
  · rw [if_neg (by simpa using h)]
    have hd : Bd (fop .quo .f64 (fabs A) (fabs B)) 1074 := Bd.div (K := 0) (by rw [ra]; exact ha') (by rw [rb]; exact hb') (by
        rw [rb]; have := V_lt FloatKind.f64.format (show 0 < rung FloatKind.f64.format B by omega); omega) (by
        rw [ra, rb, show p2 0 = 1 from rfl, Nat.mul_one]; exact V_le _ (by omega)) (by decide)
    exact (flatA_bd hd).mono (by decide)

theorem angW_fits {Y X : Nat} (hy : fin .f64 Y = true) (hx : fin .f64 X = true) (hz : rung FloatKind.f64.format Y ≠ 0 ∨ rung FloatKind.f64.format X ≠ 0) : fits (angW Y X) := by
  have h1 := steep_bd hy hx hz
  have h2 : Bd (turnX X (steep (fabs Y) (fabs X))) 1085 := by
    unfold turnX; split
    · exact (half_bd.mono (by decide)).sub h1 (by decide)
    · exact h1.mono (by decide)
  have hl : turnX X (steep (fabs Y) (fabs X)) < 2 ^ FloatKind.f64.format.width := by
    unfold turnX; split
    · exact fop_lt ..
    · unfold steep; split
      · exact fop_lt ..
      · exact fop_lt ..
  have h3 : Bd (angW Y X) 1085 := by
    unfold angW turnY; split
    · unfold fneg; rw [h2.nan]
      simp only [Bool.false_eq_true, if_false]
      have := (neg_rung hl).1
      exact ⟨by rw [this]; exact h2.1, by rw [this]; exact h2.2⟩
    · exact h2
  exact h3.fits (by decide)

/-! ### comparing with 0 before and after widening -/
theorem rung_wid_zero {X : Nat} (h : fin .f32 X = true) : rung FloatKind.f64.format (wid X) = 0 ↔ rung FloatKind.f32.format X = 0 := by
  unfold fin at h
  have hv := (wid_fin (of_decide_eq_true h)).2.2
  constructor
  · intro e
    rw [e, V_zero] at hv
    have : V FloatKind.f32.format (rung FloatKind.f32.format X) = 0 := by
      rcases Nat.mul_eq_zero.1 hv.symm with h | h
      · exact h
      · have := p2_pos 925; omega
    exact V_inj FloatKind.f32.format (by rw [this, V_zero])
  · intro e
    rw [e, V_zero, Nat.zero_mul] at hv
    exact V_inj FloatKind.f64.format (by rw [hv, V_zero])

theorem lss_wid {X : Nat} (h : fin .f32 X = true) : fcmp .lss .f64 (wid X) 0 = fcmp .lss .f32 X 0 := by
  have hn := nan_of_fin h
  have hn2 : nan .f64 (wid X) = false := by rw [nan_wid, hn]
  have hz := rung_wid_zero h
  have hs := neg_wid hn
  rw [fcmp_lss .f64 hn2 (by decide), fcmp_lss .f32 hn (by decide), show key FloatKind.f64.format 0 = 0 by decide, show key FloatKind.f32.format 0 = 0 by decide]
  unfold key
  rw [hs, Bool.eq_iff_iff]
  cases neg FloatKind.f32.format X <;> simp <;> omega

theorem eql_zero (k : FloatKind) {X : Nat} (h : nan k X = false) : fcmp .eql k X 0 = decide (rung k.format X = 0) := by
  have h0 : nan k 0 = false := by cases k <;> decide
  have k0 : key k.format 0 = 0 := by cases k <;> decide
  rw [fcmp_eql k h h0, k0, Bool.eq_iff_iff]
  unfold key
  cases neg k.format X <;> simp

theorem eql_wid {X : Nat} (h : fin .f32 X = true) : fcmp .eql .f64 (wid X) 0 = fcmp .eql .f32 X 0 := by
  have hn := nan_of_fin h
  have hn2 : nan .f64 (wid X) = false := by rw [nan_wid, hn]
  rw [eql_zero .f64 hn2, eql_zero .f32 hn, Bool.eq_iff_iff]
  simp only [decide_eq_true_eq]
  exact rung_wid_zero h

/-- The angle of a point with 32-bit numbers. -/
def angT (Y X : Nat) : Nat := if (fin .f32 X && fin .f32 Y) = true then (if (fcmp .eql .f32 X 0 && fcmp .eql .f32 Y 0) = true then 0 else nar (angW (wid Y) (wid X))) else qn .f32

theorem angT_fits {Y X : Nat} (hx : fin .f32 X = true) (hy : fin .f32 Y = true) (hz : (fcmp .eql .f32 X 0 && fcmp .eql .f32 Y 0) = false) : fits (angW (wid Y) (wid X)) := by
  refine angW_fits (by rw [fin_wid, hy]) (by rw [fin_wid, hx]) ?_
  rw [eql_zero .f32 (nan_of_fin hx), eql_zero .f32 (nan_of_fin hy)] at hz
  have h1 := rung_wid_zero hx
  have h2 := rung_wid_zero hy
  by_cases e : rung FloatKind.f64.format (wid Y) = 0
  · refine .inr ?_
    intro e2
    rw [decide_eq_true (h1.1 e2), decide_eq_true (h2.1 e)] at hz
    exact absurd hz (by decide)
  · exact .inl e

theorem angW_eq {Y X : Nat} {c1 c2 : Bool} {S : Nat} (hS : steep (fabs Y) (fabs X) = S) (h1 : fcmp .lss .f64 X 0 = c1) (h2 : fcmp .lss .f64 Y 0 = c2) :
    angW Y X = (if c2 = true then fneg .f64 (if c1 = true then fop .sub .f64 HALF S else S) else (if c1 = true then fop .sub .f64 HALF S else S)) := by
  unfold angW turnY turnX
  rw [h1, h2, hS]

end Go.Fl
