/-
  Turns: the part behind the point, and the sine, as plain functions of the words; their bounds.
-/
import Derived.Test.YtpnmledanloboaaBd
namespace Go.Fl
open Ieee

def ONE : Nat := 4607182418800017408
def HALF : Nat := 4602678819172646912
def QUART : Nat := 4598175219545276416
def TAU : Nat := 4618760256179416344

/-- The whole number of turns, cut towards zero. -/
def tz (Y : Nat) : Nat := V FloatKind.f64.format (rung FloatKind.f64.format Y) / p2 1074
def tint (Y : Nat) : Int := signed (neg FloatKind.f64.format Y) (tz Y) 0

theorem cut_zero (s : Bool) (n d : Nat) : Toward.zero.cut s n d = n / 2 ^ d := by
  unfold Toward.cut
  dsimp only
  rw [Nat.one_shiftLeft]
  have hlog : n < 2 ^ (n.log2 + 1) := Nat.lt_log2_self
  by_cases hd : d ≤ n.log2 + 2
  · rw [Nat.min_eq_left hd]; simp
  · rw [Nat.min_eq_right (by omega)]
    have h1 : 2 ^ (n.log2 + 1) ≤ 2 ^ d := Nat.pow_le_pow_right (by decide) (by omega)
    have h2 : 2 ^ (n.log2 + 1) ≤ 2 ^ (n.log2 + 2) := Nat.pow_le_pow_right (by decide) (by omega)
    rw [Nat.div_eq_of_lt (by omega), Nat.div_eq_of_lt (show n < 2 ^ d by omega)]; simp

theorem toInt_eq {Y : Nat} (h : rung FloatKind.f64.format Y < FloatKind.f64.format.infRung) : (FloatKind.f64.decode Y).toInt .zero = some (tint Y) := by
  have e := read_eq FloatKind.f64.format (eb _) Y
  rw [if_pos h, lp64] at e
  unfold FloatKind.decode
  rw [e]
  unfold Datum.toInt Datum.integral tint tz V
  dsimp only
  generalize mag FloatKind.f64.format (rung FloatKind.f64.format Y) = m
  generalize up FloatKind.f64.format (rung FloatKind.f64.format Y) = u
  rw [cut_zero, Nat.shiftLeft_eq]
  congr 2
  by_cases hu : u ≤ 1074
  · have e1 : (-1074 + (u : Int)).toNat = 0 := by omega
    have e2 : (-(-1074 + (u : Int))).toNat = 1074 - u := by omega
    rw [e1, e2, Nat.pow_zero, Nat.mul_one, ← p2_eq, ← p2_eq u, show p2 1074 = p2 (1074 - u) * p2 u by rw [← p2_add]; exact congrArg p2 (by omega)]
    exact (Nat.mul_div_mul_right _ _ (p2_pos u)).symm
  · have e1 : (-1074 + (u : Int)).toNat = u - 1074 := by omega
    have e2 : (-(-1074 + (u : Int))).toNat = 0 := by omega
    rw [e1, e2, Nat.pow_zero, Nat.div_one, ← p2_eq, ← p2_eq u, show p2 u = p2 (u - 1074) * p2 1074 by rw [← p2_add]; exact congrArg p2 (by omega), ← Nat.mul_assoc]
    exact (Nat.mul_div_cancel _ (p2_pos _)).symm

/-- Less than 2 to the power of 52. -/
def short (Y : Nat) : Prop := rung FloatKind.f64.format Y < FloatKind.f64.format.infRung ∧ V FloatKind.f64.format (rung FloatKind.f64.format Y) < p2 1126

theorem short.bd {Y : Nat} (h : short Y) : Bd Y 1126 := ⟨h.1, Nat.le_of_lt h.2⟩
theorem short.tz {Y : Nat} (h : short Y) : tz Y < 2 ^ 52 := by
  unfold Fl.tz
  rw [Nat.div_lt_iff_lt_mul (p2_pos _), show (2 ^ 52 : Nat) = p2 52 from rfl, ← p2_add]
  exact h.2

theorem short.toInt {Y : Nat} (h : short Y) : floatToIntVal .f64 Y .i64 = some (tint Y) := by
  have ht := h.tz
  unfold floatToIntVal
  rw [toInt_eq h.1]
  dsimp only
  have h1 : IntKind.i64.min = -9223372036854775808 := by decide
  have h2 : IntKind.i64.max = 9223372036854775807 := by decide
  have hb : -9223372036854775808 ≤ tint Y ∧ tint Y ≤ 9223372036854775807 := by
    unfold tint signed
    rw [Nat.shiftLeft_zero]
    have : (2 : Nat) ^ 52 = 4503599627370496 := by decide
    split <;> omega
  rw [h1, h2, if_pos hb]

theorem intWord_neg (n : Int) : neg FloatKind.f64.format (floatOfInt .f64 n) = decide (n < 0) := nearest_neg ..

theorem mul_rung (f : Format) (m u : Nat) (h : m.log2 ≤ f.fractionBits) : ∃ r, V f r = m * p2 u := exact_rung f m u h

theorem intWord_V (n : Int) (h : n.natAbs.log2 ≤ 52) : rung FloatKind.f64.format (floatOfInt .f64 n) < FloatKind.f64.format.infRung ∧ V FloatKind.f64.format (rung FloatKind.f64.format (floatOfInt .f64 n)) = n.natAbs * p2 1074 := by
  obtain ⟨r, hr⟩ := mul_rung FloatKind.f64.format n.natAbs 1074 h
  have hlt : n.natAbs < p2 53 := Nat.lt_of_lt_of_le (Nat.lt_log2_self) (p2_le (by omega))
  have hri : r < FloatKind.f64.format.infRung := by
    rw [← V_lt_iff FloatKind.f64.format, hr, ← top64, show (2098 : Nat) = 1024 + 1074 from rfl, p2_add]
    exact Nat.mul_lt_mul_of_pos_right (Nat.lt_trans hlt (p2_lt (by decide))) (p2_pos _)
  have e : rung FloatKind.f64.format (floatOfInt .f64 n) = r := by
    refine rung_of_V FloatKind.f64.format _ ?_ (Nat.le_of_lt hri)
    rw [lp64, hr]
    have e1 : ((-1074 : Int) - 0).toNat = 0 := by omega
    obtain ⟨q, hq⟩ : ∃ q : Nat, q = 1074 := ⟨_, rfl⟩
    have e2 : ((0 : Int) - (-1074)).toNat = q := by omega
    rw [e1, e2, Nat.pow_zero, Nat.mul_one, ← p2_eq, hq]
  rw [e]
  exact ⟨hri, hr⟩

theorem intWord_is (n : Int) : Is .f64 (floatOfInt .f64 n) (floatOfInt .f64 n) :=
  ⟨cn_of _ (show nan .f64 (FloatKind.f64.format.write (.number (n < 0) n.natAbs 0)) = false from nan_write _ (by intro s t e; cases e)), nearest_lt ..⟩

def part0 (Y : Nat) : Nat := fop .sub .f64 Y (floatOfInt .f64 (tint Y))

/-- What is behind the point is at most 1. -/
theorem part0_bd {Y : Nat} (h : short Y) : Bd (part0 Y) 1074 := by
  have ht := h.tz
  have hna : (tint Y).natAbs = tz Y := by unfold tint; rw [signed_abs]; simp
  have hlog : (tint Y).natAbs.log2 ≤ 52 := by
    rw [hna]
    rcases Nat.eq_zero_or_pos (tz Y) with h0 | h0
    · rw [h0]; exact Nat.le_trans (by decide) (Nat.zero_le _)
    · have := (Nat.log2_lt (by omega : tz Y ≠ 0)).2 ht; omega
  obtain ⟨hr2, hV2⟩ := intWord_V (tint Y) hlog
  have hN2 := intWord_neg (tint Y)
  have e1 := read_eq FloatKind.f64.format (eb _) Y
  have e2 := read_eq FloatKind.f64.format (eb _) (floatOfInt .f64 (tint Y))
  rw [if_pos h.1, lp64] at e1
  rw [if_pos hr2, lp64] at e2
  unfold part0 fop floatBits Format.sub
  dsimp only
  rw [e1, e2]
  rw [hN2] at e2 ⊢
  rw [hna] at hV2
  have hV1 : V FloatKind.f64.format (rung FloatKind.f64.format Y) = mag FloatKind.f64.format (rung FloatKind.f64.format Y) * 2 ^ up FloatKind.f64.format (rung FloatKind.f64.format Y) := rfl
  have hdm := Nat.div_add_mod (V FloatKind.f64.format (rung FloatKind.f64.format Y)) (p2 1074)
  have hmod := Nat.mod_lt (V FloatKind.f64.format (rung FloatKind.f64.format Y)) (p2_pos 1074)
  have htz : tz Y = V FloatKind.f64.format (rung FloatKind.f64.format Y) / p2 1074 := rfl
  rw [← htz] at hdm
  have hV2' : mag FloatKind.f64.format (rung FloatKind.f64.format (floatOfInt .f64 (tint Y))) * 2 ^ up FloatKind.f64.format (rung FloatKind.f64.format (floatOfInt .f64 (tint Y))) = tz Y * p2 1074 := hV2
  have hs : decide (tint Y < 0) = (neg FloatKind.f64.format Y && decide (tz Y ≠ 0)) := by
    unfold tint signed
    rw [Nat.shiftLeft_zero]
    cases neg FloatKind.f64.format Y
    · simp
    · rw [Bool.eq_iff_iff]; simp; omega
  rw [hs]
  generalize mag FloatKind.f64.format (rung FloatKind.f64.format (floatOfInt .f64 (tint Y))) = n at *
  generalize up FloatKind.f64.format (rung FloatKind.f64.format (floatOfInt .f64 (tint Y))) = v at *
  generalize mag FloatKind.f64.format (rung FloatKind.f64.format Y) = m at *
  generalize up FloatKind.f64.format (rung FloatKind.f64.format Y) = u at *
  generalize hVY : V FloatKind.f64.format (rung FloatKind.f64.format Y) = VY at *
  generalize neg FloatKind.f64.format Y = s at *
  generalize tz Y = t at *
  unfold Datum.opposite Datum.sum
  dsimp only
  rw [Option.map_some]
  dsimp only
  unfold Format.write
  dsimp only
  refine near_bd _ (by decide) ?_
  have e3 : (min (-1074 + (u : Int)) (-1074 + (v : Int)) + 1074).toNat = min u v := by omega
  have e4 : (-1074 - min (-1074 + (u : Int)) (-1074 + (v : Int))).toNat = 0 := by omega
  have f1 : ((-1074 : Int) + (u : Int) - min (-1074 + (u : Int)) (-1074 + (v : Int))).toNat = u - min u v := by omega
  have f2 : ((-1074 : Int) + (v : Int) - min (-1074 + (u : Int)) (-1074 + (v : Int))).toNat = v - min u v := by omega
  rw [e3, e4, f1, f2, Nat.pow_zero, Nat.mul_one]
  have g : ∀ (q : Int) (k : Nat), q.natAbs * 2 ^ k = (q * 2 ^ k).natAbs := by
    intro q k; rw [Int.natAbs_mul, Int.natAbs_pow]; rfl
  rw [g, Int.add_mul, ← signed_up, ← signed_up, show u - min u v + min u v = u by omega, show v - min u v + min u v = v by omega]
  have k1 : signed s m u = if s then -(VY : Int) else (VY : Int) := by unfold signed; rw [Nat.shiftLeft_eq, hV1]
  have k2 : ∀ b : Bool, signed b n v = if b then -((t * p2 1074 : Nat) : Int) else ((t * p2 1074 : Nat) : Int) := by intro b; unfold signed; rw [Nat.shiftLeft_eq, hV2']
  rw [k1, k2]
  generalize p2 1074 = W at *
  have hmul : W * t = t * W := Nat.mul_comm _ _
  rw [hmul] at hdm
  cases s
  · simp; omega
  · by_cases h0 : t = 0
    · subst h0; simp at hdm ⊢; omega
    · simp [h0]; omega

/-! ### the sine -/
def partT (Y : Nat) : Nat := if fcmp .lss .f64 (part0 Y) 0 = true then fop .add .f64 (part0 Y) ONE else part0 Y
def fold1 (F : Nat) : Nat := if fcmp .geq .f64 F HALF = true then fop .sub .f64 F HALF else F
def fold2 (G : Nat) : Nat := if fcmp .gtr .f64 G QUART = true then fop .sub .f64 HALF G else G
/-- The series behind j of its 8 rounds. -/
def ser (u : Nat) : Nat → Nat
  | 0 => ONE
  | j + 1 => fop .sub .f64 ONE (fop .quo .f64 (fop .mul .f64 u (ser u j)) (floatOfInt .f64 (2 * (8 - (j : Int)) * (2 * (8 - (j : Int)) + 1))))
def sineZ (F : Nat) : Nat := fop .mul .f64 (fold2 (fold1 F)) TAU
def sineV (F : Nat) : Nat := fop .mul .f64 (sineZ F) (ser (fop .mul .f64 (sineZ F) (sineZ F)) 8)
def sineF (F : Nat) : Nat := if fcmp .geq .f64 F HALF = true then fneg .f64 (sineV F) else sineV F
def sineW (Y : Nat) : Nat := sineF (partT Y)

theorem bd_of {x E : Nat} (h1 : rung FloatKind.f64.format x < FloatKind.f64.format.infRung) (h2 : decide (V FloatKind.f64.format (rung FloatKind.f64.format x) ≤ p2 E) = true) : Bd x E := ⟨h1, of_decide_eq_true h2⟩
theorem one_bd : Bd ONE 1074 := bd_of (by decide) (by decide +kernel)
theorem half_bd : Bd HALF 1074 := bd_of (by decide) (by decide +kernel)
theorem tau_bd : Bd TAU 1077 := bd_of (by decide) (by decide +kernel)

theorem partT_bd {Y : Nat} (h : short Y) : Bd (partT Y) 1075 := by
  unfold partT; split
  · exact (part0_bd h).add one_bd (by decide)
  · exact (part0_bd h).mono (by decide)
theorem fold1_bd {F : Nat} (h : Bd F 1075) : Bd (fold1 F) 1076 := by
  unfold fold1; split
  · exact h.sub (half_bd.mono (by decide)) (by decide)
  · exact h.mono (by decide)
theorem fold2_bd {F : Nat} (h : Bd F 1076) : Bd (fold2 F) 1077 := by
  unfold fold2; split
  · exact (half_bd.mono (by decide)).sub h (by decide)
  · exact h.mono (by decide)
theorem sineZ_bd {F : Nat} (h : Bd F 1075) : Bd (sineZ F) 1080 := (fold2_bd (fold1_bd h)).mul tau_bd (by decide) (by decide)

/-- A divisor that is a whole number from 1 on. -/
theorem Bd.div_int {x E : Nat} {n : Int} (hx : Bd x E) (h1 : 1 ≤ n) (h2 : n < 2 ^ 52) (hE : 1074 ≤ E) (hE2 : E < 2098) : Bd (fop .quo .f64 x (floatOfInt .f64 n)) E := by
  have hlog : n.natAbs.log2 ≤ 52 := by
    have h3 : n.natAbs ≠ 0 := by omega
    have := (Nat.log2_lt (k := 53) h3).2 (by have : (2 : Nat) ^ 53 = 9007199254740992 := by decide
                                             have : (2 : Int) ^ 52 = 4503599627370496 := by decide
                                             omega)
    omega
  obtain ⟨hr, hV⟩ := intWord_V n hlog
  have h3 : p2 1074 ≤ V FloatKind.f64.format (rung FloatKind.f64.format (floatOfInt .f64 n)) := by
    rw [hV]; exact Nat.le_mul_of_pos_left _ (by omega)
  have := Bd.div (K := E - 1074) hx.1 hr (Nat.lt_of_lt_of_le (p2_pos _) h3) (by
    refine Nat.le_trans hx.2 ?_
    calc p2 E = p2 1074 * p2 (E - 1074) := by rw [← p2_add]; exact congrArg p2 (by omega)
      _ ≤ _ := Nat.mul_le_mul_right _ h3) (by omega)
  rwa [show 1074 + (E - 1074) = E by omega] at this

theorem ser_bd {u : Nat} (hu : Bd u 1086) : ∀ j, j ≤ 8 → Bd (ser u j) (1074 + 13 * j)
  | 0, _ => one_bd
  | j + 1, hj => by
    have ih := ser_bd hu j (by omega)
    have h1 : Bd (fop .mul .f64 u (ser u j)) (1074 + 13 * j + 12) := hu.mul ih (by omega) (by omega)
    have hk : (1 : Int) ≤ 2 * (8 - (j : Int)) * (2 * (8 - (j : Int)) + 1) ∧ 2 * (8 - (j : Int)) * (2 * (8 - (j : Int)) + 1) < 2 ^ 52 := by
      have : j = 0 ∨ j = 1 ∨ j = 2 ∨ j = 3 ∨ j = 4 ∨ j = 5 ∨ j = 6 ∨ j = 7 := by omega
      rcases this with h | h | h | h | h | h | h | h <;> subst h <;> decide
    have h2 := h1.div_int hk.1 hk.2 (by omega) (by omega)
    unfold ser
    exact ((one_bd.mono (by omega)).sub h2 (by omega)).mono (by omega)

theorem sineV_bd {F : Nat} (h : Bd F 1075) : Bd (sineV F) 1184 := by
  have hz := sineZ_bd h
  have hu : Bd (fop .mul .f64 (sineZ F) (sineZ F)) 1086 := hz.mul hz (by decide) (by decide)
  exact hz.mul (ser_bd hu 8 (by decide)) (by decide) (by decide)

theorem neg_rung {x : Nat} (h : x < 2 ^ FloatKind.f64.format.width) : rung FloatKind.f64.format (Op.negFloat .f64 x) = rung FloatKind.f64.format x ∧ Op.negFloat .f64 x < 2 ^ FloatKind.f64.format.width := by
  rw [w64] at h ⊢
  have e : Op.negFloat .f64 x = x ^^^ 2 ^ 63 := rfl
  rw [e, rung64, rung64]
  refine ⟨?_, ?_⟩
  · apply Nat.eq_of_testBit_eq
    intro i
    rw [Nat.testBit_mod_two_pow, Nat.testBit_mod_two_pow, Nat.testBit_xor, Nat.testBit_two_pow]
    by_cases hi : i < 63
    · have : ¬ 63 = i := by omega
      simp [hi, this]
    · simp [hi]
  · exact Nat.xor_lt_two_pow (n := 64) h (by decide)

theorem Is.fneg {x X : Nat} (h : Is .f64 x X) : Is .f64 (Op.negFloat .f64 x) (Fl.fneg .f64 X) := by
  have h1 := neg_rung h.lt
  have hn : Fl.nan .f64 (Op.negFloat .f64 x) = Fl.nan .f64 x := by unfold Fl.nan isNaN; rw [h1.1]
  refine ⟨?_, h1.2⟩
  unfold Fl.fneg
  by_cases hx : Fl.nan .f64 X = true
  · rw [if_pos hx]; exact cn_nan _ (by rw [hn, h.nan, hx])
  · rw [if_neg hx, ← h.same (by simpa using hx)]
    exact cn_of _ (by rw [hn, h.nan]; simpa using hx)

theorem sineF_bd {F : Nat} (h : Bd F 1075) (hl : sineV F < 2 ^ FloatKind.f64.format.width) : Bd (sineF F) 1184 := by
  have hv := sineV_bd h
  unfold sineF; split
  · unfold fneg; rw [hv.nan]
    simp only [Bool.false_eq_true, if_false]
    have := (neg_rung hl).1
    exact ⟨by rw [this]; exact hv.1, by rw [this]; exact hv.2⟩
  · exact hv

theorem fop_lt (op : BinOp) (x y : Nat) : fop op .f64 x y < 2 ^ FloatKind.f64.format.width := by
  unfold fop
  split
  · rename_i r h
    have hwf := floatBits_wf h
    have h1 : r < 18446744073709551616 := by simpa [Lit.wf] using hwf
    exact h1
  · decide

theorem sineW_fits {Y : Nat} (h : short Y) : fits (sineW Y) := (sineF_bd (partT_bd h) (fop_lt ..)).fits (by decide)

/-! ### long turns -/
theorem fcmp_neq_not (k : FloatKind) (x y : Nat) : fcmp .neq k x y = !fcmp .eql k x y := rfl

/-- 2 to the power of 52 or more. -/
def longB (Y : Nat) : Bool := fcmp .geq .f64 (fabs Y) 4841369599423283200

theorem c52 : V FloatKind.f64.format 4841369599423283200 = p2 1126 := by decide +kernel

theorem long_iff {Y : Nat} (hn : nan .f64 Y = false) : longB Y = decide (p2 1126 ≤ V FloatKind.f64.format (rung FloatKind.f64.format Y)) := by
  have hc : nan .f64 4841369599423283200 = false := by decide
  have hk : key FloatKind.f64.format 4841369599423283200 = 4841369599423283200 := by decide
  unfold longB
  rw [fcmp_geq .f64 (by rw [nan_fabs, hn]) hc, hk, key_fabs hn, Bool.eq_iff_iff]
  simp only [decide_eq_true_eq]
  rw [← c52, V_le_iff]
  omega

theorem short_of {Y : Nat} (hf : fin .f64 Y = true) (hl : longB Y = false) : short Y := by
  have hn := nan_of_fin hf
  rw [long_iff hn] at hl
  have := of_decide_eq_false hl
  unfold fin at hf
  exact ⟨of_decide_eq_true hf, by omega⟩

/-- The model asks the number and its opposite bound one by one. -/
theorem long_two {Y : Nat} (hf : fin .f64 Y = true) : (fcmp .geq .f64 Y 4841369599423283200 || fcmp .leq .f64 Y 14064741636278059008) = longB Y := by
  have hn := nan_of_fin hf
  have hc : nan .f64 4841369599423283200 = false := by decide
  have hc2 : nan .f64 14064741636278059008 = false := by decide
  have hk : key FloatKind.f64.format 4841369599423283200 = 4841369599423283200 := by decide
  have hk2 : key FloatKind.f64.format 14064741636278059008 = -4841369599423283200 := by decide
  unfold longB
  rw [fcmp_geq .f64 hn hc, fcmp_leq .f64 hn hc2, fcmp_geq .f64 (by rw [nan_fabs, hn]) hc, hk, hk2, key_fabs hn, Bool.eq_iff_iff]
  unfold key
  cases neg FloatKind.f64.format Y <;> simp <;> omega

theorem nan_word : nan .f64 9221120237041090561 = true := by decide
theorem nan_is : Is .f64 9221120237041090561 (qn .f64) := ⟨cn_nan _ nan_word, by decide⟩
theorem fits_nan : fits (qn .f64) := .inl (nan_qn _)
theorem nar_nan : nar (qn .f64) = qn .f32 := by unfold nar; rw [if_pos (nan_qn _)]
theorem nar_zero : nar 0 = 0 := by decide +kernel
theorem fits_zero : fits 0 := .inr (.inr (by decide +kernel))

/-- The sine of a 32-bit number of turns. -/
def sineT (X : Nat) : Nat := if fin .f64 (wid X) = true then (if longB (wid X) = true then 0 else nar (sineW (wid X))) else qn .f32

end Go.Fl
