/-
  Plain facts on single numbers: zero, signs, finite and subnormal numbers, absolute values.
-/
import Derived.Test.YtpnmledanloboaaFl
namespace Go.Fl
open Ieee

theorem inf32 : FloatKind.f32.format.infRung = 2139095040 := by decide
theorem inf64 : FloatKind.f64.format.infRung = 9218868437227405312 := by decide
theorem sw32 : FloatKind.f32.format.signWeight = 2147483648 := by decide
theorem sw64 : FloatKind.f64.format.signWeight = 9223372036854775808 := by decide
theorem b32 : FloatKind.f32.format.binade = 8388608 := by decide
theorem b64 : FloatKind.f64.format.binade = 4503599627370496 := by decide
theorem w32 : 2 ^ FloatKind.f32.format.width = 4294967296 := by decide
theorem w64 : 2 ^ FloatKind.f64.format.width = 18446744073709551616 := by decide

theorem cmp_key (k : FloatKind) {x y : Nat} (hx : nan k x = false) (hy : nan k y = false) :
    k.format.order x y = some (compare (key k.format x) (key k.format y)) := by
  rw [order_sv' k hx hy, order_sv]

theorem fcmp_neq_self (k : FloatKind) (X : Nat) : fcmp .neq k X X = nan k X := by
  unfold fcmp
  dsimp only
  by_cases h : nan k X = true
  · rw [order_nan_left k X h, h]; rfl
  · have h' : nan k X = false := by simpa using h
    rw [cmp_key k h' h', h', Int.compare_eq_eq.2 rfl]; rfl

theorem fcmp_eql_self (k : FloatKind) (X : Nat) : fcmp .eql k X X = !nan k X := by
  unfold fcmp
  dsimp only
  by_cases h : nan k X = true
  · rw [order_nan_left k X h, h]; rfl
  · have h' : nan k X = false := by simpa using h
    rw [cmp_key k h' h', h', Int.compare_eq_eq.2 rfl]; rfl

theorem fcmp_nan_left (op : BinOp) (hop : op ≠ .neq) (k : FloatKind) {x : Nat} (y : Nat) (h : nan k x = true) : fcmp op k x y = false := by
  unfold fcmp; rw [order_nan_left k y h]; cases op <;> first | rfl | exact absurd rfl hop
theorem fcmp_nan_right (op : BinOp) (hop : op ≠ .neq) (k : FloatKind) (x : Nat) {y : Nat} (h : nan k y = true) : fcmp op k x y = false := by
  unfold fcmp; rw [order_nan_right k x h]; cases op <;> first | rfl | exact absurd rfl hop

theorem fcmp_eql (k : FloatKind) {x y : Nat} (hx : nan k x = false) (hy : nan k y = false) : fcmp .eql k x y = decide (key k.format x = key k.format y) := by
  unfold fcmp
  dsimp only
  rw [cmp_key k hx hy, Bool.eq_iff_iff]
  simp
theorem fcmp_neq (k : FloatKind) {x y : Nat} (hx : nan k x = false) (hy : nan k y = false) : fcmp .neq k x y = !decide (key k.format x = key k.format y) := by
  rw [← fcmp_eql k hx hy]
  unfold fcmp
  dsimp only
  cases k.format.order x y with
  | none => rfl
  | some o => cases o <;> rfl
theorem fcmp_lss (k : FloatKind) {x y : Nat} (hx : nan k x = false) (hy : nan k y = false) : fcmp .lss k x y = decide (key k.format x < key k.format y) := by
  unfold fcmp
  dsimp only
  rw [cmp_key k hx hy, Bool.eq_iff_iff]
  simp [Int.compare_eq_lt]
theorem fcmp_gtr (k : FloatKind) {x y : Nat} (hx : nan k x = false) (hy : nan k y = false) : fcmp .gtr k x y = decide (key k.format y < key k.format x) := by
  unfold fcmp
  dsimp only
  rw [cmp_key k hx hy, Bool.eq_iff_iff]
  simp [Int.compare_eq_gt]
theorem fcmp_geq (k : FloatKind) {x y : Nat} (hx : nan k x = false) (hy : nan k y = false) : fcmp .geq k x y = decide (key k.format y ≤ key k.format x) := by
  unfold fcmp
  dsimp only
  rw [cmp_key k hx hy, Bool.eq_iff_iff]
  rcases Int.lt_trichotomy (key k.format x) (key k.format y) with h | h | h
  · rw [Int.compare_eq_lt.2 h]; simp; omega
  · rw [Int.compare_eq_eq.2 h]; simp; omega
  · rw [Int.compare_eq_gt.2 h]; simp; omega
theorem fcmp_leq (k : FloatKind) {x y : Nat} (hx : nan k x = false) (hy : nan k y = false) : fcmp .leq k x y = decide (key k.format x ≤ key k.format y) := by
  unfold fcmp
  dsimp only
  rw [cmp_key k hx hy, Bool.eq_iff_iff]
  rcases Int.lt_trichotomy (key k.format x) (key k.format y) with h | h | h
  · rw [Int.compare_eq_lt.2 h]; simp; omega
  · rw [Int.compare_eq_eq.2 h]; simp; omega
  · rw [Int.compare_eq_gt.2 h]; simp; omega

/-- Finite: no infinity, no not-a-number. -/
def fin (k : FloatKind) (X : Nat) : Bool := decide (rung k.format X < k.format.infRung)

theorem nan_of_fin {k : FloatKind} {X : Nat} (h : fin k X = true) : nan k X = false := by
  unfold fin at h; unfold nan isNaN; have := of_decide_eq_true h; exact decide_eq_false (by omega)

theorem sub_self (k : FloatKind) (X : Nat) : fcmp .eql k (fop .sub k X X) 0 = fin k X := by
  have h0 : nan k 0 = false := by cases k <;> decide
  by_cases h : rung k.format X < k.format.infRung
  · have hf : fin k X = true := decide_eq_true h
    have e : floatBits .sub k X X = some 0 := by
      simp only [floatBits, Format.sub]
      rw [read_eq _ (eb k), if_pos h]
      simp only [Datum.opposite, Datum.sum, Option.map_some, Option.some.injEq, Format.write]
      have e1 : signed (neg k.format X) (mag k.format (rung k.format X)) ((k.format.leastPlace + (up k.format (rung k.format X) : Int)) - min (k.format.leastPlace + (up k.format (rung k.format X) : Int)) (k.format.leastPlace + (up k.format (rung k.format X) : Int))).toNat + signed (!neg k.format X) (mag k.format (rung k.format X)) ((k.format.leastPlace + (up k.format (rung k.format X) : Int)) - min (k.format.leastPlace + (up k.format (rung k.format X) : Int)) (k.format.leastPlace + (up k.format (rung k.format X) : Int))).toNat = 0 := by
        unfold signed; cases neg k.format X <;> simp <;> omega
      rw [e1]
      simp [Format.nearest, Format.word]
    have e2 : fop .sub k X X = 0 := by unfold fop; rw [e]
    rw [e2, fcmp_eql_self, h0, hf]; rfl
  · have hf : fin k X = false := decide_eq_false h
    have e : floatBits .sub k X X = none := by
      simp only [floatBits, Format.sub]
      rw [read_eq _ (eb k), if_neg h]
      by_cases h2 : rung k.format X = k.format.infRung
      · rw [if_pos h2]; cases neg k.format X <;> rfl
      · rw [if_neg h2]; rfl
    have e2 : fop .sub k X X = qn k := by unfold fop; rw [e]
    rw [e2, fcmp_nan_left .eql (by decide) k 0 (nan_qn k), hf]

/-- The absolute value of a 64-bit number. -/
def fabs (X : Nat) : Nat := if nan .f64 X = true then qn .f64 else X % 2 ^ 63

theorem rung64 (x : Nat) : rung FloatKind.f64.format x = x % 2 ^ 63 := rfl
theorem rung32 (x : Nat) : rung FloatKind.f32.format x = x % 2 ^ 31 := rfl
theorem neg64 {x : Nat} (h : x < 2 ^ FloatKind.f64.format.width) : neg FloatKind.f64.format x = decide (2 ^ 63 ≤ x) := by
  rw [w64] at h
  unfold neg
  rw [sw64, Bool.eq_iff_iff]
  simp
  omega
theorem neg32 {x : Nat} (h : x < 2 ^ FloatKind.f32.format.width) : neg FloatKind.f32.format x = decide (2 ^ 31 ≤ x) := by
  rw [w32] at h
  unfold neg
  rw [sw32, Bool.eq_iff_iff]
  simp
  omega

theorem nan_mod (x : Nat) : nan .f64 (x % 2 ^ 63) = nan .f64 x := by
  unfold nan isNaN; rw [rung64, rung64, Nat.mod_mod]

theorem Is.abs {x X : Nat} (h : Is .f64 x X) : Is .f64 (x % 2 ^ 63) (fabs X) := by
  refine ⟨?_, ?_⟩
  · by_cases hn : Fl.nan .f64 X = true
    · unfold fabs; rw [if_pos hn]
      exact cn_nan _ (by rw [nan_mod, h.nan, hn])
    · have hn' : Fl.nan .f64 X = false := by simpa using hn
      have e := h.same hn'
      subst e
      unfold fabs; rw [if_neg hn]
      exact cn_of _ (by rw [nan_mod, hn'])
  · rw [w64]; omega

theorem nan_fabs (X : Nat) : nan .f64 (fabs X) = nan .f64 X := by
  unfold fabs; split
  · rename_i h; rw [nan_qn, h]
  · exact nan_mod X

theorem key_fabs {X : Nat} (h : nan .f64 X = false) : key FloatKind.f64.format (fabs X) = (rung FloatKind.f64.format X : Int) := by
  unfold fabs; rw [h]
  unfold key
  have h2 : X % 2 ^ 63 < 2 ^ FloatKind.f64.format.width := by rw [w64]; omega
  simp only [Bool.false_eq_true, if_false]
  rw [neg64 h2, rung64, rung64, Nat.mod_mod]
  have : ¬ (2 ^ 63 ≤ X % 2 ^ 63) := by omega
  simp [this]

/-- IsInf. -/
theorem gtr_max {X : Nat} : fcmp .gtr .f64 (fabs X) 9218868437227405311 = decide (rung FloatKind.f64.format X = FloatKind.f64.format.infRung) := by
  have hc : nan .f64 9218868437227405311 = false := by decide
  have hk : key FloatKind.f64.format 9218868437227405311 = 9218868437227405311 := by decide
  by_cases h : nan .f64 X = true
  · rw [fcmp_nan_left .gtr (by decide) .f64 _ (by rw [nan_fabs, h])]
    unfold nan isNaN at h
    have := of_decide_eq_true h
    exact (decide_eq_false (by omega)).symm
  · have h' : nan .f64 X = false := by simpa using h
    rw [fcmp_gtr .f64 (by rw [nan_fabs, h']) hc, hk, key_fabs h', inf64, Bool.eq_iff_iff]
    unfold nan isNaN at h'
    have := of_decide_eq_false h'
    rw [inf64] at this
    simp; omega

theorem finWide (X : Nat) : (!(fcmp .gtr .f64 (fabs X) 9218868437227405311) && !nan .f64 X) = fin .f64 X := by
  rw [gtr_max]
  unfold nan isNaN fin
  rw [Bool.eq_iff_iff]; simp; omega

theorem fin_wid (X : Nat) : fin .f64 (wid X) = fin .f32 X := by
  by_cases h : rung FloatKind.f32.format X < FloatKind.f32.format.infRung
  · have := (wid_fin h).2.1
    unfold fin; rw [decide_eq_true h, decide_eq_true this]
  · have hf : fin .f32 X = false := decide_eq_false h
    rw [hf]
    by_cases h2 : rung FloatKind.f32.format X = FloatKind.f32.format.infRung
    · have := (wid_inf h2).2
      unfold fin; exact decide_eq_false (by omega)
    · have hn : nan .f32 X = true := by unfold nan isNaN; exact decide_eq_true (by omega)
      have hn2 : nan .f64 (wid X) = true := by rw [nan_wid, hn]
      unfold nan isNaN at hn2
      have := of_decide_eq_true hn2
      unfold fin; exact decide_eq_false (by omega)

theorem neg_wid {X : Nat} (h : nan .f32 X = false) : neg FloatKind.f64.format (wid X) = neg FloatKind.f32.format X := by
  by_cases h1 : rung FloatKind.f32.format X < FloatKind.f32.format.infRung
  · exact (wid_fin h1).1
  · have : rung FloatKind.f32.format X = FloatKind.f32.format.infRung := by
      unfold nan isNaN at h; have := of_decide_eq_false h; omega
    exact (wid_inf this).1

/-- The bits that are told of a number. -/
def bits32 (X : Nat) : Nat := if nan .f32 X = true then 2143289344 else X

theorem bits32_lt {X : Nat} (h : X < 2 ^ FloatKind.f32.format.width) : bits32 X < 4294967296 := by
  rw [w32] at h
  unfold bits32; split <;> omega

theorem nan_nan32 : nan .f32 2143289344 = true := by decide

theorem bits32_eq {A B : Nat} (hA : cn .f32 A = A) (hB : cn .f32 B = B) : (bits32 A = bits32 B) ↔ A = B := by
  have hd : nan .f32 2143289344 = true := by decide
  by_cases a : nan .f32 A = true <;> by_cases b : nan .f32 B = true
  · have h1 : A = qn .f32 := by rw [← hA, cn_nan _ a]
    have h2 : B = qn .f32 := by rw [← hB, cn_nan _ b]
    rw [h1, h2]; simp
  · unfold bits32; rw [if_pos a, if_neg b]
    constructor
    · intro e; rw [← e] at b; exact absurd hd b
    · intro e; rw [← e] at b; exact absurd a b
  · unfold bits32; rw [if_neg a, if_pos b]
    constructor
    · intro e; rw [e] at a; exact absurd hd a
    · intro e; rw [e] at a; exact absurd b a
  · unfold bits32; rw [if_neg a, if_neg b]

theorem key_neg_eq (k : FloatKind) {A B : Nat} (hA : A < 2 ^ k.format.width) (hB : B < 2 ^ k.format.width) (h1 : neg k.format A = neg k.format B) (h2 : key k.format A = key k.format B) : A = B := by
  refine ext_word _ hA hB h1 ?_
  unfold key at h2
  rw [h1] at h2
  split at h2 <;> omega

/-- SameNumber, as the program has it. -/
theorem same_eq {A B : Nat} (hA : A < 2 ^ FloatKind.f32.format.width) (hB : B < 2 ^ FloatKind.f32.format.width) (a : nan .f32 A = false) (b : nan .f32 B = false) :
    (fcmp .eql .f32 A B && (neg FloatKind.f32.format A == neg FloatKind.f32.format B)) = decide (A = B) := by
  rw [fcmp_eql _ a b, Bool.eq_iff_iff]
  simp
  constructor
  · intro ⟨h1, h2⟩; exact key_neg_eq .f32 hA hB h2 h1
  · intro h; subst h; exact ⟨rfl, rfl⟩

/-- Subnormal: not zero, below the first binade. -/
def sub32 (X : Nat) : Bool := decide (rung FloatKind.f32.format X ≠ 0 ∧ rung FloatKind.f32.format X < 8388608)

theorem neq_zero (X : Nat) : fcmp .neq .f32 X 0 = decide (rung FloatKind.f32.format X ≠ 0) := by
  have h0 : nan .f32 0 = false := by decide
  have k0 : key FloatKind.f32.format 0 = 0 := by decide
  by_cases h : nan .f32 X = true
  · unfold fcmp; dsimp only; rw [order_nan_left _ _ h]
    unfold nan isNaN at h
    have := of_decide_eq_true h
    rw [inf32] at this
    exact (decide_eq_true (by omega)).symm
  · have h' : nan .f32 X = false := by simpa using h
    rw [fcmp_neq _ h' h0, k0, Bool.eq_iff_iff]
    unfold key
    cases neg FloatKind.f32.format X <;> simp

theorem mul_lt_iff (a b c : Nat) (hc : 0 < c) : a * c < b * c ↔ a < b :=
  ⟨fun h => Nat.lt_of_mul_lt_mul_right h, fun h => Nat.mul_lt_mul_of_pos_right h hc⟩

theorem lss_min (X : Nat) : fcmp .lss .f64 (fabs (wid X)) 4039728865751334912 = decide (rung FloatKind.f32.format X < 8388608) := by
  have hc : nan .f64 4039728865751334912 = false := by decide
  have hk : key FloatKind.f64.format 4039728865751334912 = 4039728865751334912 := by decide
  by_cases h : nan .f32 X = true
  · rw [fcmp_nan_left .lss (by decide) .f64 _ (by rw [nan_fabs, nan_wid, h])]
    unfold nan isNaN at h
    have := of_decide_eq_true h
    rw [inf32] at this
    exact (decide_eq_false (by omega)).symm
  · have h' : nan .f32 X = false := by simpa using h
    rw [fcmp_lss .f64 (by rw [nan_fabs, nan_wid, h']) hc, hk, key_fabs (by rw [nan_wid, h']), Bool.eq_iff_iff]
    simp only [decide_eq_true_eq]
    by_cases h1 : rung FloatKind.f32.format X < FloatKind.f32.format.infRung
    · have hV := (wid_fin h1).2.2
      have e1 : V FloatKind.f64.format 4039728865751334912 = 8388608 * p2 925 := by decide +kernel
      have e2 : V FloatKind.f32.format 8388608 = 8388608 := by decide +kernel
      have s1 : (rung FloatKind.f64.format (wid X) < 4039728865751334912) ↔ (rung FloatKind.f32.format X < 8388608) := by
        rw [← V_lt_iff FloatKind.f64.format, hV, e1, ← @V_lt_iff FloatKind.f32.format (rung FloatKind.f32.format X) 8388608, e2]
        exact mul_lt_iff _ _ _ (p2_pos 925)
      rw [← s1]; exact Int.ofNat_lt
    · have h2 : rung FloatKind.f32.format X = FloatKind.f32.format.infRung := by
        unfold nan isNaN at h'; have := of_decide_eq_false h'; omega
      have := (wid_inf h2).2
      rw [h2, this, inf32, inf64]; omega

theorem sub_impl (X : Nat) : (fcmp .neq .f32 X 0 && fcmp .lss .f64 (fabs (wid X)) 4039728865751334912) = sub32 X := by
  rw [neq_zero, lss_min]
  unfold sub32
  simp only [Bool.decide_and]

theorem and_mask (n : Nat) : (n &&& 2139095040) = n / 8388608 % 256 * 8388608 := by
  have e : 2139095040 = (2 ^ 8 - 1) * 2 ^ 23 := by decide
  apply Nat.eq_of_testBit_eq
  intro i
  rw [e, Nat.testBit_and, ← Nat.shiftLeft_eq, show n / 8388608 % 256 * 8388608 = (n / 8388608 % 256) <<< 23 from (Nat.shiftLeft_eq _ 23).symm, Nat.testBit_shiftLeft, Nat.testBit_shiftLeft]
  by_cases h : 23 ≤ i
  · simp only [h, decide_true, Bool.true_and]
    rw [Nat.testBit_two_pow_sub_one, show (256 : Nat) = 2 ^ 8 from rfl, Nat.testBit_mod_two_pow, show (8388608 : Nat) = 2 ^ 23 from rfl, Nat.testBit_div_two_pow]
    rw [show i - 23 + 23 = i by omega, Bool.and_comm]
  · simp [h]

theorem mask_zero {X : Nat} : (bits32 X &&& 2139095040 = 0) ↔ rung FloatKind.f32.format X < 8388608 := by
  rw [and_mask, rung32]
  by_cases h : nan .f32 X = true
  · unfold bits32; rw [if_pos h]
    unfold nan isNaN at h
    have := of_decide_eq_true h
    rw [inf32, rung32] at this
    omega
  · unfold bits32; rw [if_neg h]; omega

theorem sub_spec {X : Nat} : (fcmp .neq .f32 X 0 && decide (bits32 X &&& 2139095040 = 0)) = sub32 X := by
  rw [neq_zero]
  unfold sub32
  rw [Bool.eq_iff_iff]
  simp [mask_zero]

/-- FlushNumber. -/
def flush (X : Nat) : Nat := if rung FloatKind.f32.format X < 8388608 then X / 2 ^ 31 * 2 ^ 31 else X

theorem flush_zero {X : Nat} (h : sub32 X = false) (h2 : rung FloatKind.f32.format X < 8388608) : flush X = X := by
  unfold sub32 at h
  have h3 := of_decide_eq_false h
  have h4 : rung FloatKind.f32.format X = 0 := by omega
  unfold flush; rw [if_pos h2]
  rw [rung32] at h4
  omega

theorem nan_low {X : Nat} (h : rung FloatKind.f32.format X < 8388608) : nan .f32 X = false := by
  unfold nan isNaN; rw [inf32]; exact decide_eq_false (by omega)

/-- A zero with the sign of a 64-bit word, narrowed. -/
theorem nar_sign {r : Nat} (h : r < 2 ^ FloatKind.f64.format.width) : nar (r / 2 ^ 63 * 2 ^ 63) = if neg FloatKind.f64.format r then 2147483648 else 0 := by
  have e0 : nar 0 = 0 := by decide +kernel
  have e1 : nar 9223372036854775808 = 2147483648 := by decide +kernel
  rw [neg64 h]
  rw [w64] at h
  by_cases h1 : 2 ^ 63 ≤ r
  · have : r / 2 ^ 63 * 2 ^ 63 = 9223372036854775808 := by omega
    rw [this, e1]; simp [h1]
  · have : r / 2 ^ 63 * 2 ^ 63 = 0 := by omega
    rw [this, e0]; simp [h1]

theorem fits_sign {r : Nat} (h : r < 2 ^ FloatKind.f64.format.width) : fits (r / 2 ^ 63 * 2 ^ 63) := by
  refine .inr (.inr ?_)
  rw [nar_sign h]
  split <;> decide

theorem isCanon_sign {r : Nat} (h : r < 2 ^ FloatKind.f64.format.width) : Is .f64 (r / 2 ^ 63 * 2 ^ 63) (r / 2 ^ 63 * 2 ^ 63) := by
  rw [w64] at h
  refine Is.const ?_
  by_cases h1 : 2 ^ 63 ≤ r
  · have : r / 2 ^ 63 * 2 ^ 63 = 9223372036854775808 := by omega
    rw [this]; decide
  · have : r / 2 ^ 63 * 2 ^ 63 = 0 := by omega
    rw [this]; decide

theorem flush_sign {X : Nat} (hX : X < 2 ^ FloatKind.f32.format.width) (h : rung FloatKind.f32.format X < 8388608) : (if neg FloatKind.f32.format X then 2147483648 else 0) = flush X := by
  unfold flush; rw [if_pos h, neg32 hX]
  rw [w32] at hX
  by_cases h1 : 2 ^ 31 ≤ X
  · simp [h1]; omega
  · simp [h1]; omega

theorem and_sign {n : Nat} (h : n < 4294967296) : (n &&& 2147483648) = n / 2 ^ 31 * 2 ^ 31 := by
  have e : 2147483648 = (2 ^ 1 - 1) * 2 ^ 31 := by decide
  apply Nat.eq_of_testBit_eq
  intro i
  rw [e, Nat.testBit_and, ← Nat.shiftLeft_eq, show n / 2 ^ 31 * 2 ^ 31 = (n / 2 ^ 31) <<< 31 from (Nat.shiftLeft_eq _ 31).symm, Nat.testBit_shiftLeft, Nat.testBit_shiftLeft]
  by_cases hi : 31 ≤ i
  · simp only [hi, decide_true, Bool.true_and]
    rw [Nat.testBit_two_pow_sub_one, Nat.testBit_div_two_pow, show i - 31 + 31 = i by omega]
    by_cases h2 : i < 32
    · have : i - 31 < 1 := by omega
      simp [this]
    · have : n.testBit i = false := Nat.testBit_lt_two_pow (Nat.lt_of_lt_of_le h (by
        have := Nat.pow_le_pow_right (show 0 < 2 by decide) (show 32 ≤ i by omega)
        exact this))
      simp [this]
  · simp [hi]

end Go.Fl
