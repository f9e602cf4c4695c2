/-
  Exact products: numbers of few digits over a common unit, zeros of any sign.
-/
import Derived.Test.YtmalbjncjlhbaaaGreatDoorDy
import Derived.Test.YtmalbjncjlhbaaaGreatDoorFn
namespace Go.Proofs.YtmalbjncjlhbaaaGreatDoor
open Go.Fl Ieee

/-- x stands for n units of 2 ^ u least places; a zero has any sign. -/
structure Dv (k : FloatKind) (u x : Nat) (n : Int) : Prop where
  lt : x < 2 ^ k.format.width
  fin : rung k.format x < k.format.infRung
  val : sv k.format x = n * 2 ^ u
theorem Dy.dv {k : FloatKind} {u x : Nat} {n : Int} (h : Dy k u x n) : Dv k u x n := ⟨h.lt, h.fin, h.val⟩
theorem pow_cast (u : Nat) : ((2 : Int) ^ u) = ((2 ^ u : Nat) : Int) := by simp
theorem Dv.V {k : FloatKind} {u x : Nat} {n : Int} (h : Dv k u x n) : V k.format (rung k.format x) = n.natAbs * 2 ^ u := by
  have h1 := congrArg Int.natAbs h.val
  unfold sv at h1
  rw [Int.natAbs_mul, Int.natAbs_pow] at h1
  split at h1
  · rw [Int.natAbs_neg, Int.natAbs_natCast] at h1; exact h1
  · rw [Int.natAbs_natCast] at h1; exact h1
theorem Dv.sgn {k : FloatKind} {u x : Nat} {n : Int} (h : Dv k u x n) (hn : n ≠ 0) : neg k.format x = decide (n < 0) := by
  have hv := h.V
  have h1 := h.val
  unfold sv at h1
  rw [hv, pow_cast, Int.natCast_mul] at h1
  have p2 : (0 : Int) < ((2 ^ u : Nat) : Int) := by have := Nat.two_pow_pos u; omega
  by_cases hs : neg k.format x = true
  · rw [if_pos hs, ← Int.neg_mul] at h1
    have h2 := Int.eq_of_mul_eq_mul_right (by omega) h1
    rw [hs]; exact (decide_eq_true (by omega)).symm
  · rw [if_neg hs] at h1
    have h2 := Int.eq_of_mul_eq_mul_right (by omega) h1
    rw [show neg k.format x = false by simpa using hs]; exact (decide_eq_false (by omega)).symm
theorem Dv.dy {k : FloatKind} {u x : Nat} {n : Int} (h : Dv k u x n) (hs : n = 0 → neg k.format x = false) : Dy k u x n := by
  refine ⟨h.lt, h.fin, ?_, h.val⟩
  by_cases hn : n = 0
  · rw [hs hn, hn]; rfl
  · exact h.sgn hn
theorem Dv.nan {k : FloatKind} {u x : Nat} {n : Int} (h : Dv k u x n) : Fl.nan k x = false := by
  unfold Fl.nan isNaN; exact decide_eq_false (by have := h.fin; omega)
theorem Dv.is {k : FloatKind} {u x : Nat} {n : Int} (h : Dv k u x n) : Is k x x := Is.const (by unfold isCanon; rw [h.nan]; simp only [Bool.not_false, Bool.and_true]; exact decide_eq_true h.lt)
theorem dv_is {k : FloatKind} {u x r : Nat} {n : Int} (h : Dv k u x n) (hr : Is k r x) : Dv k u r n := by rw [hr.same h.nan]; exact h
theorem dyis {k : FloatKind} {u x r : Nat} {n : Int} (h : Dy k u x n) (hr : Is k r x) : Dy k u r n := by rw [hr.same h.nan]; exact h
theorem Dv.read {k : FloatKind} {u x : Nat} {n : Int} (h : Dv k u x n) : k.format.read x = .number (neg k.format x) (mag k.format (rung k.format x)) (k.format.leastPlace + (up k.format (rung k.format x) : Int)) := by
  rw [read_eq k.format (eb k), if_pos h.fin]
/-- A sum with a number whose zero has no sign. -/
theorem Dy.addv {k : FloatKind} {u x y : Nat} {n m : Int} (hx : Dy k u x n) (hy : Dv k u y m) (hl : (n + m).natAbs < 2 ^ (k.format.fractionBits + 1)) (hf : (n + m).natAbs * 2 ^ u < Fl.V k.format k.format.infRung) : Dy k u (fop .add k x y) (n + m) := by
  have hv : signed (neg k.format x) (mag k.format (rung k.format x)) (up k.format (rung k.format x)) + signed (neg k.format y) (mag k.format (rung k.format y)) (up k.format (rung k.format y)) = (n + m) * 2 ^ u := by
    rw [← sv_signed, ← sv_signed, hx.val, hy.val, Int.add_mul]
  obtain ⟨r, hr, hd⟩ := dy_sum hv (fun h => by
    rw [hx.sg, Bool.and_eq_false_iff]
    by_cases q : n < 0
    · refine .inr ?_
      rw [hy.sgn (by omega)]; exact decide_eq_false (by omega)
    · exact .inl (decide_eq_false q)) hl hf
  unfold fop floatBits Format.add
  dsimp only
  rw [hx.read, hy.read, hr]
  exact hd
theorem Dy.addv32 {u x y : Nat} {n m : Int} (hx : Dy .f32 u x n) (hy : Dv .f32 u y m) (hu : u ≤ 250) (h : (n + m).natAbs < 2 ^ 24) : Dy .f32 u (fop .add .f32 x y) (n + m) := hx.addv hy h (fit32 h hu)
theorem V_inf64 : 2 ^ 1500 ≤ Fl.V FloatKind.f64.format FloatKind.f64.format.infRung := by decide +kernel
theorem fit64 {n : Int} {u : Nat} (h : n.natAbs < 2 ^ 53) (hu : u ≤ 1400) : n.natAbs * 2 ^ u < Fl.V FloatKind.f64.format FloatKind.f64.format.infRung := by
  refine Nat.lt_of_lt_of_le ?_ V_inf64
  calc n.natAbs * 2 ^ u < 2 ^ 53 * 2 ^ u := Nat.mul_lt_mul_of_pos_right h (Nat.two_pow_pos _)
    _ = 2 ^ (53 + u) := by rw [← Nat.pow_add]
    _ ≤ 2 ^ 1500 := Nat.pow_le_pow_right (by decide) (by omega)
theorem Dy.add64 {u x y : Nat} {n m : Int} (hx : Dy .f64 u x n) (hy : Dy .f64 u y m) (hu : u ≤ 1400) (h : (n + m).natAbs < 2 ^ 53) : Dy .f64 u (fop .add .f64 x y) (n + m) := hx.add hy h (fit64 h hu)

/-- The product; its sign. -/
theorem Dv.mul {k : FloatKind} {u v w x y : Nat} {n m : Int} (hx : Dv k u x n) (hy : Dv k v y m) (hw : (u : Int) + (v : Int) + k.format.leastPlace = (w : Int)) (hl : (n * m).natAbs < 2 ^ (k.format.fractionBits + 1)) (hf : (n * m).natAbs * 2 ^ w < Fl.V k.format k.format.infRung) :
    Dv k w (fop .mul k x y) (n * m) ∧ neg k.format (fop .mul k x y) = (neg k.format x ^^ neg k.format y) := by
  have e : fop .mul k x y = k.format.nearest (neg k.format x ^^ neg k.format y) (mag k.format (rung k.format x) * mag k.format (rung k.format y)) (k.format.leastPlace + (up k.format (rung k.format x) : Int) + (k.format.leastPlace + (up k.format (rung k.format y) : Int))) := by
    unfold fop floatBits Format.mul
    dsimp only
    rw [hx.read, hy.read]
    rfl
  have hsg := nearest_neg k.format (neg k.format x ^^ neg k.format y) (mag k.format (rung k.format x) * mag k.format (rung k.format y)) (k.format.leastPlace + (up k.format (rung k.format x) : Int) + (k.format.leastPlace + (up k.format (rung k.format y) : Int)))
  rw [e]
  refine ⟨?_, hsg⟩
  obtain ⟨r, hr⟩ := exact_rung k.format (n * m).natAbs w (log2_small hl)
  have hrl : r < k.format.infRung := (V_lt_iff _).1 (by rw [hr]; exact hf)
  have hX : mag k.format (rung k.format x) * 2 ^ up k.format (rung k.format x) = n.natAbs * 2 ^ u := hx.V
  have hY : mag k.format (rung k.format y) * 2 ^ up k.format (rung k.format y) = m.natAbs * 2 ^ v := hy.V
  have hS : (neg k.format x ^^ neg k.format y) = decide (n * m < 0) ∨ n * m = 0 := by
    by_cases hn : n = 0
    · right; rw [hn, Int.zero_mul]
    by_cases hm : m = 0
    · right; rw [hm, Int.mul_zero]
    left
    rw [hx.sgn hn, hy.sgn hm]
    by_cases h1 : n < 0
    · by_cases h2 : m < 0
      · have := Int.mul_pos_of_neg_of_neg h1 h2
        rw [decide_eq_true h1, decide_eq_true h2]; exact (decide_eq_false (by omega)).symm
      · have := Int.mul_neg_of_neg_of_pos h1 (show 0 < m by omega)
        rw [decide_eq_true h1, decide_eq_false h2]; exact (decide_eq_true (by omega)).symm
    · by_cases h2 : m < 0
      · have := Int.mul_neg_of_pos_of_neg (show 0 < n by omega) h2
        rw [decide_eq_false h1, decide_eq_true h2]; exact (decide_eq_true (by omega)).symm
      · have := Int.mul_pos (show 0 < n by omega) (show 0 < m by omega)
        rw [decide_eq_false h1, decide_eq_false h2]; exact (decide_eq_false (by omega)).symm
  generalize mag k.format (rung k.format x) = a at hX hsg ⊢
  generalize mag k.format (rung k.format y) = b at hY hsg ⊢
  generalize up k.format (rung k.format x) = i at hX hsg ⊢
  generalize up k.format (rung k.format y) = j at hY hsg ⊢
  generalize (neg k.format x ^^ neg k.format y) = s at hS hsg ⊢
  have hP : a * b * 2 ^ (i + j) = (n * m).natAbs * 2 ^ (u + v) := by
    rw [Int.natAbs_mul, Nat.pow_add, Nat.pow_add]
    calc a * b * (2 ^ i * 2 ^ j) = (a * 2 ^ i) * (b * 2 ^ j) := by rw [Nat.mul_mul_mul_comm]
      _ = (n.natAbs * 2 ^ u) * (m.natAbs * 2 ^ v) := by rw [hX, hY]
      _ = n.natAbs * m.natAbs * (2 ^ u * 2 ^ v) := by rw [Nat.mul_mul_mul_comm]
  have hrr : rung k.format (k.format.nearest s (a * b) (k.format.leastPlace + (i : Int) + (k.format.leastPlace + (j : Int)))) = r := by
    refine rung_of_V k.format s ?_ (Nat.le_of_lt hrl)
    rw [hr]
    generalize (n * m).natAbs = N at hP ⊢
    generalize k.format.leastPlace = lp at hw ⊢
    generalize ht : (lp - (lp + (i : Int) + (lp + (j : Int)))).toNat = t1
    generalize ht2 : (lp + (i : Int) + (lp + (j : Int)) - lp).toNat = t2
    by_cases hc : 0 ≤ (i : Int) + (j : Int) + lp
    · have e1 : t1 = 0 := by omega
      have e2 : u + v + t2 = i + j + w := by omega
      rw [e1, Nat.pow_zero, Nat.mul_one]
      have h3 : (a * b * 2 ^ t2) * 2 ^ (u + v) = (N * 2 ^ w) * 2 ^ (u + v) := by
        calc (a * b * 2 ^ t2) * 2 ^ (u + v) = a * b * 2 ^ (u + v + t2) := by rw [Nat.mul_assoc, ← Nat.pow_add, Nat.add_comm t2]
          _ = a * b * 2 ^ (i + j) * 2 ^ w := by rw [e2, Nat.pow_add, ← Nat.mul_assoc]
          _ = N * 2 ^ (u + v) * 2 ^ w := by rw [hP]
          _ = (N * 2 ^ w) * 2 ^ (u + v) := by rw [Nat.mul_right_comm]
      exact (Nat.eq_of_mul_eq_mul_right (Nat.two_pow_pos _) h3).symm
    · have e1 : t2 = 0 := by omega
      have e2 : u + v = w + t1 + (i + j) := by omega
      rw [e1, Nat.pow_zero, Nat.mul_one]
      have h3 : (a * b) * 2 ^ (i + j) = (N * 2 ^ w * 2 ^ t1) * 2 ^ (i + j) := by
        rw [hP, e2, Nat.pow_add, Nat.pow_add, ← Nat.mul_assoc, ← Nat.mul_assoc]
      exact (Nat.eq_of_mul_eq_mul_right (Nat.two_pow_pos _) h3).symm
  refine ⟨Go.Fl.nearest_lt .., by rw [hrr]; exact hrl, ?_⟩
  unfold sv
  rw [hsg, hrr, hr, pow_cast, Int.natCast_mul]
  rcases hS with hS | hS
  · by_cases hn : n * m < 0
    · rw [hS, decide_eq_true hn, if_pos rfl, ← Int.neg_mul]; congr 1; omega
    · rw [hS, decide_eq_false hn, if_neg (by decide)]; congr 1; omega
  · rw [hS]; simp
theorem Dv.mul32 {u v w x y : Nat} {n m : Int} (hx : Dv .f32 u x n) (hy : Dv .f32 v y m) (hw : u + v = w + 149) (hl : (n * m).natAbs < 2 ^ 24) (h : w ≤ 250) : Dv .f32 w (fop .mul .f32 x y) (n * m) :=
  (hx.mul hy (by show (u : Int) + (v : Int) + (-149) = (w : Int); omega) hl (fit32 hl h)).1
theorem Dv.mul64 {u v w x y : Nat} {n m : Int} (hx : Dv .f64 u x n) (hy : Dv .f64 v y m) (hw : u + v = w + 1074) (hl : (n * m).natAbs < 2 ^ 53) (h : w ≤ 1400) : Dv .f64 w (fop .mul .f64 x y) (n * m) ∧ neg FloatKind.f64.format (fop .mul .f64 x y) = (neg FloatKind.f64.format x ^^ neg FloatKind.f64.format y) :=
  hx.mul hy (by show (u : Int) + (v : Int) + (-1074) = (w : Int); omega) hl (fit64 hl h)
/-- A square. -/
theorem Dv.sq64 {u w x : Nat} {n : Int} (hx : Dv .f64 u x n) (hw : u + u = w + 1074) (hl : (n * n).natAbs < 2 ^ 53) (h : w ≤ 1400) : Dy .f64 w (fop .mul .f64 x x) (n * n) := by
  obtain ⟨h1, h2⟩ := hx.mul64 hx hw hl h
  exact h1.dy (fun _ => by rw [h2]; simp)
/-- A product of numbers that are not less than 0 and have no sign. -/
theorem Dy.mul64 {u v w x y : Nat} {n m : Int} (hx : Dy .f64 u x n) (hy : Dy .f64 v y m) (h0 : 0 ≤ n) (h1 : 0 ≤ m) (hw : u + v = w + 1074) (hl : (n * m).natAbs < 2 ^ 53) (h : w ≤ 1400) : Dy .f64 w (fop .mul .f64 x y) (n * m) := by
  obtain ⟨h2, h3⟩ := hx.dv.mul64 hy.dv hw hl h
  exact h2.dy (fun _ => by rw [h3, hx.sg, hy.sg, decide_eq_false (by omega), decide_eq_false (by omega)]; rfl)
/-- As a 64-bit number. -/
theorem sv_scale (s : Bool) (a : Nat) (n : Int) (u t : Nat) (h : (if s = true then -(a : Int) else (a : Int)) = n * 2 ^ u) : (if s = true then -((a * p2 t : Nat) : Int) else ((a * p2 t : Nat) : Int)) = n * 2 ^ (u + t) := by
  rw [p2_eq, Int.pow_add, ← Int.mul_assoc, ← h, Int.natCast_mul, pow_cast t]
  cases s
  · rfl
  · simp only [if_true]; rw [← Int.neg_mul]
theorem Dv.wid {u x : Nat} {n : Int} (h : Dv .f32 u x n) : Dv .f64 (u + 925) (wid x) n ∧ neg FloatKind.f64.format (Fl.wid x) = neg FloatKind.f32.format x := by
  obtain ⟨h1, h2, h3⟩ := wid_fin h.fin
  refine ⟨⟨wid_lt x, h2, ?_⟩, h1⟩
  unfold sv
  rw [h1, h3]
  exact sv_scale _ _ n u 925 h.val
theorem Dy.wid {u x : Nat} {n : Int} (h : Dy .f32 u x n) : Dy .f64 (u + 925) (wid x) n := by
  obtain ⟨h1, h2⟩ := h.dv.wid
  exact h1.dy (fun hn => by rw [h2, h.sg, hn]; rfl)
/-- Narrowed. -/
theorem nar_places (a i N u e t1 t2 : Nat) (ht1 : i ≤ e → t1 = 0 ∧ t2 + i = e) (ht2 : e ≤ i → t2 = 0 ∧ t1 + e = i) (hV : a * 2 ^ i = N * 2 ^ (u + e)) : a * 2 ^ t1 = N * 2 ^ u * 2 ^ t2 := by
  by_cases hc : e ≤ i
  · obtain ⟨h1, h2⟩ := ht2 hc
    rw [h1, Nat.pow_zero, Nat.mul_one]
    refine Nat.eq_of_mul_eq_mul_right (Nat.two_pow_pos e) ?_
    rw [Nat.mul_assoc, ← Nat.pow_add, h2, hV, Nat.pow_add, Nat.mul_assoc]
  · obtain ⟨h1, h2⟩ := ht1 (by omega)
    rw [h1, Nat.pow_zero, Nat.mul_one]
    refine Nat.eq_of_mul_eq_mul_right (Nat.two_pow_pos i) ?_
    rw [hV, Nat.mul_assoc, ← Nat.pow_add, h2, Nat.pow_add, Nat.mul_assoc]
theorem Dy.nar {u x : Nat} {n : Int} (h : Dy .f64 (u + 925) x n) (hl : n.natAbs < 2 ^ 24) (hu : u ≤ 250) : Dy .f32 u (nar x) n := by
  unfold Fl.nar
  rw [h.nan, if_neg (by decide), h.read]
  unfold Format.write
  dsimp only
  refine dy_nearest (k := .f32) h.sg hl (nar_places _ _ _ _ 925 _ _ ?_ ?_ h.V) (fit32 hl hu)
  · rw [show FloatKind.f32.format.leastPlace = (-149 : Int) from rfl, show FloatKind.f64.format.leastPlace = (-1074 : Int) from rfl]; omega
  · rw [show FloatKind.f32.format.leastPlace = (-149 : Int) from rfl, show FloatKind.f64.format.leastPlace = (-1074 : Int) from rfl]; omega
theorem Dy.fits {u x : Nat} {n : Int} (h : Dy .f64 (u + 925) x n) (hl : n.natAbs < 2 ^ 24) (hu : u ≤ 250) : fits x := .inr (.inr (h.nar hl hu).fin)
/-- The opposite. -/
theorem neg_bits {x : Nat} (h : x < 2 ^ FloatKind.f32.format.width) : rung FloatKind.f32.format (Op.negFloat .f32 x) = rung FloatKind.f32.format x ∧ neg FloatKind.f32.format (Op.negFloat .f32 x) = !neg FloatKind.f32.format x ∧ Op.negFloat .f32 x < 2 ^ FloatKind.f32.format.width := by
  have h' : x < 2 ^ 32 := h
  have e : Op.negFloat .f32 x = x ^^^ 2 ^ 31 := rfl
  have er : ∀ y, rung FloatKind.f32.format y = y % 2 ^ 31 := fun _ => rfl
  have en : ∀ y, neg FloatKind.f32.format y = (y / 2 ^ 31 % 2 == 1) := fun _ => rfl
  have et : ∀ y : Nat, (y / 2 ^ 31 % 2 == 1) = y.testBit 31 := fun y => by rw [Nat.testBit_eq_decide_div_mod_eq]; rfl
  refine ⟨?_, ?_, ?_⟩
  · rw [e, er, er]
    apply Nat.eq_of_testBit_eq
    intro i
    rw [Nat.testBit_mod_two_pow, Nat.testBit_mod_two_pow, Nat.testBit_xor, Nat.testBit_two_pow]
    by_cases hi : i < 31
    · have : ¬ 31 = i := by omega
      simp [hi, this]
    · simp [hi]
  · rw [e, en, en, et, et, Nat.testBit_xor, Nat.testBit_two_pow]
    simp
  · rw [e]; exact Nat.xor_lt_two_pow (n := 32) h' (by decide)
theorem neg_neg (x : Nat) : Op.negFloat .f32 (Op.negFloat .f32 x) = x := by
  show (x ^^^ 2 ^ 31) ^^^ 2 ^ 31 = x
  rw [Nat.xor_assoc, Nat.xor_self, Nat.xor_zero]
theorem Dv.neg {u x : Nat} {n : Int} (h : Dv .f32 u x n) : Dv .f32 u (Op.negFloat .f32 x) (-n) := by
  obtain ⟨h1, h2, h3⟩ := neg_bits h.lt
  refine ⟨h3, by rw [h1]; exact h.fin, ?_⟩
  have hv := h.val
  unfold sv at hv ⊢
  rw [h1, h2, Int.neg_mul, ← hv]
  cases Fl.neg FloatKind.f32.format x <;> simp
end Go.Proofs.YtmalbjncjlhbaaaGreatDoor
