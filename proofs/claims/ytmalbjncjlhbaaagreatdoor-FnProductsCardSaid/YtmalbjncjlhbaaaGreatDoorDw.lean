/-
  Exact sums, differences and quotients of numbers of few digits, zeros of any sign; whole numbers.
-/
import Derived.Test.YtmalbjncjlhbaaaGreatDoorDv
namespace Go.Proofs.YtmalbjncjlhbaaaGreatDoor
open Go.Fl Ieee
set_option linter.unusedSimpArgs false
set_option linter.unusedVariables false

theorem dv_nearest {k : FloatKind} {u m : Nat} {p : Int} {s : Bool} {n : Int} (hs : n ≠ 0 → s = decide (n < 0)) (hl : n.natAbs < 2 ^ (k.format.fractionBits + 1))
    (hm : m * 2 ^ (p - k.format.leastPlace).toNat = n.natAbs * 2 ^ u * 2 ^ (k.format.leastPlace - p).toNat) (hf : n.natAbs * 2 ^ u < Fl.V k.format k.format.infRung) : Dv k u (k.format.nearest s m p) n := by
  obtain ⟨r, hr⟩ := exact_rung k.format n.natAbs u (log2_small hl)
  have hrl : r < k.format.infRung := (V_lt_iff _).1 (by rw [hr]; exact hf)
  have hrr := rung_of_V k.format s (m := m) (p := p) (r := r) (by rw [hr]; exact hm.symm) (Nat.le_of_lt hrl)
  have hsg := nearest_neg k.format s m p
  refine ⟨Go.Fl.nearest_lt .., by rw [hrr]; exact hrl, ?_⟩
  unfold sv
  rw [hsg, hrr, hr]
  have hp : ((2 : Int) ^ u) = ((2 ^ u : Nat) : Int) := by simp
  rw [hp, Int.natCast_mul]
  by_cases h0 : n = 0
  · rw [h0]; simp
  rw [hs h0]
  by_cases hn : n < 0
  · simp only [hn, decide_true, if_true]
    rw [← Int.neg_mul]; congr 1; omega
  · simp only [hn, decide_false]
    rw [if_neg (by decide)]; congr 1; omega
theorem dv_sum {k : FloatKind} {u : Nat} {s t : Bool} {a b i j : Nat} {N : Int} (hv : signed s a i + signed t b j = N * 2 ^ u) (hl : N.natAbs < 2 ^ (k.format.fractionBits + 1)) (hf : N.natAbs * 2 ^ u < Fl.V k.format k.format.infRung) :
    ∃ r, (Datum.sum (.number s a (k.format.leastPlace + (i : Int))) (.number t b (k.format.leastPlace + (j : Int)))).map k.format.write = some r ∧ Dv k u r N := by
  unfold Datum.sum
  dsimp only
  refine ⟨_, rfl, ?_⟩
  unfold Format.write
  dsimp only
  have e1 : (k.format.leastPlace + (i : Int) - min (k.format.leastPlace + (i : Int)) (k.format.leastPlace + (j : Int))).toNat = i - min i j := by omega
  have e2 : (k.format.leastPlace + (j : Int) - min (k.format.leastPlace + (i : Int)) (k.format.leastPlace + (j : Int))).toNat = j - min i j := by omega
  rw [e1, e2]
  have e3 : (min (k.format.leastPlace + (i : Int)) (k.format.leastPlace + (j : Int)) - k.format.leastPlace).toNat = min i j := by omega
  have e4 : (k.format.leastPlace - min (k.format.leastPlace + (i : Int)) (k.format.leastPlace + (j : Int))).toNat = 0 := by omega
  have h1 := signed_up s a (i - min i j) (min i j)
  have h2 := signed_up t b (j - min i j) (min i j)
  rw [show i - min i j + min i j = i by omega] at h1
  rw [show j - min i j + min i j = j by omega] at h2
  rw [h1, h2, ← Int.add_mul] at hv
  generalize signed s a (i - min i j) + signed t b (j - min i j) = T at hv ⊢
  have p1 : (0 : Int) < 2 ^ min i j := Int.pow_pos (by decide)
  have p2 : (0 : Int) < 2 ^ u := Int.pow_pos (by decide)
  have hT0 : T = 0 → N = 0 := by
    intro h; rw [h, Int.zero_mul] at hv
    rcases Int.mul_eq_zero.1 hv.symm with h | h
    · exact h
    · omega
  have hTn : T < 0 ↔ N < 0 := by
    constructor
    · intro h
      have := Int.mul_neg_of_neg_of_pos h p1
      rw [hv] at this
      exact Int.not_le.1 fun h' => absurd (Int.mul_nonneg h' (Int.le_of_lt p2)) (by omega)
    · intro h
      have := Int.mul_neg_of_neg_of_pos h p2
      rw [← hv] at this
      exact Int.not_le.1 fun h' => absurd (Int.mul_nonneg h' (Int.le_of_lt p1)) (by omega)
  refine dv_nearest (fun h0 => ?_) hl ?_ hf
  · rw [if_neg (fun h => h0 (hT0 h))]; exact decide_eq_decide.2 hTn
  · rw [e3, e4, Nat.pow_zero, Nat.mul_one]
    have := congrArg Int.natAbs hv
    rw [Int.natAbs_mul, Int.natAbs_mul, Int.natAbs_pow, Int.natAbs_pow] at this
    exact this
theorem Dv.add {k : FloatKind} {u x y : Nat} {n m : Int} (hx : Dv k u x n) (hy : Dv k u y m) (hl : (n + m).natAbs < 2 ^ (k.format.fractionBits + 1)) (hf : (n + m).natAbs * 2 ^ u < Fl.V k.format k.format.infRung) : Dv k u (fop .add k x y) (n + m) := by
  have hv : signed (Fl.neg k.format x) (mag k.format (rung k.format x)) (up k.format (rung k.format x)) + signed (Fl.neg k.format y) (mag k.format (rung k.format y)) (up k.format (rung k.format y)) = (n + m) * 2 ^ u := by
    rw [← sv_signed, ← sv_signed, hx.val, hy.val, Int.add_mul]
  obtain ⟨r, hr, hd⟩ := dv_sum hv hl hf
  unfold fop floatBits Format.add
  dsimp only
  rw [hx.read, hy.read, hr]
  exact hd
theorem Dv.sub {k : FloatKind} {u x y : Nat} {n m : Int} (hx : Dv k u x n) (hy : Dv k u y m) (hl : (n - m).natAbs < 2 ^ (k.format.fractionBits + 1)) (hf : (n - m).natAbs * 2 ^ u < Fl.V k.format k.format.infRung) : Dv k u (fop .sub k x y) (n - m) := by
  have hv : signed (Fl.neg k.format x) (mag k.format (rung k.format x)) (up k.format (rung k.format x)) + signed (!Fl.neg k.format y) (mag k.format (rung k.format y)) (up k.format (rung k.format y)) = (n - m) * 2 ^ u := by
    rw [signed_not, ← sv_signed, ← sv_signed, hx.val, hy.val, Int.sub_mul]; omega
  obtain ⟨r, hr, hd⟩ := dv_sum hv hl hf
  unfold fop floatBits Format.sub
  dsimp only
  rw [hx.read, hy.read]
  unfold Datum.opposite
  dsimp only
  rw [hr]
  exact hd
theorem Dv.add64 {u x y : Nat} {n m : Int} (hx : Dv .f64 u x n) (hy : Dv .f64 u y m) (hu : u ≤ 1400) (h : (n + m).natAbs < 2 ^ 53) : Dv .f64 u (fop .add .f64 x y) (n + m) := hx.add hy h (fit64 h hu)
theorem Dv.sub64 {u x y : Nat} {n m : Int} (hx : Dv .f64 u x n) (hy : Dv .f64 u y m) (hu : u ≤ 1400) (h : (n - m).natAbs < 2 ^ 53) : Dv .f64 u (fop .sub .f64 x y) (n - m) := hx.sub hy h (fit64 h hu)
theorem Dv.add32 {x y : Nat} {n m : Int} (hx : Dv .f32 149 x n) (hy : Dv .f32 149 y m) (h : (n + m).natAbs < 2 ^ 24) : Dv .f32 149 (fop .add .f32 x y) (n + m) := hx.add hy h (fit32 h (by decide))
theorem Dv.nar {u x : Nat} {n : Int} (h : Dv .f64 (u + 925) x n) (hl : n.natAbs < 2 ^ 24) (hu : u ≤ 250) : Dv .f32 u (nar x) n := by
  unfold Fl.nar
  rw [h.nan, if_neg (by decide), h.read]
  unfold Format.write
  dsimp only
  refine dv_nearest (k := .f32) (fun h0 => h.sgn h0) hl (nar_places _ _ _ _ 925 _ _ ?_ ?_ h.V) (fit32 hl hu)
  · rw [show FloatKind.f32.format.leastPlace = (-149 : Int) from rfl, show FloatKind.f64.format.leastPlace = (-1074 : Int) from rfl]; omega
  · rw [show FloatKind.f32.format.leastPlace = (-149 : Int) from rfl, show FloatKind.f64.format.leastPlace = (-1074 : Int) from rfl]; omega
theorem Dv.fits {u x : Nat} {n : Int} (h : Dv .f64 (u + 925) x n) (hl : n.natAbs < 2 ^ 24) (hu : u ≤ 250) : fits x := .inr (.inr (h.nar hl hu).fin)
/-- A whole number. -/
theorem dy_int {n : Int} (h : n.natAbs < 2 ^ 24) : Dy .f32 149 (floatOfInt .f32 n) n := by
  have e : floatOfInt .f32 n = FloatKind.f32.format.nearest (decide (n < 0)) n.natAbs 0 := rfl
  rw [e]
  exact dy_nearest rfl h (by show n.natAbs * 2 ^ 149 = n.natAbs * 2 ^ 149 * 2 ^ 0; rw [Nat.pow_zero, Nat.mul_one]) (fit32 h (by decide))
/-- The parts of an exact quotient of magnitudes. -/
theorem quo_parts {m n u v N s T : Nat} (hn : 0 < n) (hN : N ≠ 0) (hs : s = 54 + n.log2 - m.log2) (hl : N < 2 ^ 53) (h : m * 2 ^ u = N * (n * 2 ^ v)) (hT : T = v + s - u) : u ≤ v + s ∧ (m <<< s) / n = N * 2 ^ T ∧ (m <<< s) % n = 0 := by
  have hm0 : m ≠ 0 := fun e => by
    rw [e, Nat.zero_mul] at h
    have := Nat.mul_pos (Nat.pos_of_ne_zero hN) (Nat.mul_pos hn (Nat.two_pow_pos v))
    omega
  have hle : u ≤ v + s := by
    by_cases hc : u ≤ v
    · omega
    have e1 : m * 2 ^ (u - v) = N * n := by
      refine Nat.eq_of_mul_eq_mul_right (Nat.two_pow_pos v) ?_
      rw [Nat.mul_assoc, ← Nat.pow_add, show u - v + v = u by omega, h, Nat.mul_assoc]
    have h1 : 2 ^ m.log2 ≤ m := Nat.log2_self_le hm0
    have h2 : n < 2 ^ (n.log2 + 1) := Nat.lt_log2_self
    have h3 : N * n < 2 ^ 53 * 2 ^ (n.log2 + 1) := Nat.mul_lt_mul'' hl h2
    have h4 : 2 ^ m.log2 * 2 ^ (u - v) ≤ m * 2 ^ (u - v) := Nat.mul_le_mul_right _ h1
    rw [← Nat.pow_add] at h3 h4
    have h5 : 2 ^ (m.log2 + (u - v)) < 2 ^ (53 + (n.log2 + 1)) := by omega
    have h6 := (Nat.pow_lt_pow_iff_right (by decide : 1 < 2)).1 h5
    omega
  have e : m <<< s = N * 2 ^ T * n := by
    rw [Nat.shiftLeft_eq]
    refine Nat.eq_of_mul_eq_mul_right (Nat.two_pow_pos u) ?_
    calc m * 2 ^ s * 2 ^ u = (m * 2 ^ u) * 2 ^ s := by rw [Nat.mul_right_comm]
      _ = N * (n * 2 ^ v) * 2 ^ s := by rw [h]
      _ = N * n * 2 ^ (v + s) := by rw [Nat.pow_add, Nat.mul_assoc, Nat.mul_assoc, Nat.mul_assoc]
      _ = N * n * (2 ^ T * 2 ^ u) := by rw [← Nat.pow_add, hT, show v + s - u + u = v + s by omega]
      _ = N * 2 ^ T * n * 2 ^ u := by rw [← Nat.mul_assoc, Nat.mul_right_comm N n]
  exact ⟨hle, by rw [e]; exact Nat.mul_div_cancel _ hn, by rw [e]; exact Nat.mul_mod_left _ _⟩
/-- A quotient that is a whole number. -/
theorem Dv.quo64 {w t x y : Nat} {N d : Int} (hx : Dv .f64 w x (N * d)) (hy : Dv .f64 w y d) (hd : d ≠ 0) (hl : N.natAbs < 2 ^ 53) (ht : t = 1074) : Dv .f64 t (fop .quo .f64 x y) N := by
  obtain ⟨m, hm⟩ : ∃ m, m = mag FloatKind.f64.format (rung FloatKind.f64.format x) := ⟨_, rfl⟩
  obtain ⟨u, hu⟩ : ∃ u, u = up FloatKind.f64.format (rung FloatKind.f64.format x) := ⟨_, rfl⟩
  obtain ⟨n, hn⟩ : ∃ n, n = mag FloatKind.f64.format (rung FloatKind.f64.format y) := ⟨_, rfl⟩
  obtain ⟨v, hv⟩ : ∃ v, v = up FloatKind.f64.format (rung FloatKind.f64.format y) := ⟨_, rfl⟩
  have e1 := hx.read
  have e2 := hy.read
  have g1 : m * 2 ^ u = (N * d).natAbs * 2 ^ w := by rw [hm, hu]; exact hx.V
  have g2 : n * 2 ^ v = d.natAbs * 2 ^ w := by rw [hn, hv]; exact hy.V
  rw [← hm, ← hu] at e1
  rw [← hn, ← hv] at e2
  have hT : 0 < 2 ^ w := Nat.two_pow_pos _
  generalize 2 ^ w = T at g1 g2 hT
  have hn0 : 0 < n := Nat.pos_of_ne_zero fun hz => by
    rw [hz, Nat.zero_mul] at g2
    have := Nat.mul_pos (show 0 < d.natAbs by omega) hT
    omega
  have er : fop .quo .f64 x y = FloatKind.f64.format.nearest (Fl.neg FloatKind.f64.format x ^^ Fl.neg FloatKind.f64.format y) (2 * ((m <<< (FloatKind.f64.format.fractionBits + 2 + n.log2 - m.log2)) / n) + ((m <<< (FloatKind.f64.format.fractionBits + 2 + n.log2 - m.log2)) % n != 0).toNat)
      (-1074 + (u : Int) - (-1074 + (v : Int)) - ((FloatKind.f64.format.fractionBits + 2 + n.log2 - m.log2 : Nat) : Int) - 1) := by
    unfold fop floatBits Format.div
    rw [e1, e2]
    unfold Datum.quotient
    dsimp only
    rw [if_neg (by omega)]
    rfl
  rw [er, show FloatKind.f64.format.fractionBits + 2 + n.log2 - m.log2 = 54 + n.log2 - m.log2 from rfl]
  obtain ⟨s, hs⟩ : ∃ s, s = 54 + n.log2 - m.log2 := ⟨_, rfl⟩
  rw [← hs]
  refine dv_nearest (k := .f64) (fun h0 => ?_) hl ?_ (fit64 hl (by omega))
  · rw [hx.sgn (fun e => by rcases Int.mul_eq_zero.1 e with e | e; exact h0 e; exact hd e), hy.sgn hd]
    by_cases h1 : N < 0
    · by_cases h2 : d < 0
      · have := Int.mul_pos_of_neg_of_neg h1 h2
        rw [decide_eq_true h1, decide_eq_true h2, decide_eq_false (by omega)]; rfl
      · have := Int.mul_neg_of_neg_of_pos h1 (show 0 < d by omega)
        rw [decide_eq_true h1, decide_eq_false h2, decide_eq_true (by omega)]; rfl
    · by_cases h2 : d < 0
      · have := Int.mul_neg_of_pos_of_neg (show 0 < N by omega) h2
        rw [decide_eq_false h1, decide_eq_true h2, decide_eq_true (by omega)]; rfl
      · have := Int.mul_pos (show 0 < N by omega) (show 0 < d by omega)
        rw [decide_eq_false h1, decide_eq_false h2, decide_eq_false (by omega)]; rfl
  · rw [show FloatKind.f64.format.leastPlace = (-1074 : Int) from rfl]
    by_cases hN : N = 0
    · have hm0 : m = 0 := by
        rw [hN, Int.zero_mul] at g1
        have h1 : m * 2 ^ u = 0 := by rw [g1]; simp
        rcases Nat.mul_eq_zero.1 h1 with h1 | h1
        · exact h1
        · exact absurd h1 (Nat.ne_of_gt (Nat.two_pow_pos u))
      rw [hm0, hN]
      simp
    · have hN0 : N.natAbs ≠ 0 := by omega
      have hq : m * 2 ^ u = N.natAbs * (n * 2 ^ v) := by rw [g1, g2, Int.natAbs_mul, Nat.mul_assoc]
      obtain ⟨q1, q2, q3⟩ := quo_parts hn0 hN0 hs hl hq rfl
      rw [q2, q3]
      generalize N.natAbs = M
      have e3 : 2 * (M * 2 ^ (v + s - u)) + ((0 : Nat) != 0).toNat = M * 2 ^ (v + s - u + 1) := by
        rw [show ((0 : Nat) != 0).toNat = 0 from rfl, Nat.add_zero, Nat.pow_succ, ← Nat.mul_assoc M, Nat.mul_comm 2]
      rw [e3, Nat.mul_assoc, Nat.mul_assoc, ← Nat.pow_add, ← Nat.pow_add]
      congr 2
      omega
end Go.Proofs.YtmalbjncjlhbaaaGreatDoor
