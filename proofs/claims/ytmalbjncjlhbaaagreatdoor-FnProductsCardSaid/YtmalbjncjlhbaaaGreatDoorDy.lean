/-
  Exact sums: numbers of few digits over a common unit.
-/
import Derived.Test.YtmalbjncjlhbaaaGreatDoorFl
namespace Go.Proofs.YtmalbjncjlhbaaaGreatDoor
open Go.Fl Ieee

/-- x stands for n units of 2 ^ u least places; a zero has no sign. -/
structure Dy (k : FloatKind) (u x : Nat) (n : Int) : Prop where
  lt : x < 2 ^ k.format.width
  fin : rung k.format x < k.format.infRung
  sg : neg k.format x = decide (n < 0)
  val : sv k.format x = n * 2 ^ u

theorem Dy.V {k : FloatKind} {u x : Nat} {n : Int} (h : Dy k u x n) : V k.format (rung k.format x) = n.natAbs * 2 ^ u := by
  have h1 := h.val
  unfold sv at h1
  have hp : ((2 : Int) ^ u) = ((2 ^ u : Nat) : Int) := by simp
  rw [h.sg, hp] at h1
  by_cases hn : n < 0
  · simp only [hn, decide_true, if_true] at h1
    have h2 : ((n.natAbs * 2 ^ u : Nat) : Int) = -(n * ((2 ^ u : Nat) : Int)) := by
      rw [Int.natCast_mul, ← Int.neg_mul]; congr 1; omega
    omega
  · simp only [hn, decide_false] at h1
    have h2 : ((n.natAbs * 2 ^ u : Nat) : Int) = n * ((2 ^ u : Nat) : Int) := by
      rw [Int.natCast_mul]; congr 1; omega
    rw [if_neg (by decide)] at h1
    omega
theorem Dy.same {k : FloatKind} {u x y : Nat} {n : Int} (h : Dy k u x n) (h' : Dy k u y n) : x = y :=
  ext_word _ h.lt h'.lt (h.sg.trans h'.sg.symm) (V_inj _ (h.V.trans h'.V.symm))
theorem log2_small {n b : Nat} (h : n < 2 ^ (b + 1)) : n.log2 ≤ b := by
  rcases Nat.eq_zero_or_pos n with h0 | h0
  · rw [h0]; simp
  · have := (Nat.log2_lt (by omega : n ≠ 0)).2 h; omega
theorem dy_nearest {k : FloatKind} {u m : Nat} {p : Int} {s : Bool} {n : Int} (hs : s = decide (n < 0)) (hl : n.natAbs < 2 ^ (k.format.fractionBits + 1))
    (hm : m * 2 ^ (p - k.format.leastPlace).toNat = n.natAbs * 2 ^ u * 2 ^ (k.format.leastPlace - p).toNat) (hf : n.natAbs * 2 ^ u < Fl.V k.format k.format.infRung) : Dy k u (k.format.nearest s m p) n := by
  obtain ⟨r, hr⟩ := exact_rung k.format n.natAbs u (log2_small hl)
  have hrl : r < k.format.infRung := (V_lt_iff _).1 (by rw [hr]; exact hf)
  have hrr := rung_of_V k.format s (m := m) (p := p) (r := r) (by rw [hr]; exact hm.symm) (Nat.le_of_lt hrl)
  have hsg := nearest_neg k.format s m p
  refine ⟨Go.Fl.nearest_lt .., by rw [hrr]; exact hrl, by rw [hsg, hs], ?_⟩
  unfold sv
  rw [hsg, hrr, hr, hs]
  have hp : ((2 : Int) ^ u) = ((2 ^ u : Nat) : Int) := by simp
  rw [hp, Int.natCast_mul]
  by_cases hn : n < 0
  · simp only [hn, decide_true, if_true]
    rw [← Int.neg_mul]; congr 1; omega
  · simp only [hn, decide_false]
    rw [if_neg (by decide)]; congr 1; omega
theorem dy_sum {k : FloatKind} {u : Nat} {s t : Bool} {a b i j : Nat} {N : Int} (hv : signed s a i + signed t b j = N * 2 ^ u) (hz : N = 0 → (s && t) = false) (hl : N.natAbs < 2 ^ (k.format.fractionBits + 1)) (hf : N.natAbs * 2 ^ u < Fl.V k.format k.format.infRung) :
    ∃ r, (Datum.sum (.number s a (k.format.leastPlace + (i : Int))) (.number t b (k.format.leastPlace + (j : Int)))).map k.format.write = some r ∧ Dy k u r N := by
  unfold Datum.sum
  dsimp only
  refine ⟨_, rfl, ?_⟩
  unfold Format.write
  dsimp only
  have e1 : (k.format.leastPlace + (i : Int) - min (k.format.leastPlace + (i : Int)) (k.format.leastPlace + (j : Int))).toNat = i - min i j := by omega
  have e2 : (k.format.leastPlace + (j : Int) - min (k.format.leastPlace + (i : Int)) (k.format.leastPlace + (j : Int))).toNat = j - min i j := by omega
  rw [e1, e2]
  have e3 : (min (k.format.leastPlace + (i : Int)) (k.format.leastPlace + (j : Int)) - k.format.leastPlace).toNat = min i j := by omega
  have e4 : (k.format.leastPlace - min (k.format.leastPlace + (i : Int)) (k.format.leastPlace + (j : Int))).toNat = 0 := by omega
  have h1 := signed_up s a (i - min i j) (min i j)
  have h2 := signed_up t b (j - min i j) (min i j)
  rw [show i - min i j + min i j = i by omega] at h1
  rw [show j - min i j + min i j = j by omega] at h2
  rw [h1, h2, ← Int.add_mul] at hv
  generalize signed s a (i - min i j) + signed t b (j - min i j) = T at hv ⊢
  have p1 : (0 : Int) < 2 ^ min i j := Int.pow_pos (by decide)
  have p2 : (0 : Int) < 2 ^ u := Int.pow_pos (by decide)
  have hT0 : T = 0 ↔ N = 0 := by
    constructor
    · intro h; rw [h, Int.zero_mul] at hv
      rcases Int.mul_eq_zero.1 hv.symm with h | h
      · exact h
      · omega
    · intro h; rw [h, Int.zero_mul] at hv
      rcases Int.mul_eq_zero.1 hv with h | h
      · exact h
      · omega
  have hTn : T < 0 ↔ N < 0 := by
    constructor
    · intro h
      have := Int.mul_neg_of_neg_of_pos h p1
      rw [hv] at this
      exact Int.not_le.1 fun h' => absurd (Int.mul_nonneg h' (Int.le_of_lt p2)) (by omega)
    · intro h
      have := Int.mul_neg_of_neg_of_pos h p2
      rw [← hv] at this
      exact Int.not_le.1 fun h' => absurd (Int.mul_nonneg h' (Int.le_of_lt p1)) (by omega)
  refine dy_nearest ?_ hl ?_ hf
  · by_cases h : T = 0
    · rw [if_pos h, hz (hT0.1 h), hT0.1 h]; rfl
    · rw [if_neg h]; exact decide_eq_decide.2 hTn
  · rw [e3, e4, Nat.pow_zero, Nat.mul_one]
    have := congrArg Int.natAbs hv
    rw [Int.natAbs_mul, Int.natAbs_mul, Int.natAbs_pow, Int.natAbs_pow] at this
    exact this
theorem Dy.read {k : FloatKind} {u x : Nat} {n : Int} (h : Dy k u x n) : k.format.read x = .number (neg k.format x) (mag k.format (rung k.format x)) (k.format.leastPlace + (up k.format (rung k.format x) : Int)) := by
  rw [read_eq k.format (eb k), if_pos h.fin]
theorem Dy.add {k : FloatKind} {u x y : Nat} {n m : Int} (hx : Dy k u x n) (hy : Dy k u y m) (hl : (n + m).natAbs < 2 ^ (k.format.fractionBits + 1)) (hf : (n + m).natAbs * 2 ^ u < Fl.V k.format k.format.infRung) : Dy k u (fop .add k x y) (n + m) := by
  have hv : signed (neg k.format x) (mag k.format (rung k.format x)) (up k.format (rung k.format x)) + signed (neg k.format y) (mag k.format (rung k.format y)) (up k.format (rung k.format y)) = (n + m) * 2 ^ u := by
    rw [← sv_signed, ← sv_signed, hx.val, hy.val, Int.add_mul]
  obtain ⟨r, hr, hd⟩ := dy_sum hv (fun h => by
    rw [hx.sg, hy.sg, Bool.and_eq_false_iff, decide_eq_false_iff_not, decide_eq_false_iff_not]; omega) hl hf
  unfold fop floatBits Format.add
  dsimp only
  rw [hx.read, hy.read, hr]
  exact hd
theorem signed_not (s : Bool) (m i : Nat) : signed (!s) m i = -signed s m i := by unfold signed; cases s <;> simp
theorem Dy.sub {k : FloatKind} {u x y : Nat} {n m : Int} (hx : Dy k u x n) (hy : Dy k u y m) (hl : (n - m).natAbs < 2 ^ (k.format.fractionBits + 1)) (hf : (n - m).natAbs * 2 ^ u < Fl.V k.format k.format.infRung) : Dy k u (fop .sub k x y) (n - m) := by
  have hv : signed (neg k.format x) (mag k.format (rung k.format x)) (up k.format (rung k.format x)) + signed (!neg k.format y) (mag k.format (rung k.format y)) (up k.format (rung k.format y)) = (n - m) * 2 ^ u := by
    rw [signed_not, ← sv_signed, ← sv_signed, hx.val, hy.val, Int.sub_mul]; omega
  obtain ⟨r, hr, hd⟩ := dy_sum hv (fun h => by
    rw [hx.sg, hy.sg, Bool.and_eq_false_iff]
    by_cases q : n < 0
    · exact .inr (by rw [show decide (m < 0) = true from decide_eq_true (by omega)]; rfl)
    · exact .inl (decide_eq_false q)) hl hf
  unfold fop floatBits Format.sub
  dsimp only
  rw [hx.read, hy.read]
  unfold Datum.opposite
  dsimp only
  rw [hr]
  exact hd
theorem Dy.nan {k : FloatKind} {u x : Nat} {n : Int} (h : Dy k u x n) : Fl.nan k x = false := by
  unfold Fl.nan isNaN; exact decide_eq_false (by have := h.fin; omega)
theorem Dy.is {k : FloatKind} {u x : Nat} {n : Int} (h : Dy k u x n) : Is k x x := Is.const (by unfold isCanon; rw [h.nan]; simp only [Bool.not_false, Bool.and_true]; exact decide_eq_true h.lt)
theorem Dy.order {k : FloatKind} {u x y : Nat} {n m : Int} (hx : Dy k u x n) (hy : Dy k u y m) : k.format.order x y = some (compare n m) := by
  rw [order_sv' k hx.nan hy.nan, hx.val, hy.val]
  have p2 : (0 : Int) < 2 ^ u := Int.pow_pos (by decide)
  exact congrArg some (compare_int ⟨fun h => Int.lt_of_mul_lt_mul_right h (Int.le_of_lt p2), fun h => Int.mul_lt_mul_of_pos_right h p2⟩ ⟨fun h => Int.lt_of_mul_lt_mul_right h (Int.le_of_lt p2), fun h => Int.mul_lt_mul_of_pos_right h p2⟩)
/-- What comparisons answer. -/
theorem Dy.gtr {k : FloatKind} {u x y : Nat} {n m : Int} (hx : Dy k u x n) (hy : Dy k u y m) : fcmp .gtr k x y = decide (n > m) := by
  unfold fcmp; dsimp only; rw [hx.order hy, Int.compare_eq_ite_lt]
  by_cases h1 : n < m
  · simp [h1]; omega
  · by_cases h2 : m < n
    · simp [h1, h2]
    · simp [h1, h2]
theorem Dy.lss {k : FloatKind} {u x y : Nat} {n m : Int} (hx : Dy k u x n) (hy : Dy k u y m) : fcmp .lss k x y = decide (n < m) := by
  unfold fcmp; dsimp only; rw [hx.order hy, Int.compare_eq_ite_lt]
  by_cases h1 : n < m
  · simp [h1]
  · by_cases h2 : m < n
    · simp [h1, h2]
    · simp [h1, h2]
theorem Dy.eql {k : FloatKind} {u x y : Nat} {n m : Int} (hx : Dy k u x n) (hy : Dy k u y m) : fcmp .eql k x y = decide (n = m) := by
  unfold fcmp; dsimp only; rw [hx.order hy, Int.compare_eq_ite_lt]
  by_cases h1 : n < m
  · simp [h1]; omega
  · by_cases h2 : m < n
    · simp [h1, h2]; omega
    · simp [h1, h2]; omega
/-- In float32, what is far below the greatest number. -/
theorem V_inf32 : Fl.V FloatKind.f32.format FloatKind.f32.format.infRung = 2 ^ 277 := by decide +kernel
theorem fit32 {n : Int} {u : Nat} (h : n.natAbs < 2 ^ 24) (hu : u ≤ 250) : n.natAbs * 2 ^ u < Fl.V FloatKind.f32.format FloatKind.f32.format.infRung := by
  rw [V_inf32]
  calc n.natAbs * 2 ^ u < 2 ^ 24 * 2 ^ u := Nat.mul_lt_mul_of_pos_right h (Nat.two_pow_pos _)
    _ = 2 ^ (24 + u) := by rw [← Nat.pow_add]
    _ ≤ 2 ^ 277 := Nat.pow_le_pow_right (by decide) (by omega)
/-- Sums and differences in float32 of numbers below 2 ^ 24 units. -/
theorem Dy.add32 {u x y : Nat} {n m : Int} (hx : Dy .f32 u x n) (hy : Dy .f32 u y m) (hu : u ≤ 250) (h : (n + m).natAbs < 2 ^ 24) : Dy .f32 u (fop .add .f32 x y) (n + m) := hx.add hy h (fit32 h hu)
theorem Dy.sub32 {u x y : Nat} {n m : Int} (hx : Dy .f32 u x n) (hy : Dy .f32 u y m) (hu : u ≤ 250) (h : (n - m).natAbs < 2 ^ 24) : Dy .f32 u (fop .sub .f32 x y) (n - m) := hx.sub hy h (fit32 h hu)
end Go.Proofs.YtmalbjncjlhbaaaGreatDoor
