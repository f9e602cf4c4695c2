/-
  The matrix of a line in fractions: columns, one part after another, nearly; the determinant.
-/
import Derived.Test.YtpnmledanloboaaRx
import Derived.Test.YtpnmledanloboaaLnM
namespace Go.Proofs.Ytpnmledanloboaa
open Go.Fl Go.RowKit
set_option linter.unusedSimpArgs false
set_option linter.unusedVariables false

theorem sv_zero9 {x : Nat} (h : r32 x = 0) : sv FloatKind.f32.format x = 0 := by
  unfold sv; rw [show rung FloatKind.f32.format x = 0 from h, V_zero]; simp
theorem rw_nan {x : Nat} {a : Rat} (h : Rw x a) : Fl.nan .f32 x = false := by rw [nan_r]; exact decide_eq_false (Nat.not_lt.2 (Nat.le_of_lt h.1))
theorem rw_in {x k : Nat} {a : Rat} (h : Rw x a) (hb : In a (P2 k)) : (sv FloatKind.f32.format x).natAbs ≤ p2 (k + 149) := by
  have hT := P2_pos 149
  have e : (((p2 (k + 149) : Nat) : Int) : Rat) = P2 k * P2 149 := P2_add k 149
  refine le_of_rat ?_ ?_
  · rw [h.2, e]; exact mul_up hT hb.1
  · rw [h.2, e]
    have := mul_up hT hb.2
    generalize P2 149 = T at *
    grind
theorem rw_one : Rw 1065353216 1 := by
  refine ⟨by decide, ?_⟩
  rw [show sv FloatKind.f32.format 1065353216 = ((p2 149 : Nat) : Int) by decide +kernel, Rat.one_mul]; rfl
theorem rw_nil : Rw 0 0 := by
  refine ⟨by decide, ?_⟩
  rw [sv_zero9 (show r32 0 = 0 by decide), Rat.zero_mul]; rfl
theorem rw_mul_one {y k : Nat} {b : Rat} (hk : k < 100) (h : Rw y b) (hb : In b (P2 k)) : Rw (fop .mul .f32 1065353216 y) b := by
  have hy := rw_in h hb
  have hs : sv FloatKind.f32.format 1065353216 = ((p2 149 : Nat) : Int) := by decide +kernel
  have hm := rmul32 (k + 125) (by omega) rw_one.1 h.1 (by
    rw [hs, Int.natAbs_mul, Int.natAbs_natCast, show k + 125 + 24 = k + 149 by omega, Nat.mul_comm]
    exact Nat.mul_le_mul_right _ hy)
  have hr := mul_one9 (rw_nan h)
  refine ⟨hm.1, ?_⟩
  rw [← h.2]
  congr 1
  unfold sv
  rw [show rung FloatKind.f32.format (fop .mul .f32 1065353216 y) = rung FloatKind.f32.format y from hr, hm.2.2.1, show neg FloatKind.f32.format 1065353216 = false by decide]
  simp
theorem rw_mul_nil {y : Nat} {b : Rat} (h : Rw y b) : Rw (fop .mul .f32 0 y) 0 := by
  have hm := rmul32 0 (by omega) rw_nil.1 h.1 (by rw [sv_zero9 (show r32 0 = 0 by decide), Int.zero_mul]; exact Nat.zero_le _)
  have hz : r32 (fop .mul .f32 0 y) = 0 := by
    rcases mul_zl y (show r32 0 = 0 by decide) with e | e
    · exact e
    · rw [nan_r] at e
      exact absurd (of_decide_eq_true e) (Nat.not_lt.2 (Nat.le_of_lt hm.1))
  exact ⟨hm.1, by rw [sv_zero9 hz, Rat.zero_mul]; rfl⟩
theorem rw_add_r {x z : Nat} {a : Rat} (h : Rw x a) (hz : Rw z 0) : Rw (fop .add .f32 x z) a := by
  have e0 : sv FloatKind.f32.format z = 0 := by
    have := hz.2
    rw [Rat.zero_mul] at this
    exact Rat.intCast_inj.1 this
  obtain ⟨h1, h2⟩ := radd_ex (r := rung FloatKind.f32.format x) h.1 hz.1 h.1 (by rw [e0, Int.add_zero, sv_abs])
  exact ⟨h1, by rw [h2, e0, Int.add_zero]; exact h.2⟩
theorem rw_add_l {x z : Nat} {a : Rat} (h : Rw x a) (hz : Rw z 0) : Rw (fop .add .f32 z x) a := by
  have e0 : sv FloatKind.f32.format z = 0 := by
    have := hz.2
    rw [Rat.zero_mul] at this
    exact Rat.intCast_inj.1 this
  obtain ⟨h1, h2⟩ := radd_ex (r := rung FloatKind.f32.format x) hz.1 h.1 h.1 (by rw [e0, Int.zero_add, sv_abs])
  exact ⟨h1, by rw [h2, e0, Int.zero_add]; exact h.2⟩
/-! ### one over a length -/
theorem l_quo : ∀ x ∈ LS2, rung FloatKind.f32.format (fop .quo .f32 3212836864 x) < FloatKind.f32.format.infRung ∧ (sv FloatKind.f32.format (fop .quo .f32 3212836864 x)).natAbs ≤ p2 149 ∧
    (sv FloatKind.f32.format (fop .quo .f32 3212836864 x) * q4 x + 4 * ((p2 149 : Nat) : Int)).natAbs ≤ (q4 x).natAbs * p2 125 := by decide +kernel
/-! ### one part further on, a column of the matrix -/
def LX (k : Int) (m X Y : Rat) : Rat := if k = 0 then X + m * Y else X
def LY (k : Int) (m X Y : Rat) : Rat := if k = 1 then Y - m * X else Y
def colX (t : El) (x y : Nat) : Nat := fop .add .f32 (fop .mul .f32 (matP t 0) x) (fop .mul .f32 (matP t 1) y)
def colY (t : El) (x y : Nat) : Nat := fop .add .f32 (fop .mul .f32 (matP t 2) x) (fop .mul .f32 (matP t 3) y)
theorem times_cols (t : El) (m : Nat → Nat) : timesF (matP t) m 0 = colX t (m 0) (m 2) ∧ timesF (matP t) m 1 = colX t (m 1) (m 3) ∧ timesF (matP t) m 2 = colY t (m 0) (m 2) ∧ timesF (matP t) m 3 = colY t (m 1) (m 3) := ⟨rfl, rfl, rfl, rfl⟩
theorem P2_succ (k : Nat) : P2 (k + 1) = 2 * P2 k := by rw [P2_add, show P2 1 = 2 by decide +kernel]; grind
theorem inv_p {c M Q U : Rat} (hU : 0 < U) (hp : 0 < Q) (e : M * Q = 4) (h1 : c * (U * 16777216) * Q + 4 * (U * 16777216) ≤ Q * U) (h2 : -(Q * U) ≤ c * (U * 16777216) * Q + 4 * (U * 16777216)) : In (c + M) (1/16777216) := by
  have hpu := Rat.mul_pos hp hU
  have e2 : M * (Q * U) = 4 * U := by rw [← Rat.mul_assoc, e]
  have e3 : c * (U * 16777216) * Q = c * (Q * U) * 16777216 := by grind
  rw [e3] at h1 h2
  refine ⟨mul_cancel hpu ?_, mul_cancel hpu ?_⟩
  · rw [Rat.add_mul, e2]; grind
  · rw [Rat.add_mul, e2]; grind
theorem inv_n {c M Q U : Rat} (hU : 0 < U) (hp : 0 < -Q) (e : M * Q = 4) (h1 : c * (U * 16777216) * Q + 4 * (U * 16777216) ≤ -Q * U) (h2 : -(-Q * U) ≤ c * (U * 16777216) * Q + 4 * (U * 16777216)) : In (c + M) (1/16777216) := by
  have h := inv_p (c := -c) (M := -M) hU hp (by grind) (by grind) (by grind)
  exact ⟨by have := h.2; grind, by have := h.1; grind⟩
/-- One part on the column: one of its numbers is off by at most a little, the other one is exact. -/
theorem col_step {t : El} (hd : DrE t) {x y k : Nat} {X Y : Rat} (hk : k < 90) (hx : Rw x X) (hy : Rw y Y) (bx : In X (P2 k)) (by' : In Y (P2 k)) :
    ∃ X' Y', Rw (colX t x y) X' ∧ Rw (colY t x y) Y' ∧ In X' (P2 (k + 1)) ∧ In Y' (P2 (k + 1)) ∧
      ((t.k = 0 ∧ Y' = Y ∧ In (X' - (X + mOf t * Y)) (P2 k / 4194304)) ∨ (t.k = 1 ∧ X' = X ∧ In (Y' - (Y - mOf t * X)) (P2 k / 4194304)) ∨ (t.k = 3 ∧ X' = X ∧ Y' = Y)) := by
  obtain ⟨hm, hpl, hn, hl⟩ := hd.par
  have hH := P2_pos k
  have hS := P2_succ k
  have o1 := fun {z : Nat} {Z : Rat} (h : Rw z Z) (b : In Z (P2 k)) => rw_mul_one (k := k) (by omega) h b
  unfold colX colY
  rcases hpl with k0 | k1 | k3
  · have e0 : matP t 0 = 1065353216 := by unfold matP idF; rw [if_pos k0]; rfl
    have e1 : matP t 1 = t.N := by unfold matP; rw [if_pos k0]; rfl
    have e2 : matP t 2 = 0 := by unfold matP idF; rw [if_pos k0]; rfl
    have e3 : matP t 3 = 1065353216 := by unfold matP idF; rw [if_pos k0]; rfl
    rw [e0, e1, e2, e3]
    have hN := hn (by rw [k0]; decide)
    have hmy := hm.mul by'
    obtain ⟨c, hc, ⟨c1, c2⟩, c3, c4⟩ := Rw.mul k (by omega) hN hy hmy.2 hmy.1
    have hx1 := bx.1; have hx2 := bx.2; have hy1 := by'.1; have hy2 := by'.2
    obtain ⟨d, hd2, ⟨d1, d2⟩, d3, d4⟩ := Rw.add (k + 1) (by omega) (o1 hx bx) hc (by grind) (by grind)
    refine ⟨d, Y, hd2, rw_add_l (o1 hy by') (rw_mul_nil hx), ⟨d3, d4⟩, ⟨by grind, by grind⟩, .inl ⟨k0, rfl, ?_, ?_⟩⟩ <;> grind
  · have e0 : matP t 0 = 1065353216 := by unfold matP idF; rw [if_neg (by rw [k1]; decide), if_pos k1]; rfl
    have e1 : matP t 1 = 0 := by unfold matP idF; rw [if_neg (by rw [k1]; decide), if_pos k1]; rfl
    have e2 : matP t 2 = fop .quo .f32 3212836864 t.N := by unfold matP; rw [if_neg (by rw [k1]; decide), if_pos k1]; rfl
    have e3 : matP t 3 = 1065353216 := by unfold matP idF; rw [if_neg (by rw [k1]; decide), if_pos k1]; rfl
    rw [e0, e1, e2, e3]
    have hmem : t.n ∈ LS2 := by
      rcases hd.2 with g | g | g
      · exact absurd (g.1.symm.trans k1) (by decide)
      · exact g.2
      · exact absurd (g.1.symm.trans k1) (by decide)
    have hN : t.N = t.n := (q_lt t.n hd.okb).2.2.2.1
    rw [hN]
    obtain ⟨f1, f2, f3⟩ := l_quo t.n hmem
    obtain ⟨c, hc⟩ := Rw.ex f1
    have b2 := rat_of_int f2
    have b3 := rat_of_int f3
    have hT := P2_pos 149
    rw [hc.2, show (((p2 149 : Nat) : Int) : Rat) = P2 149 from rfl] at b2
    have hc1 : In c 1 := ⟨mul_cancel hT (by have := b2.1; grind), mul_cancel hT (by have := b2.2; grind)⟩
    have hq := q4_l t.n hmem
    have hmo : mOf t = 4 / ((q4 t.n : Int) : Rat) := by unfold mOf; rw [if_pos k1]
    have hcm : In (c + mOf t) (1/16777216) := by
      rw [hmo]
      rw [Rat.intCast_add, Rat.intCast_mul, Rat.intCast_mul, hc.2, show (((p2 149 : Nat) : Int) : Rat) = P2 149 from rfl, show ((4 : Int) : Rat) = 4 from rfl, Int.natCast_mul, Rat.intCast_mul, show (((p2 125 : Nat) : Int) : Rat) = P2 125 from rfl,
        show P2 149 = P2 125 * 16777216 by rw [show (149 : Nat) = 125 + 24 from rfl, P2_add]; rfl] at b3
      have hU := P2_pos 125
      rcases hq with ⟨a1, a2⟩ | ⟨a1, a2⟩
      · have a1 : (4 : Rat) ≤ ((q4 t.n : Int) : Rat) := Rat.intCast_le_intCast.2 a1
        rw [show (((q4 t.n).natAbs : Int) : Rat) = ((q4 t.n : Int) : Rat) by congr 1; omega] at b3
        generalize ((q4 t.n : Int) : Rat) = Q at *
        have hp : (0 : Rat) < Q := by grind
        have e : 4 / Q * Q = 4 := Rat.div_mul_cancel (by grind)
        generalize 4 / Q = M at *
        exact inv_p hU hp e b3.1 b3.2
      · have a2 : ((q4 t.n : Int) : Rat) ≤ -4 := Rat.intCast_le_intCast.2 a2
        rw [show (((q4 t.n).natAbs : Int) : Rat) = -((q4 t.n : Int) : Rat) by rw [← Rat.intCast_neg]; congr 1; omega] at b3
        generalize ((q4 t.n : Int) : Rat) = Q at *
        have hp : (0 : Rat) < -Q := by grind
        have e : 4 / Q * Q = 4 := Rat.div_mul_cancel (by grind)
        generalize 4 / Q = M at *
        exact inv_n hU hp e b3.1 b3.2
    have hcx := hc1.mul bx
    obtain ⟨d, hd2, ⟨d1, d2⟩, d3, d4⟩ := Rw.mul k (by omega) hc hx hcx.2 hcx.1
    have hx1 := bx.1; have hx2 := bx.2; have hy1 := by'.1; have hy2 := by'.2
    obtain ⟨z, hz, ⟨z1, z2⟩, z3, z4⟩ := Rw.add (k + 1) (by omega) hd2 (o1 hy by') (by grind) (by grind)
    have g : In ((c + mOf t) * 16777216 * X) (P2 k) := In.mul ⟨by have := hcm.1; grind, by have := hcm.2; grind⟩ bx
    have g1 := g.1; have g2 := g.2
    refine ⟨X, z, rw_add_r (o1 hx bx) (rw_mul_nil hy), hz, ⟨by grind, by grind⟩, ⟨z3, z4⟩, .inr (.inl ⟨k1, rfl, ?_, ?_⟩)⟩ <;> grind
  · have e0 : matP t 0 = 1065353216 := by unfold matP idF; rw [if_neg (by rw [k3]; decide), if_neg (by rw [k3]; decide)]; rfl
    have e1 : matP t 1 = 0 := by unfold matP idF; rw [if_neg (by rw [k3]; decide), if_neg (by rw [k3]; decide)]; rfl
    have e2 : matP t 2 = 0 := by unfold matP idF; rw [if_neg (by rw [k3]; decide), if_neg (by rw [k3]; decide)]; rfl
    have e3 : matP t 3 = 1065353216 := by unfold matP idF; rw [if_neg (by rw [k3]; decide), if_neg (by rw [k3]; decide)]; rfl
    rw [e0, e1, e2, e3]
    have hx1 := bx.1; have hx2 := bx.2; have hy1 := by'.1; have hy2 := by'.2
    exact ⟨X, Y, rw_add_r (o1 hx bx) (rw_mul_nil hy), rw_add_l (o1 hy by') (rw_mul_nil hx), ⟨by grind, by grind⟩, ⟨by grind, by grind⟩, .inr (.inr ⟨k3, rfl, rfl⟩)⟩
/-! ### the matrix -/
/-- A matrix of words stands for four fractions. -/
structure Mx (m : Nat → Nat) (a b c d : Rat) : Prop where
  r0 : Rw (m 0) a
  r1 : Rw (m 1) b
  r2 : Rw (m 2) c
  r3 : Rw (m 3) d
/-- All of them are at most H. -/
structure Mb (H a b c d : Rat) : Prop where
  b0 : In a H
  b1 : In b H
  b2 : In c H
  b3 : In d H
/-- What one part makes of the four. -/
def Stp (t : El) (e a b c d a' b' c' d' : Rat) : Prop :=
  (t.k = 0 ∧ c' = c ∧ d' = d ∧ In (a' - (a + mOf t * c)) e ∧ In (b' - (b + mOf t * d)) e) ∨
  (t.k = 1 ∧ a' = a ∧ b' = b ∧ In (c' - (c - mOf t * a)) e ∧ In (d' - (d - mOf t * b)) e) ∨ (t.k = 3 ∧ a' = a ∧ b' = b ∧ c' = c ∧ d' = d)
theorem mx_step {t : El} (hd : DrE t) {m : Nat → Nat} {k : Nat} {a b c d : Rat} (hk : k < 90) (h : Mx m a b c d) (hb : Mb (P2 k) a b c d) :
    ∃ a' b' c' d', Mx (timesF (matP t) m) a' b' c' d' ∧ Mb (P2 (k + 1)) a' b' c' d' ∧ Stp t (P2 k / 4194304) a b c d a' b' c' d' := by
  obtain ⟨a', c', h1, h2, g1, g2, q⟩ := col_step hd hk h.r0 h.r2 hb.b0 hb.b2
  obtain ⟨b', d', h3, h4, g3, g4, q2⟩ := col_step hd hk h.r1 h.r3 hb.b1 hb.b3
  refine ⟨a', b', c', d', ⟨h1, h3, h2, h4⟩, ⟨g1, g3, g2, g4⟩, ?_⟩
  rcases q with ⟨k0, e, n⟩ | ⟨k0, e, n⟩ | ⟨k0, e, n⟩
  · rcases q2 with ⟨k2, e2, n2⟩ | ⟨k2, e2, n2⟩ | ⟨k2, e2, n2⟩
    · exact .inl ⟨k0, e, e2, n, n2⟩
    · rw [k0] at k2; exact absurd k2 (by decide)
    · rw [k0] at k2; exact absurd k2 (by decide)
  · rcases q2 with ⟨k2, e2, n2⟩ | ⟨k2, e2, n2⟩ | ⟨k2, e2, n2⟩
    · rw [k0] at k2; exact absurd k2 (by decide)
    · exact .inr (.inl ⟨k0, e, e2, n, n2⟩)
    · rw [k0] at k2; exact absurd k2 (by decide)
  · rcases q2 with ⟨k2, e2, n2⟩ | ⟨k2, e2, n2⟩ | ⟨k2, e2, n2⟩
    · rw [k0] at k2; exact absurd k2 (by decide)
    · rw [k0] at k2; exact absurd k2 (by decide)
    · exact .inr (.inr ⟨k0, e, e2, n, n2⟩)
theorem In.mul2 {x y e H : Rat} (hx : In x e) (hy : In y H) (he : 0 ≤ e) : In (x * y) (e * H) := by
  obtain ⟨x1, x2⟩ := hx
  obtain ⟨y1, y2⟩ := hy
  have hH : 0 ≤ H := by grind
  have a1 := Rat.mul_nonneg (show 0 ≤ e - x by grind) (show 0 ≤ H - y by grind)
  have a2 := Rat.mul_nonneg (show 0 ≤ e - x by grind) (show 0 ≤ H + y by grind)
  have a3 := Rat.mul_nonneg (show 0 ≤ e + x by grind) (show 0 ≤ H - y by grind)
  have a4 := Rat.mul_nonneg (show 0 ≤ e + x by grind) (show 0 ≤ H + y by grind)
  constructor <;> grind
/-- The determinant stays, nearly. -/
theorem det_step {t : El} {e H a b c d a' b' c' d' : Rat} (he : 0 ≤ e) (hb : Mb H a b c d) (h : Stp t e a b c d a' b' c' d') : In ((a' * d' - b' * c') - (a * d - b * c)) (2 * (e * H)) := by
  have hH : 0 ≤ H := by have := hb.b0.1; have := hb.b0.2; grind
  have hm := Rat.mul_nonneg he hH
  rcases h with ⟨_, rfl, rfl, n1, n2⟩ | ⟨_, rfl, rfl, n1, n2⟩ | ⟨_, rfl, rfl, rfl, rfl⟩
  · have u1 := n1.mul2 hb.b3 he
    have u2 := n2.mul2 hb.b2 he
    obtain ⟨u11, u12⟩ := u1; obtain ⟨u21, u22⟩ := u2
    constructor <;> grind
  · have u1 := n1.mul2 hb.b1 he
    have u2 := n2.mul2 hb.b0 he
    obtain ⟨u11, u12⟩ := u1; obtain ⟨u21, u22⟩ := u2
    constructor <;> grind
  · constructor <;> grind
def dF : Nat → Rat
  | 0 => 0
  | k + 1 => dF k + 2 * (P2 k / 4194304 * P2 k)
theorem dF_4 {k : Nat} (h : k ≤ 4) : dF k ≤ 170/4194304 := by
  have : k = 0 ∨ k = 1 ∨ k = 2 ∨ k = 3 ∨ k = 4 := by omega
  rcases this with rfl | rfl | rfl | rfl | rfl <;> decide +kernel
theorem lineM_succ {ts : List El} {k : Nat} (h : k < ts.length) : lineM ts (k + 1) = timesF (matP ts[k]) (lineM ts k) := by simp [lineM, List.getD, h]
theorem P2_0 : P2 0 = 1 := by decide +kernel
/-- The matrix of a line of elements that are drawn: its numbers, and its determinant. -/
theorem line_mx {ts : List El} (hd : ∀ t ∈ ts, DrE t) (hl : ts.length ≤ 4) : ∀ k, k ≤ ts.length → ∃ a b c d, Mx (lineM ts k) a b c d ∧ Mb (P2 k) a b c d ∧ In ((a * d - b * c) - 1) (dF k) := by
  intro k
  induction k with
  | zero =>
    intro _
    exact ⟨1, 0, 0, 1, ⟨rw_one, rw_nil, rw_nil, rw_one⟩, by rw [P2_0]; exact ⟨⟨by decide, by decide⟩, ⟨by decide, by decide⟩, ⟨by decide, by decide⟩, ⟨by decide, by decide⟩⟩, ⟨by decide +kernel, by decide +kernel⟩⟩
  | succ k ih =>
    intro hk
    obtain ⟨a, b, c, d, h, hb, hD⟩ := ih (by omega)
    obtain ⟨a', b', c', d', h', hb', hs⟩ := mx_step (hd _ (List.getElem_mem (show k < ts.length by omega))) (show k < 90 by omega) h hb
    have hP := P2_pos k
    have hst := det_step (by grind) hb hs
    rw [lineM_succ (show k < ts.length by omega)]
    refine ⟨a', b', c', d', h', hb', ?_⟩
    have e : dF (k + 1) = dF k + 2 * (P2 k / 4194304 * P2 k) := rfl
    obtain ⟨q1, q2⟩ := hst; obtain ⟨q3, q4⟩ := hD
    constructor <;> grind
/-- The determinant, as it is computed, is 1, nearly. -/
theorem det_near {m : Nat → Nat} {a b c d : Rat} (h : Mx m a b c d) (hb : Mb 16 a b c d) (hD : In ((a * d - b * c) - 1) (170/4194304)) : ∃ D, Rw (detF m) D ∧ In (D - 1) (1/5000) := by
  have u1 := hb.b0.mul2 hb.b3 (by decide)
  have u2 := hb.b1.mul2 hb.b2 (by decide)
  have e8 : P2 8 = 256 := by decide +kernel
  have e9 : P2 9 = 512 := by decide +kernel
  obtain ⟨x, hx, ⟨x1, x2⟩, x3, x4⟩ := Rw.mul 8 (by decide) h.r0 h.r3 (by rw [e8]; have := u1.2; grind) (by rw [e8]; have := u1.1; grind)
  obtain ⟨y, hy, ⟨y1, y2⟩, y3, y4⟩ := Rw.mul 8 (by decide) h.r1 h.r2 (by rw [e8]; have := u2.2; grind) (by rw [e8]; have := u2.1; grind)
  rw [e8] at x1 x2 x3 x4 y1 y2 y3 y4
  obtain ⟨z, hz, ⟨z1, z2⟩, z3, z4⟩ := Rw.sub 9 (by decide) hx hy (by rw [e9]; grind) (by rw [e9]; grind)
  rw [e9] at z1 z2
  obtain ⟨d1, d2⟩ := hD
  exact ⟨z, hz, by grind, by grind⟩
/-! ### a line in two pieces -/
theorem lineM_take (ts : List El) (cut : Nat) : ∀ k, k ≤ cut → k ≤ ts.length → lineM (ts.take cut) k = lineM ts k := by
  intro k
  induction k with
  | zero => intros; rfl
  | succ k ih =>
    intro h1 h2
    rw [lineM_succ (show k < ts.length by omega), lineM_succ (show k < (ts.take cut).length by rw [List.length_take]; omega), ih (by omega) (by omega), List.getElem_take]
/-- How far the four differ from those of a product. -/
structure Pr (D : Rat) (m0 m1 m2 m3 b0 b1 b2 b3 a0 a1 a2 a3 : Rat) : Prop where
  p0 : In (m0 - (b0 * a0 + b1 * a2)) D
  p1 : In (m1 - (b0 * a1 + b1 * a3)) D
  p2 : In (m2 - (b2 * a0 + b3 * a2)) D
  p3 : In (m3 - (b2 * a1 + b3 * a3)) D
theorem pr_row {μ D e1 e2 H x x' y p p' u u' v a c q : Rat} (hμ : In μ 1) (h1 : In (x - (p * a + u * c)) D) (h2 : In (y - (q * a + v * c)) D) (n : In (x' - (x + μ * y)) e1) (n1 : In (p' - (p + μ * q)) e2) (n2 : In (u' - (u + μ * v)) e2) (ha : In a H) (hc : In c H) (he : 0 ≤ e2) :
    In (x' - (p' * a + u' * c)) (2 * D + (e1 + 2 * (e2 * H))) := by
  have w1 := n1.mul2 ha he
  have w2 := n2.mul2 hc he
  have w3 := hμ.mul h2
  obtain ⟨w11, w12⟩ := w1; obtain ⟨w21, w22⟩ := w2; obtain ⟨w31, w32⟩ := w3; obtain ⟨h11, h12⟩ := h1; obtain ⟨n11, n12⟩ := n
  constructor <;> grind
theorem pr_step {t : El} (hm : In (mOf t) 1) {D e1 e2 H m0 m1 m2 m3 b0 b1 b2 b3 a0 a1 a2 a3 m0' m1' m2' m3' b0' b1' b2' b3' : Rat} (h : Pr D m0 m1 m2 m3 b0 b1 b2 b3 a0 a1 a2 a3) (ha : Mb H a0 a1 a2 a3) (he : 0 ≤ e2) (h1 : 0 ≤ e1) (hD : 0 ≤ D) (hH : 0 ≤ H)
    (s1 : Stp t e1 m0 m1 m2 m3 m0' m1' m2' m3') (s2 : Stp t e2 b0 b1 b2 b3 b0' b1' b2' b3') : Pr (2 * D + (e1 + 2 * (e2 * H))) m0' m1' m2' m3' b0' b1' b2' b3' a0 a1 a2 a3 := by
  have hn := Rat.mul_nonneg he hH
  have hw : D ≤ 2 * D + (e1 + 2 * (e2 * H)) := by grind
  have hneg : In (-mOf t) 1 := ⟨by have := hm.2; grind, by have := hm.1; grind⟩
  rcases s1 with ⟨k0, rfl, rfl, n1, n2⟩ | ⟨k0, rfl, rfl, n1, n2⟩ | ⟨k0, rfl, rfl, rfl, rfl⟩
  · rcases s2 with ⟨k2, rfl, rfl, q1, q2⟩ | ⟨k2, _⟩ | ⟨k2, _⟩
    · exact ⟨pr_row hm h.p0 h.p2 n1 q1 q2 ha.b0 ha.b2 he, pr_row hm h.p1 h.p3 n2 q1 q2 ha.b1 ha.b3 he, h.p2.weak hw, h.p3.weak hw⟩
    · rw [k0] at k2; exact absurd k2 (by decide)
    · rw [k0] at k2; exact absurd k2 (by decide)
  · rcases s2 with ⟨k2, _⟩ | ⟨k2, rfl, rfl, q1, q2⟩ | ⟨k2, _⟩
    · rw [k0] at k2; exact absurd k2 (by decide)
    · have f : ∀ {x y z e : Rat}, In (z - (x - mOf t * y)) e → In (z - (x + -mOf t * y)) e := fun {x y z e} hh => by
        rw [show x + -mOf t * y = x - mOf t * y by grind]; exact hh
      exact ⟨h.p0.weak hw, h.p1.weak hw, pr_row hneg h.p2 h.p0 (f n1) (f q1) (f q2) ha.b0 ha.b2 he, pr_row hneg h.p3 h.p1 (f n2) (f q1) (f q2) ha.b1 ha.b3 he⟩
    · rw [k0] at k2; exact absurd k2 (by decide)
  · rcases s2 with ⟨k2, _⟩ | ⟨k2, _⟩ | ⟨k2, rfl, rfl, rfl, rfl⟩
    · rw [k0] at k2; exact absurd k2 (by decide)
    · rw [k0] at k2; exact absurd k2 (by decide)
    · exact ⟨h.p0.weak hw, h.p1.weak hw, h.p2.weak hw, h.p3.weak hw⟩
def pF (cut : Nat) : Nat → Rat
  | 0 => 0
  | j + 1 => 2 * pF cut j + (P2 (cut + j) / 4194304 + 2 * (P2 j / 4194304 * P2 cut))
theorem pF_tab : ((List.range 5).all fun c => (List.range 5).all fun j => decide (4 < c + j) || decide (0 ≤ pF c j ∧ pF c j ≤ 96/4194304)) = true := by decide +kernel
theorem pF_le {c j : Nat} (h : c + j ≤ 4) : 0 ≤ pF c j ∧ pF c j ≤ 96/4194304 := by
  have h1 := List.all_eq_true.1 pF_tab c (List.mem_range.2 (by omega))
  have h2 := List.all_eq_true.1 h1 j (List.mem_range.2 (by omega))
  rw [Bool.or_eq_true, decide_eq_true_eq, decide_eq_true_eq] at h2
  rcases h2 with h2 | h2
  · omega
  · exact h2
theorem two_mx {ts : List El} (hd : ∀ t ∈ ts, DrE t) (hl : ts.length ≤ 4) {cut : Nat} (hc : cut ≤ ts.length) {a0 a1 a2 a3 : Rat} (hA : Mx (lineM ts cut) a0 a1 a2 a3) (hAb : Mb (P2 cut) a0 a1 a2 a3) :
    ∀ j, cut + j ≤ ts.length → ∃ m0 m1 m2 m3 b0 b1 b2 b3, Mx (lineM ts (cut + j)) m0 m1 m2 m3 ∧ Mb (P2 (cut + j)) m0 m1 m2 m3 ∧ Mx (lineM (ts.drop cut) j) b0 b1 b2 b3 ∧ Mb (P2 j) b0 b1 b2 b3 ∧ Pr (pF cut j) m0 m1 m2 m3 b0 b1 b2 b3 a0 a1 a2 a3 := by
  intro j
  induction j with
  | zero =>
    intro _
    refine ⟨a0, a1, a2, a3, 1, 0, 0, 1, hA, hAb, ⟨rw_one, rw_nil, rw_nil, rw_one⟩, by rw [P2_0]; exact ⟨⟨by decide, by decide⟩, ⟨by decide, by decide⟩, ⟨by decide, by decide⟩, ⟨by decide, by decide⟩⟩, ?_⟩
    have e : pF cut 0 = 0 := rfl
    rw [e]
    refine ⟨⟨?_, ?_⟩, ⟨?_, ?_⟩, ⟨?_, ?_⟩, ⟨?_, ?_⟩⟩ <;> grind
  | succ j ih =>
    intro hj
    obtain ⟨m0, m1, m2, m3, b0, b1, b2, b3, hM, hMb, hB, hBb, hP⟩ := ih (by omega)
    have hlt : cut + j < ts.length := by omega
    have hltd : j < (ts.drop cut).length := by rw [List.length_drop]; omega
    have hD := hd _ (List.getElem_mem hlt)
    obtain ⟨m0', m1', m2', m3', hM', hMb', s1⟩ := mx_step hD (by omega) hM hMb
    obtain ⟨b0', b1', b2', b3', hB', hBb', s2⟩ := mx_step hD (by omega) hB hBb
    have p1 := P2_pos (cut + j); have p2 := P2_pos j; have p3 := P2_pos cut
    have hst := pr_step hD.par.1 hP hAb (by grind) (by grind) (pF_le (by omega)).1 (by grind) s1 s2
    rw [show cut + (j + 1) = cut + j + 1 by omega, lineM_succ hlt, lineM_succ hltd, List.getElem_drop]
    exact ⟨_, _, _, _, _, _, _, _, hM', hMb', hB', hBb', hst⟩
/-- A product as it is computed. -/
theorem prod_row {x y u v X Y U W : Rat} {p q r s : Nat} {c j : Nat} (hcj : c + j ≤ 4) (h1 : Rw p X) (h2 : Rw q Y) (h3 : Rw r U) (h4 : Rw s W) (b1 : In X (P2 j)) (b2 : In Y (P2 c)) (b3 : In U (P2 j)) (b4 : In W (P2 c)) :
    ∃ Z, Rw (fop .add .f32 (fop .mul .f32 p q) (fop .mul .f32 r s)) Z ∧ In (Z - (X * Y + U * W)) (1/262144) := by
  have e4 : P2 4 = 16 := by decide +kernel
  have e5 : P2 5 = 32 := by decide +kernel
  have hp := P2_pos j
  have hle : P2 j * P2 c ≤ 16 := by
    rw [← P2_add]
    have t : ((List.range 5).all fun n => decide (P2 n ≤ 16)) = true := by decide +kernel
    exact of_decide_eq_true (List.all_eq_true.1 t (j + c) (List.mem_range.2 (by omega)))
  have u1 := (b1.mul2 b2 (by grind)).weak hle
  have u2 := (b3.mul2 b4 (by grind)).weak hle
  obtain ⟨f, hf, ⟨f1, f2⟩, f3, f4⟩ := Rw.mul 4 (by decide) h1 h2 (by rw [e4]; exact u1.2) (by rw [e4]; exact u1.1)
  obtain ⟨g, hg, ⟨g1, g2⟩, g3, g4⟩ := Rw.mul 4 (by decide) h3 h4 (by rw [e4]; exact u2.2) (by rw [e4]; exact u2.1)
  rw [e4] at f1 f2 f3 f4 g1 g2 g3 g4
  obtain ⟨z, hz, ⟨z1, z2⟩, z3, z4⟩ := Rw.add 5 (by decide) hf hg (by rw [e5]; grind) (by rw [e5]; grind)
  rw [e5] at z1 z2
  exact ⟨z, hz, by grind, by grind⟩
end Go.Proofs.Ytpnmledanloboaa
