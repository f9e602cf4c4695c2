/-
  Lines of drifts, lenses and kicks in fractions: what a ray's place and slope are, nearly; the line back.
-/
import Derived.Test.YtpnmledanloboaaRw
import Derived.Test.YtpnmledanloboaaB9r
namespace Go.Proofs.Ytpnmledanloboaa
open Go.Fl Go.RowKit
set_option linter.unusedSimpArgs false
set_option linter.unusedVariables false

/-- a is at most c away from 0. -/
def In (a c : Rat) : Prop := a ≤ c ∧ -c ≤ a
theorem In.mul {m y c : Rat} (hm : In m 1) (hy : In y c) : In (m * y) c := by
  obtain ⟨m1, m2⟩ := hm
  obtain ⟨y1, y2⟩ := hy
  have a1 := Rat.mul_nonneg (show 0 ≤ 1 - m by grind) (show 0 ≤ c - y by grind)
  have a2 := Rat.mul_nonneg (show 0 ≤ 1 - m by grind) (show 0 ≤ c + y by grind)
  have a3 := Rat.mul_nonneg (show 0 ≤ 1 + m by grind) (show 0 ≤ c - y by grind)
  have a4 := Rat.mul_nonneg (show 0 ≤ 1 + m by grind) (show 0 ≤ c + y by grind)
  constructor <;> grind
theorem P2_6 : P2 6 = 64 := by decide +kernel
/-- The element t has the part m: the length of a drift, one over that of a lens, the angle of a kick. -/
def Par (t : El) (m : Rat) : Prop := In m 1 ∧ plainE t ∧ (t.k ≠ 1 → Rw t.N m) ∧ (t.k = 1 → ∃ b B, Rw t.N b ∧ 1 ≤ B ∧ (b = B ∨ b = -B) ∧ m * b = 1)
/-- Where the element takes a ray. -/
def TX (k : Int) (m X Y : Rat) : Rat := if k = 0 then X + m * Y else X
def TY (k : Int) (m X Y : Rat) : Rat := if k = 0 then Y else if k = 1 then Y - m * X else Y + m
theorem quo_near {c b B X m : Rat} (hB : 1 ≤ B) (hb : b = B ∨ b = -B) (hm : m * b = 1) (h1 : c * b ≤ X + 64 / 8388608 * B) (h2 : X ≤ c * b + 64 / 8388608 * B) : In (c - m * X) (1/131072) := by
  have hB0 : 0 < B := by grind
  rcases hb with rfl | rfl
  · have e : (m * X) * b = X := by grind
    have u1 : c * b ≤ (m * X + 1/131072) * b := by grind
    have u2 : (m * X) * b ≤ (c + 1/131072) * b := by grind
    have v1 := mul_cancel hB0 u1
    have v2 := mul_cancel hB0 u2
    constructor <;> grind
  · have e : (m * X) * B = -X := by grind
    have u1 : (m * X) * B ≤ (c + 1/131072) * B := by grind
    have u2 : c * B ≤ (m * X + 1/131072) * B := by grind
    have v1 := mul_cancel hB0 u1
    have v2 := mul_cancel hB0 u2
    constructor <;> grind
/-- One part: its answer is off by at most 3 times 2 to the power of -18. -/
theorem pass_near {t : El} {m X Y : Rat} {R : Ry} (hp : Par t m) (hx : Rw R.x X) (hy : Rw R.y Y) (bx : In X 20) (by' : In Y 20) :
    ∃ X' Y', Rw (passE t R).x X' ∧ Rw (passE t R).y Y' ∧ In (X' - TX t.k m X Y) (3/262144) ∧ In (Y' - TY t.k m X Y) (3/262144) := by
  obtain ⟨hm, hk, hn, hl⟩ := hp
  obtain ⟨x1, x2⟩ := bx
  obtain ⟨y1, y2⟩ := by'
  have hmy := hm.mul ⟨y1, y2⟩
  have hmx := hm.mul ⟨x1, x2⟩
  unfold passE TX TY
  by_cases k0 : t.k = 0
  · have hN := hn (by rw [k0]; decide)
    obtain ⟨c, hc, ⟨c1, c2⟩, c3, c4⟩ := Rw.mul 6 (by decide) hN hy (by rw [P2_6]; have := hmy.2; grind) (by rw [P2_6]; have := hmy.1; grind)
    rw [P2_6] at c1 c2
    have b1 := hmy.1; have b2 := hmy.2
    obtain ⟨d, hd, ⟨d1, d2⟩, d3, d4⟩ := Rw.add 6 (by decide) hx hc (by rw [P2_6]; grind) (by rw [P2_6]; grind)
    rw [P2_6] at d1 d2
    rw [if_pos k0, if_pos k0, if_pos k0]
    refine ⟨d, Y, hd, hy, ⟨?_, ?_⟩, ⟨?_, ?_⟩⟩ <;> grind
  · by_cases k1 : t.k = 1
    · obtain ⟨b, B, hb, hB, hbB, hmb⟩ := hl k1
      obtain ⟨c, hc, ⟨c1, c2⟩, c3, c4⟩ := Rw.quo (A := 20) 6 (by decide) hx hb (by grind) hbB ⟨x1, x2⟩ (by rw [P2_6]; grind)
      rw [P2_6] at c1 c2
      have hq := quo_near hB hbB hmb c1 c2
      obtain ⟨q1, q2⟩ := hq
      have b1 := hmx.1; have b2 := hmx.2
      obtain ⟨d, hd, ⟨d1, d2⟩, d3, d4⟩ := Rw.sub 6 (by decide) hy hc (by rw [P2_6]; grind) (by rw [P2_6]; grind)
      rw [P2_6] at d1 d2
      rw [if_neg k0, if_pos k1, if_neg k0, if_neg k0, if_pos k1]
      refine ⟨X, d, hx, hd, ⟨?_, ?_⟩, ⟨?_, ?_⟩⟩ <;> grind
    · have hN := hn k1
      obtain ⟨m1, m2⟩ := hm
      obtain ⟨d, hd, ⟨d1, d2⟩, d3, d4⟩ := Rw.add 6 (by decide) hy hN (by rw [P2_6]; grind) (by rw [P2_6]; grind)
      rw [P2_6] at d1 d2
      rw [if_neg k0, if_neg k1, if_neg k0, if_neg k0, if_neg k1]
      refine ⟨X, d, hx, hd, ⟨?_, ?_⟩, ⟨?_, ?_⟩⟩ <;> grind
/-- What is near stays near, by at most twice as much. -/
theorem T_near {k : Int} {m X Y X2 Y2 d : Rat} (hm : In m 1) (h1 : In (X2 - X) d) (h2 : In (Y2 - Y) d) : In (TX k m X2 Y2 - TX k m X Y) (2 * d) ∧ In (TY k m X2 Y2 - TY k m X Y) (2 * d) := by
  have a := hm.mul h1
  have b := hm.mul h2
  obtain ⟨h11, h12⟩ := h1
  obtain ⟨h21, h22⟩ := h2
  obtain ⟨a1, a2⟩ := a
  obtain ⟨b1, b2⟩ := b
  unfold TX TY
  split
  · refine ⟨⟨?_, ?_⟩, ⟨?_, ?_⟩⟩ <;> grind
  · split
    · refine ⟨⟨?_, ?_⟩, ⟨?_, ?_⟩⟩ <;> grind
    · refine ⟨⟨?_, ?_⟩, ⟨?_, ?_⟩⟩ <;> grind
/-- The part back leads back. -/
theorem T_back (k : Int) (m X Y : Rat) : TX k (-m) (TX k m X Y) (TY k m X Y) = X ∧ TY k (-m) (TX k m X Y) (TY k m X Y) = Y := by
  unfold TX TY
  by_cases h : k = 0
  · simp only [h, if_true]; constructor <;> grind
  · by_cases h1 : k = 1
    · simp only [h, h1, if_true, if_false]; constructor <;> grind
    · simp only [h, h1, if_false]; constructor <;> grind
/-- It grows at most twice. -/
theorem T_in {k : Int} {m X Y c : Rat} (hm : In m 1) (hc : 1 ≤ c) (h1 : In X c) (h2 : In Y c) : In (TX k m X Y) (2 * c) ∧ In (TY k m X Y) (2 * c) := by
  have a := hm.mul h1
  have b := hm.mul h2
  obtain ⟨h11, h12⟩ := h1
  obtain ⟨h21, h22⟩ := h2
  obtain ⟨a1, a2⟩ := a
  obtain ⟨b1, b2⟩ := b
  obtain ⟨m1, m2⟩ := hm
  unfold TX TY
  split
  · refine ⟨⟨?_, ?_⟩, ⟨?_, ?_⟩⟩ <;> grind
  · split
    · refine ⟨⟨?_, ?_⟩, ⟨?_, ?_⟩⟩ <;> grind
    · refine ⟨⟨?_, ?_⟩, ⟨?_, ?_⟩⟩ <;> grind

/-! ### what is drawn -/
/-- A 32-bit number as a fraction. -/
def VV (x : Nat) : Rat := ((sv FloatKind.f32.format x : Int) : Rat) / P2 149
theorem rw_vv {x : Nat} {a : Rat} (h : Rw x a) : a = VV x := by
  have hT := P2_pos 149
  unfold VV
  rw [h.2]
  have e : a * P2 149 / P2 149 * P2 149 = a * P2 149 := Rat.div_mul_cancel (fun h0 => by rw [h0] at hT; exact absurd hT (by decide))
  have h1 := mul_cancel hT (show a * P2 149 ≤ a * P2 149 / P2 149 * P2 149 by rw [e]; exact Rat.le_refl)
  have h2 := mul_cancel hT (show a * P2 149 / P2 149 * P2 149 ≤ a * P2 149 by rw [e]; exact Rat.le_refl)
  exact Rat.le_antisymm h1 h2
theorem rw_self {x : Nat} {a : Rat} (h : Rw x a) : Rw x (VV x) := rw_vv h ▸ h
/-- A number in quarters, in eighths. -/
def q4 (x : Nat) : Int := sv FloatKind.f32.format x / ((p2 147 : Nat) : Int)
def q8 (x : Nat) : Int := sv FloatKind.f32.format x / ((p2 146 : Nat) : Int)
theorem q4_tab : ∀ x ∈ QS2 ++ LS2, rung FloatKind.f32.format x < FloatKind.f32.format.infRung ∧ sv FloatKind.f32.format x = q4 x * ((p2 147 : Nat) : Int) ∧ q4 (Op.negFloat .f32 x) = -q4 x ∧ (Op.negFloat .f32 x) ∈ QS2 ++ LS2 := by decide +kernel
theorem q4_q : ∀ x ∈ QS2, -4 ≤ q4 x ∧ q4 x ≤ 4 := by decide +kernel
theorem q4_l : ∀ x ∈ LS2, (4 ≤ q4 x ∧ q4 x ≤ 14) ∨ (-14 ≤ q4 x ∧ q4 x ≤ -4) := by decide +kernel
theorem q8_tab : ∀ x ∈ XS, rung FloatKind.f32.format x < FloatKind.f32.format.infRung ∧ sv FloatKind.f32.format x = q8 x * ((p2 146 : Nat) : Int) ∧ -8 ≤ q8 x ∧ q8 x ≤ 8 := by decide +kernel
theorem q4_rw {x : Nat} (h : x ∈ QS2 ++ LS2) : Rw x ((q4 x : Rat) / 4) := by
  obtain ⟨h1, h2, _⟩ := q4_tab x h
  refine ⟨h1, ?_⟩
  rw [h2, Rat.intCast_mul, show (((p2 147 : Nat) : Int) : Rat) = P2 147 from rfl, show (149 : Nat) = 147 + 2 from rfl, P2_add, show P2 2 = 4 by decide +kernel]
  generalize P2 147 = T
  generalize ((q4 x : Int) : Rat) = q
  grind
theorem q8_rw {x : Nat} (h : x ∈ XS) : Rw x ((q8 x : Rat) / 8) ∧ In ((q8 x : Rat) / 8) 1 := by
  obtain ⟨h1, h2, h3, h4⟩ := q8_tab x h
  have h3 : ((-8 : Int) : Rat) ≤ ((q8 x : Int) : Rat) := Rat.intCast_le_intCast.2 h3
  have h4 : ((q8 x : Int) : Rat) ≤ ((8 : Int) : Rat) := Rat.intCast_le_intCast.2 h4
  have e8 : ((8 : Int) : Rat) = 8 := rfl
  have em : ((-8 : Int) : Rat) = -8 := rfl
  rw [e8] at h4; rw [em] at h3
  refine ⟨⟨h1, ?_⟩, ⟨by grind, by grind⟩⟩
  rw [h2, Rat.intCast_mul, show (((p2 146 : Nat) : Int) : Rat) = P2 146 from rfl, show (149 : Nat) = 146 + 3 from rfl, P2_add, show P2 3 = 8 by decide +kernel]
  generalize P2 146 = T
  generalize ((q8 x : Int) : Rat) = q
  grind
/-- The part of an element that is drawn. -/
def mOf (t : El) : Rat := if t.k = 1 then 4 / (q4 t.n : Rat) else (q4 t.n : Rat) / 4
theorem rat_le {a b : Int} {x : Rat} (h : a ≤ b) (hx : x = ((b : Int) : Rat)) : ((a : Int) : Rat) ≤ x := by rw [hx]; exact Rat.intCast_le_intCast.2 h
theorem par_num {k : Int} {n p : Nat} (hk : plainE ⟨k, n, p⟩) (hn : n ∈ QS2 ++ LS2) (hq : k ≠ 1 → n ∈ QS2) (hl : k = 1 → n ∈ LS2) : Par ⟨k, n, p⟩ (mOf ⟨k, n, p⟩) := by
  have hN : El.N ⟨k, n, p⟩ = n := (q_lt n hn).2.2.2.1
  have hr := q4_rw hn
  unfold mOf
  by_cases h1 : k = 1
  · have hb := q4_l n (hl h1)
    simp only [h1, if_true]
    generalize hq4 : q4 n = q at *
    have hb2 : ((4 : Rat) ≤ (q : Rat) ∧ (q : Rat) ≤ 14) ∨ ((-14 : Rat) ≤ (q : Rat) ∧ (q : Rat) ≤ -4) := by
      rcases hb with ⟨a, b⟩ | ⟨a, b⟩
      · exact .inl ⟨Rat.intCast_le_intCast.2 a, Rat.intCast_le_intCast.2 b⟩
      · exact .inr ⟨Rat.intCast_le_intCast.2 a, Rat.intCast_le_intCast.2 b⟩
    generalize ((q : Int) : Rat) = Q at *
    have hQ0 : Q ≠ 0 := fun h0 => by rw [h0] at hb2; rcases hb2 with h | h; exact absurd h.1 (by decide); exact absurd h.2 (by decide)
    have e : 4 / Q * Q = 4 := Rat.div_mul_cancel hQ0
    generalize 4 / Q = m at *
    refine ⟨?_, .inr (.inl rfl), fun h => absurd rfl h, fun _ => ⟨Q / 4, if 0 < Q then Q / 4 else -(Q / 4), by rw [show El.N ⟨1, n, p⟩ = n from hN]; exact hr, ?_, ?_, by grind⟩⟩
    · rcases hb2 with ⟨a, b⟩ | ⟨a, b⟩
      · have hp : (0 : Rat) < Q := by grind
        constructor
        · exact mul_cancel hp (by grind)
        · exact mul_cancel hp (by grind)
      · have hp : (0 : Rat) < -Q := by grind
        constructor
        · exact mul_cancel hp (by grind)
        · exact mul_cancel hp (by grind)
    · split <;> grind
    · split <;> grind
  · have hb := q4_q n (hq h1)
    simp only [h1, if_false]
    have b1 : ((-4 : Int) : Rat) ≤ ((q4 n : Int) : Rat) := Rat.intCast_le_intCast.2 hb.1
    have b2 : ((q4 n : Int) : Rat) ≤ ((4 : Int) : Rat) := Rat.intCast_le_intCast.2 hb.2
    rw [show ((-4 : Int) : Rat) = -4 from rfl] at b1
    rw [show ((4 : Int) : Rat) = 4 from rfl] at b2
    exact ⟨⟨by grind, by grind⟩, hk, fun _ => by rw [hN]; exact hr, fun h => absurd h h1⟩
theorem DrE.par {t : El} (h : DrE t) : Par t (mOf t) := by
  obtain ⟨k, n, p⟩ := t
  refine par_num h.plain h.okb (fun h1 => ?_) (fun h1 => ?_)
  · rcases h.2 with g | g | g
    · exact List.mem_append_left _ g.2
    · exact absurd g.1 h1
    · exact g.2
  · rcases h.2 with g | g | g
    · exact absurd (g.1.symm.trans h1) (by decide)
    · exact g.2
    · exact absurd (g.1.symm.trans h1) (by decide)
theorem q_tab2 : ∀ x ∈ QS, Op.negFloat .f32 x ∈ QS2 := by decide +kernel
theorem q_tab3 : ∀ x ∈ QS2, Op.negFloat .f32 x ∈ QS2 := by decide +kernel
theorem l_tab3 : ∀ x ∈ LS2, Op.negFloat .f32 x ∈ LS2 := by decide +kernel
theorem DrE.back {t : El} (h : DrE t) : Par (backE t) (-mOf t) ∧ (backE t).k = t.k := by
  obtain ⟨k, n, p⟩ := t
  have hk2 : k ≠ 2 := by
    rcases h.2 with g | g | g <;> exact fun e => absurd (g.1.symm.trans e) (by decide)
  have hb : backE ⟨k, n, p⟩ = ⟨k, Op.negFloat .f32 n, p⟩ := by unfold backE; rw [if_neg (show ¬((⟨k, n, p⟩ : El).k = 2) from hk2)]
  rw [hb]
  refine ⟨?_, rfl⟩
  have ht := q4_tab n h.okb
  have hm : -mOf ⟨k, n, p⟩ = mOf ⟨k, Op.negFloat .f32 n, p⟩ := by
    unfold mOf
    show -(if k = 1 then _ else _) = if k = 1 then _ else _
    rw [show q4 (El.n ⟨k, Op.negFloat .f32 n, p⟩) = -q4 n from ht.2.2.1, show q4 (El.n ⟨k, n, p⟩) = q4 n from rfl, Rat.intCast_neg]
    split <;> grind
  rw [hm]
  refine par_num h.plain ht.2.2.2 (fun h1 => ?_) (fun h1 => ?_)
  · rcases h.2 with g | g | g
    · exact q_tab2 _ g.2
    · exact absurd g.1 h1
    · exact q_tab3 _ g.2
  · rcases h.2 with g | g | g
    · exact absurd (g.1.symm.trans h1) (by decide)
    · exact l_tab3 _ g.2
    · exact absurd (g.1.symm.trans h1) (by decide)
/-! ### the way there and back -/
def cF : Nat → Rat
  | 0 => 1
  | k + 1 => 2 * cF k + 1/10
theorem cF_le {k : Nat} (h : k ≤ 4) : 1 ≤ cF k ∧ cF k ≤ 18 := by
  have : k = 0 ∨ k = 1 ∨ k = 2 ∨ k = 3 ∨ k = 4 := by omega
  rcases this with rfl | rfl | rfl | rfl | rfl <;> decide +kernel
def eF : Nat → Rat
  | 0 => 0
  | k + 1 => 2 * eF k + 9/262144
theorem eF_le {k : Nat} (h : k ≤ 4) : 0 ≤ eF k ∧ eF k ≤ 135/262144 := by
  have : k = 0 ∨ k = 1 ∨ k = 2 ∨ k = 3 ∨ k = 4 := by omega
  rcases this with rfl | rfl | rfl | rfl | rfl <;> decide +kernel
/-- A ray stands for a place and a slope. -/
structure Sd (r : Ry) (X Y : Rat) : Prop where
  x : Rw r.x X
  y : Rw r.y Y
theorem Sd.uniq {r : Ry} {X Y X2 Y2 : Rat} (h : Sd r X Y) (k : Sd r X2 Y2) : X = X2 ∧ Y = Y2 := ⟨(rw_vv h.x).trans (rw_vv k.x).symm, (rw_vv h.y).trans (rw_vv k.y).symm⟩
theorem In.weak {a c d : Rat} (h : In a c) (hd : c ≤ d) : In a d := ⟨by have := h.1; grind, by have := h.2; grind⟩
theorem In.near {a b c d : Rat} (h : In (a - b) c) (k : In b d) : In a (d + c) := by
  obtain ⟨h1, h2⟩ := h; obtain ⟨k1, k2⟩ := k; constructor <;> grind
/-- One part further on. -/
theorem fwd_one {t : El} {m X Y c : Rat} {r : Ry} (hp : Par t m) (h : Sd r X Y) (bx : In X c) (by' : In Y c) (h1 : 1 ≤ c) (hc : c ≤ 20) :
    ∃ X' Y', Sd (passE t r) X' Y' ∧ In (X' - TX t.k m X Y) (3/262144) ∧ In (Y' - TY t.k m X Y) (3/262144) ∧ In X' (2 * c + 1/10) ∧ In Y' (2 * c + 1/10) := by
  obtain ⟨X', Y', hx, hy, n1, n2⟩ := pass_near hp h.x h.y (bx.weak hc) (by'.weak hc)
  obtain ⟨g1, g2⟩ := T_in (k := t.k) hp.1 h1 bx by'
  exact ⟨X', Y', ⟨hx, hy⟩, n1, n2, (n1.near g1).weak (by grind), (n2.near g2).weak (by grind)⟩
theorem fwd_all {ts : List El} (hd : ∀ t ∈ ts, DrE t) (hl : ts.length ≤ 4) {r : Ry} {X Y : Rat} (h : Sd r X Y) (bx : In X 1) (by' : In Y 1) :
    ∀ k, k ≤ ts.length → ∃ X' Y', Sd (passL ts r k) X' Y' ∧ In X' (cF k) ∧ In Y' (cF k) := by
  intro k
  induction k with
  | zero => intro _; exact ⟨X, Y, h, bx, by'⟩
  | succ k ih =>
    intro hk
    obtain ⟨X1, Y1, h1, b1, b2⟩ := ih (by omega)
    have hc := cF_le (k := k) (by omega)
    obtain ⟨X2, Y2, h2, _, _, b3, b4⟩ := fwd_one (hd _ (List.getElem_mem (show k < ts.length by omega))).par h1 b1 b2 hc.1 (by grind)
    rw [passL_step ts r (show k < ts.length by omega)]
    exact ⟨X2, Y2, h2, b3, b4⟩
/-- The line back leads back, nearly. -/
theorem home_near {ts : List El} (hd : ∀ t ∈ ts, DrE t) (hl : ts.length ≤ 4) {r : Ry} {X Y : Rat} (h : Sd r X Y) (bx : In X 1) (by' : In Y 1) :
    ∀ j, j ≤ ts.length → ∃ CX CY X' Y', Sd (passL (bkTo ts 0) (passL ts r ts.length) j) CX CY ∧ Sd (passL ts r (ts.length - j)) X' Y' ∧ In (CX - X') (eF j) ∧ In (CY - Y') (eF j) ∧ In X' (cF (ts.length - j)) ∧ In Y' (cF (ts.length - j)) := by
  intro j
  induction j with
  | zero =>
    intro _
    obtain ⟨X1, Y1, h1, b1, b2⟩ := fwd_all hd hl h bx by' ts.length (Nat.le_refl _)
    exact ⟨X1, Y1, X1, Y1, h1, h1, ⟨by show X1 - X1 ≤ 0; grind, by show -(0 : Rat) ≤ X1 - X1; grind⟩, ⟨by show Y1 - Y1 ≤ 0; grind, by show -(0 : Rat) ≤ Y1 - Y1; grind⟩, b1, b2⟩
  | succ j ih =>
    intro hj
    obtain ⟨CX, CY, X2, Y2, hC, hF, n1, n2, b1, b2⟩ := ih (by omega)
    have hlt : ts.length - (j + 1) < ts.length := by omega
    have hD := hd _ (List.getElem_mem hlt)
    obtain ⟨X1, Y1, h1, c1, c2⟩ := fwd_all hd hl h bx by' (ts.length - (j + 1)) (by omega)
    have hcF := cF_le (k := ts.length - (j + 1)) (by omega)
    have hcF2 := cF_le (k := ts.length - j) (by omega)
    have heF := eF_le (k := j) (by omega)
    obtain ⟨X3, Y3, h3, m1, m2, _, _⟩ := fwd_one hD.par h1 c1 c2 hcF.1 (by grind)
    have e1 : passL ts r (ts.length - j) = passE ts[ts.length - (j + 1)] (passL ts r (ts.length - (j + 1))) := by
      rw [← passL_step ts r hlt, show ts.length - (j + 1) + 1 = ts.length - j by omega]
    rw [e1] at hF
    obtain ⟨u1, u2⟩ := hF.uniq h3
    subst u1; subst u2
    have hlb : j < (bkTo ts 0).length := by rw [bkTo_size ts (Nat.zero_le _)]; omega
    have hg : (bkTo ts 0)[j] = backE ts[ts.length - (j + 1)] := by
      simp only [bkTo_zero, List.getElem_reverse, List.getElem_map, List.length_map]
      congr 2
      omega
    obtain ⟨hpb, hkb⟩ := hD.back
    obtain ⟨X4, Y4, g1, g2, p1, p2⟩ := pass_near hpb hC.x hC.y ((n1.near b1).weak (by grind)) ((n2.near b2).weak (by grind))
    rw [passL_step _ _ hlb, hg]
    rw [hkb] at p1 p2
    refine ⟨X4, Y4, X1, Y1, ⟨g1, g2⟩, h1, ?_, ?_, c1, c2⟩
    · have t1 := (T_near (k := ts[ts.length - (j + 1)].k) hpb.1 n1 n2).1
      have t2 := (T_near (k := ts[ts.length - (j + 1)].k) hpb.1 (m1.weak (Rat.le_refl)) m2).1
      rw [(T_back _ _ X1 Y1).1] at t2
      have e : eF (j + 1) = 2 * eF j + 9/262144 := rfl
      obtain ⟨a1, a2⟩ := p1; obtain ⟨a3, a4⟩ := t1; obtain ⟨a5, a6⟩ := t2
      constructor <;> grind
    · have t1 := (T_near (k := ts[ts.length - (j + 1)].k) hpb.1 n1 n2).2
      have t2 := (T_near (k := ts[ts.length - (j + 1)].k) hpb.1 m1 m2).2
      rw [(T_back _ _ X1 Y1).2] at t2
      have e : eF (j + 1) = 2 * eF j + 9/262144 := rfl
      obtain ⟨a1, a2⟩ := p2; obtain ⟨a3, a4⟩ := t1; obtain ⟨a5, a6⟩ := t2
      constructor <;> grind
end Go.Proofs.Ytpnmledanloboaa
