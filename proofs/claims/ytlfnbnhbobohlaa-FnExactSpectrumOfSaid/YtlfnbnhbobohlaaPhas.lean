/-
  Phasors: quarters of turns as plain functions; conversions of complex numbers; contracts.
-/
import Derived.Test.YtlfnbnhbobohlaaSine
import Derived.Test.YtlfnbnhbobohlaaRoot
import Derived.Laws.Cover3
import Derived.Test.YtlfnbnhbobohlaaCw
namespace Go.Fl
open Ieee

theorem near_le (s : Bool) {m r : Nat} {p : Int} (h : m * 2 ^ (p + 1074).toNat ≤ V FloatKind.f64.format r * 2 ^ (-1074 - p).toNat) : rung FloatKind.f64.format (FloatKind.f64.format.nearest s m p) ≤ r := by
  rw [nearest_rung]
  by_cases h0 : m = 0
  · rw [if_pos h0]; exact Nat.zero_le _
  · rw [if_neg h0]
    have hle := rnd_le FloatKind.f64.format s (r := r) h0 (by
      rw [lp64, show p - (-1074) = p + 1074 by omega]
      exact h)
    exact Nat.le_trans (Nat.min_le_left _ _) hle

/-- The difference of two numbers without a sign, the second of which is not greater. -/
theorem sub_le {x y r : Nat} (hx : rung FloatKind.f64.format x < FloatKind.f64.format.infRung) (hy : rung FloatKind.f64.format y < FloatKind.f64.format.infRung)
    (nx : neg FloatKind.f64.format x = false) (ny : neg FloatKind.f64.format y = false) (hyx : V FloatKind.f64.format (rung FloatKind.f64.format y) ≤ V FloatKind.f64.format (rung FloatKind.f64.format x))
    (h : V FloatKind.f64.format (rung FloatKind.f64.format x) ≤ V FloatKind.f64.format r + V FloatKind.f64.format (rung FloatKind.f64.format y)) : rung FloatKind.f64.format (fop .sub .f64 x y) ≤ r := by
  obtain ⟨s, m, u, e1, _, hs, h1⟩ := read_bd (E := 2098) ⟨hx, by rw [top64]; exact V_le _ (Nat.le_of_lt hx)⟩
  obtain ⟨t, n, v, e2, _, ht, h2⟩ := read_bd (E := 2098) ⟨hy, by rw [top64]; exact V_le _ (Nat.le_of_lt hy)⟩
  rw [nx] at hs
  rw [ny] at ht
  subst hs ht
  rw [← h1, ← h2] at hyx h
  unfold fop floatBits Format.sub
  rw [e1, e2]
  unfold Datum.opposite Datum.sum
  dsimp only
  rw [Option.map_some]
  dsimp only
  unfold Format.write
  dsimp only
  have f1 : ((-1074 : Int) + (u : Int) - min (-1074 + (u : Int)) (-1074 + (v : Int))).toNat = u - min u v := by omega
  have f2 : ((-1074 : Int) + (v : Int) - min (-1074 + (u : Int)) (-1074 + (v : Int))).toNat = v - min u v := by omega
  rw [f1, f2]
  refine near_le _ ?_
  have e3 : (min (-1074 + (u : Int)) (-1074 + (v : Int)) + 1074).toNat = min u v := by omega
  have e4 : (-1074 - min (-1074 + (u : Int)) (-1074 + (v : Int))).toNat = 0 := by omega
  rw [e3, e4, Nat.pow_zero, Nat.mul_one]
  have g1 : signed false m (u - min u v) = ((m * 2 ^ (u - min u v) : Nat) : Int) := by unfold signed; simp [Nat.shiftLeft_eq]
  have g2 : signed (!false) n (v - min u v) = -((n * 2 ^ (v - min u v) : Nat) : Int) := by unfold signed; simp [Nat.shiftLeft_eq]
  rw [g1, g2]
  have k1 : m * 2 ^ u = m * 2 ^ (u - min u v) * 2 ^ min u v := by
    rw [Nat.mul_assoc, ← Nat.pow_add, show u - min u v + min u v = u by omega]
  have k2 : n * 2 ^ v = n * 2 ^ (v - min u v) * 2 ^ min u v := by
    rw [Nat.mul_assoc, ← Nat.pow_add, show v - min u v + min u v = v by omega]
  rw [k1, k2] at hyx h
  generalize m * 2 ^ (u - min u v) = A at *
  generalize n * 2 ^ (v - min u v) = B at *
  have hBA : B ≤ A := Nat.le_of_mul_le_mul_right hyx (Nat.two_pow_pos _)
  have k3 : ((A : Int) + -(B : Int)).natAbs = A - B := by omega
  rw [k3, Nat.sub_mul]
  omega

def quar (F : Nat) : Nat → Nat
  | 0 => F
  | j + 1 => fop .sub .f64 (quar F j) 4598175219545276416
structure QStop (F j : Nat) : Prop where
  a : ∀ i, i < j → fcmp .geq .f64 (quar F i) 4598175219545276416 = true
  b : fcmp .geq .f64 (quar F j) 4598175219545276416 = false
theorem QStop.one {F a b : Nat} (h : QStop F a) (k : QStop F b) : a = b := by
  rcases Nat.lt_trichotomy a b with l | l | l
  · have := k.a a l; rw [h.b] at this; exact absurd this (by decide)
  · exact l
  · have := h.a b l; rw [k.b] at this; exact absurd this (by decide)

theorem quart_V : V FloatKind.f64.format (rung FloatKind.f64.format 4598175219545276416) = p2 1072 := by decide +kernel
theorem quart_fin : rung FloatKind.f64.format 4598175219545276416 < FloatKind.f64.format.infRung := by decide

theorem geq_quart {x E : Nat} (hb : Bd x E) (hg : fcmp .geq .f64 x 4598175219545276416 = true) : neg FloatKind.f64.format x = false ∧ p2 1072 ≤ V FloatKind.f64.format (rung FloatKind.f64.format x) := by
  rw [fcmp_geq .f64 hb.nan (by decide), show key FloatKind.f64.format 4598175219545276416 = ((rung FloatKind.f64.format 4598175219545276416 : Nat) : Int) by decide] at hg
  have h1 := of_decide_eq_true hg
  have hp : 0 < rung FloatKind.f64.format 4598175219545276416 := by decide
  have hn : neg FloatKind.f64.format x = false := by
    cases h : neg FloatKind.f64.format x
    · rfl
    · unfold key at h1; rw [h] at h1; simp only [if_true] at h1; omega
  refine ⟨hn, ?_⟩
  rw [← quart_V]
  refine V_le _ ?_
  unfold key at h1
  rw [hn] at h1
  simp only [Bool.false_eq_true, if_false] at h1
  omega

theorem small_rung (k : Nat) (hk : k ≤ 8) : ∃ r, V FloatKind.f64.format r = k * p2 1072 := by
  have hl : k.log2 ≤ FloatKind.f64.format.fractionBits := by
    have h2 : FloatKind.f64.format.fractionBits = 52 := rfl
    rcases Nat.eq_zero_or_pos k with h0 | h0
    · rw [h0]; decide
    · have h1 := (Nat.log2_lt (k := 4) (by omega : k ≠ 0)).2 (by omega)
      omega
  obtain ⟨r, hr⟩ := exact_rung FloatKind.f64.format k 1072 hl
  exact ⟨r, by rw [hr, p2_eq]⟩

theorem p2_8 (n : Nat) : p2 (3 + n) = 8 * p2 n := by rw [p2_add]; rfl
theorem p2_75 : p2 1075 = 8 * p2 1072 := p2_8 1072

theorem quar_step {x k : Nat} (hb : Bd x 1075) (hg : fcmp .geq .f64 x 4598175219545276416 = true) (hV : V FloatKind.f64.format (rung FloatKind.f64.format x) ≤ (k + 1) * p2 1072) (hk : k ≤ 8) :
    Bd (fop .sub .f64 x 4598175219545276416) 1075 ∧ V FloatKind.f64.format (rung FloatKind.f64.format (fop .sub .f64 x 4598175219545276416)) ≤ k * p2 1072 := by
  obtain ⟨hn, hge⟩ := geq_quart hb hg
  obtain ⟨r, hr⟩ := small_rung k hk
  have hle := sub_le (r := r) hb.1 quart_fin hn (by decide) (by rw [quart_V]; exact hge) (by rw [quart_V, hr]; rw [Nat.add_mul, Nat.one_mul] at hV; exact hV)
  have hV2 := V_le FloatKind.f64.format hle
  rw [hr] at hV2
  refine ⟨⟨(hb.sub (show Bd 4598175219545276416 1075 from ⟨quart_fin, by rw [quart_V]; exact p2_le (by decide)⟩) (by decide)).1, Nat.le_trans hV2 ?_⟩, hV2⟩
  rw [p2_75]
  exact Nat.mul_le_mul_right _ hk

theorem quar_bd {F : Nat} (hb : Bd F 1075) : ∀ j, (∀ i, i < j → fcmp .geq .f64 (quar F i) 4598175219545276416 = true) → j ≤ 8 ∧ Bd (quar F j) 1075 ∧ V FloatKind.f64.format (rung FloatKind.f64.format (quar F j)) ≤ (8 - j) * p2 1072
  | 0, _ => ⟨by omega, hb, by
      have := hb.2
      rw [p2_75] at this
      rw [Nat.sub_zero]
      exact this⟩
  | j + 1, h => by
    obtain ⟨h1, h2, h3⟩ := quar_bd hb j (fun i hi => h i (by omega))
    have hg := h j (by omega)
    have hlt : j < 8 := by
      refine Nat.lt_of_le_of_ne h1 fun e => ?_
      subst e
      have := (geq_quart h2 hg).2
      have hp := p2_pos 1072
      simp only [Nat.sub_self, Nat.zero_mul] at h3
      omega
    have h4 := quar_step (k := 7 - j) h2 hg (by rw [show 7 - j + 1 = 8 - j by omega]; exact h3) (by omega)
    refine ⟨by omega, h4.1, ?_⟩
    rw [show 8 - (j + 1) = 7 - j by omega]
    exact h4.2

theorem quart_bd2 : Bd 4598175219545276416 1075 := ⟨quart_fin, by rw [quart_V]; exact p2_le (by decide)⟩
theorem Bd.short {x E : Nat} (h : Bd x E) (hE : E < 1126) : short x := ⟨h.1, Nat.lt_of_le_of_lt h.2 (p2_lt hE)⟩
theorem short.fin {x : Nat} (h : short x) : fin .f64 x = true := decide_eq_true h.1
theorem short.long {x : Nat} (h : short x) : longB x = false := by
  rw [long_iff h.bd.nan]
  exact decide_eq_false (by have := h.2; omega)

def tqR (j C S : Nat) : Nat := if j = 1 then fop .sub .f64 0 S else if j = 2 then fop .sub .f64 0 C else if j = 3 then S else C
def tqI (j C S : Nat) : Nat := if j = 1 then C else if j = 2 then fop .sub .f64 0 S else if j = 3 then fop .sub .f64 0 C else S
theorem zero_bd2 : Bd 0 1184 := bd_of (by decide) (by decide +kernel)
theorem sineW_bd {Y : Nat} (h : short Y) : Bd (sineW Y) 1184 := sineF_bd (partT_bd h) (fop_lt ..)
theorem tq_bd {j C S : Nat} (hC : Bd C 1184) (hS : Bd S 1184) : Bd (tqR j C S) 1185 ∧ Bd (tqI j C S) 1185 := by
  have h1 := zero_bd2.sub hS (by decide)
  have h2 := zero_bd2.sub hC (by decide)
  have h3 := hC.mono (show 1184 ≤ 1185 by decide)
  have h4 := hS.mono (show 1184 ≤ 1185 by decide)
  unfold tqR tqI
  constructor
  · (repeat' split) <;> assumption
  · (repeat' split) <;> assumption
end Go.Fl
