/-
  The length of a complex number, of the model.
-/
import Derived.Test.YtpnmledanloboaaRts
import Derived.Test.YtpnmledanloboaaRoot
import Derived.Test.YtpnmledanloboaaLnX
namespace Go.Proofs.Ytpnmledanloboaa
open Go.Fl Go.RowKit Ieee
set_option linter.unusedSimpArgs false
set_option linter.unusedVariables false

/-- The sum of the squares, in 64 bits. -/
def pw (X Y : Nat) : Nat := fop .add .f64 (fop .mul .f64 (wid X) (wid X)) (fop .mul .f64 (wid Y) (wid Y))
set_option maxHeartbeats 1000000 in
theorem sPowerW_any (x y X Y : Nat) (ix : Is .f32 x X) (iy : Is .f32 y Y) (w : World) : Calls Try.prog 122 #[.complex .f32 x y] w fun e w' => (∃ r, e = .returned (.float .f64 r) ∧ Is .f64 r (pw X Y)) ∧ ∃ n, w' = w.drewN n := by
  go_enter Try.func122, Try.ntmps122
  go_wp2_with (first | (apply wpList_wid; rfl; rfl; (first | with_reducible assumption | exact Is.const rfl); exact U32; exact U64; intro r n hr) | (apply wpList_farith; rfl; rfl; rfl; rfl; (first | with_reducible assumption | exact Is.const rfl); (first | with_reducible assumption | exact Is.const rfl); intro r n hr))
  go_ret
  exact ⟨⟨_, rfl, by assumption⟩, _, rfl⟩
set_option maxHeartbeats 1000000 in
theorem sLongOf_any (x y X Y : Nat) (ix : Is .f32 x X) (iy : Is .f32 y Y) (hf : fits (fsqrt (pw X Y))) (w : World) : Calls Try.prog 54 #[.complex .f32 x y] w fun e w' => (∃ r, e = .returned (.float .f32 r) ∧ Is .f32 r (nar (fsqrt (pw X Y)))) ∧ Below w.heap.size w w' := by
  have HF := Lib.hid hf
  clear hf
  have hl : ∀ w : World, Calls Try.prog 93 #[.complex .f32 x y] w fun e w' => (∃ r, e = .returned (.float .f32 r) ∧ Is .f32 r (nar (fsqrt (pw X Y)))) ∧ Below w.heap.size w w' := by
    intro w
    go_enter Try.func93, Try.ntmps93
    go_wp2_with fail
    refine (sPowerW_any x y X Y ix iy _).mono ?_
    rintro e w1 ⟨⟨r, rfl, hr⟩, n1, rfl⟩
    go_wp2_with fail
    refine (sqrt_any r _ hr _).mono ?_
    rintro e w2 ⟨⟨r2, rfl, hr2⟩, n2, rfl⟩
    go_wp2_with fail
    refine (sNarrow_any r2 _ hr2 HF.out _).mono ?_
    rintro e w3 ⟨⟨r3, rfl, hr3⟩, n3, rfl⟩
    go_wp2_with fail
    go_ret
    refine ⟨⟨_, rfl, hr3⟩, ?_⟩
    first | exact below_drewN (below_drewN (below_drewN (Below.refl _ _) _) _) _ | exact below_drewN (below_drewN (Below.refl _ _) _) _ | exact below_drewN (Below.refl _ _) _
  go_enter Try.func54, Try.ntmps54
  go_wp2_with fail
  refine (hl _).mono ?_
  rintro e w1 ⟨⟨r, rfl, hr⟩, hb⟩
  have HB := Lib.hid hb
  go_wp2_with fail
  go_ret
  exact ⟨⟨_, rfl, hr⟩, HB.out⟩
set_option maxHeartbeats 1000000 in
theorem sLongD_any (x y X Y : Nat) (ix : Is .f32 x X) (iy : Is .f32 y Y) (hf : fits (fsqrt (pw X Y))) (w : World) : Calls Try.prog 54 #[.complex .f32 x y] w fun e w' => (∃ r, e = .returned (.float .f32 r) ∧ Is .f32 r (nar (fsqrt (pw X Y)))) ∧ ∃ n, w' = w.drewN n := by
  have HF := Lib.hid hf
  clear hf
  have hl : ∀ w : World, Calls Try.prog 93 #[.complex .f32 x y] w fun e w' => (∃ r, e = .returned (.float .f32 r) ∧ Is .f32 r (nar (fsqrt (pw X Y)))) ∧ ∃ n, w' = w.drewN n := by
    intro w
    go_enter Try.func93, Try.ntmps93
    go_wp2_with fail
    refine (sPowerW_any x y X Y ix iy _).mono ?_
    rintro e w1 ⟨⟨r, rfl, hr⟩, n1, rfl⟩
    go_wp2_with fail
    refine (sqrt_any r _ hr _).mono ?_
    rintro e w2 ⟨⟨r2, rfl, hr2⟩, n2, rfl⟩
    go_wp2_with fail
    refine (sNarrow_any r2 _ hr2 HF.out _).mono ?_
    rintro e w3 ⟨⟨r3, rfl, hr3⟩, n3, rfl⟩
    go_wp2_with fail
    go_ret
    exact ⟨⟨_, rfl, hr3⟩, _, rfl⟩
  go_enter Try.func54, Try.ntmps54
  go_wp2_with fail
  refine (hl _).mono ?_
  rintro e w1 ⟨⟨r, rfl, hr⟩, n, rfl⟩
  go_wp2_with fail
  go_ret
  exact ⟨⟨_, rfl, hr⟩, n, rfl⟩
/-- A 32-bit number, widened, as a fraction. -/
theorem wid_rv {x : Nat} {a : Rat} (h : Rw x a) : Rv (wid x) a := by
  obtain ⟨h1, h2, h3⟩ := wid_fin h.1
  refine ⟨h2, ?_⟩
  have e : sv FloatKind.f64.format (wid x) = sv FloatKind.f32.format x * ((p2 925 : Nat) : Int) := by
    unfold sv
    rw [h1, h3]
    split <;> simp [Int.natCast_mul, Int.neg_mul]
  rw [e, Rat.intCast_mul, h.2, show (((p2 1074 : Nat) : Int) : Rat) = P2 1074 from rfl, show (1074 : Nat) = 149 + 925 from rfl, P2_add, show (((p2 925 : Nat) : Int) : Rat) = P2 925 from rfl, Rat.mul_assoc]
theorem Rv_V {x : Nat} {a : Rat} (h : Rv x a) (hs : neg FloatKind.f64.format x = false) : (((V FloatKind.f64.format (rung FloatKind.f64.format x) : Nat) : Int) : Rat) = a * P2 1074 := by
  rw [show P2 1074 = (((p2 1074 : Nat) : Int) : Rat) from rfl, ← h.2]
  congr 1
  unfold sv
  rw [hs]; simp
/-- What the sum of the squares of two numbers that are less than 1 comes to. -/
theorem pw_rv {X Y : Nat} {a b : Rat} (hx : Rw X a) (hy : Rw Y b) (ia : In a 1) (ib : In b 1) : ∃ c, Rv (pw X Y) c ∧ c ≤ a * a + b * b + 3/1125899906842624 := by
  have ha := wid_rv hx
  have hb := wid_rv hy
  have u1 := ia.mul ia
  have u2 := ib.mul ib
  obtain ⟨u11, u12⟩ := u1; obtain ⟨u21, u22⟩ := u2
  obtain ⟨c, hc, c1, c2⟩ := Rv.mul ha ha (by grind) (by grind)
  obtain ⟨d, hd, d1, d2⟩ := Rv.mul hb hb (by grind) (by grind)
  obtain ⟨e, he, e1, e2⟩ := Rv.add hc hd (by grind) (by grind)
  exact ⟨e, he, by grind⟩
theorem neg_sq {x : Nat} (h : rung FloatKind.f64.format x < FloatKind.f64.format.infRung) : neg FloatKind.f64.format (fop .mul .f64 x x) = false := by
  obtain ⟨m, u, e1, _⟩ := read_any h
  have er : fop .mul .f64 x x = FloatKind.f64.format.nearest (neg FloatKind.f64.format x ^^ neg FloatKind.f64.format x) (m * m) (-1074 + (u : Int) + (-1074 + (u : Int))) := by
    unfold fop floatBits Format.mul
    rw [e1]
    rfl
  rw [er]
  refine (nearest_neg ..).trans (by simp)
theorem neg_sum {x y : Nat} (hx : rung FloatKind.f64.format x < FloatKind.f64.format.infRung) (hy : rung FloatKind.f64.format y < FloatKind.f64.format.infRung) (nx : neg FloatKind.f64.format x = false) (ny : neg FloatKind.f64.format y = false) : neg FloatKind.f64.format (fop .add .f64 x y) = false := by
  obtain ⟨m, u, e1, _⟩ := read_any hx
  obtain ⟨n, v, e2, _⟩ := read_any hy
  rw [nx] at e1; rw [ny] at e2
  have hp : ∀ (a b : Nat), 0 ≤ signed false a b := fun a b => by unfold signed; rw [if_neg (by decide)]; first | exact Int.natCast_nonneg _ | (rw [Int.shiftLeft_eq]; exact Int.mul_nonneg (Int.natCast_nonneg _) (Int.le_of_lt (Int.pow_pos (by decide)))) | (rw [← Int.natCast_shiftLeft]; exact Int.natCast_nonneg _)
  obtain ⟨q, hq⟩ : ∃ q, q = signed false m ((-1074 : Int) + (u : Int) - min (-1074 + (u : Int)) (-1074 + (v : Int))).toNat + signed false n ((-1074 : Int) + (v : Int) - min (-1074 + (u : Int)) (-1074 + (v : Int))).toNat := ⟨_, rfl⟩
  have hq0 : 0 ≤ q := by rw [hq]; exact Int.add_nonneg (hp _ _) (hp _ _)
  have er : fop .add .f64 x y = FloatKind.f64.format.nearest (if q = 0 then false && false else decide (q < 0)) q.natAbs (min (-1074 + (u : Int)) (-1074 + (v : Int))) := by
    unfold fop floatBits Format.add
    rw [e1, e2]
    unfold Datum.sum
    dsimp only
    rw [hq]
    rfl
  rw [er]
  refine (nearest_neg ..).trans ?_
  split
  · rfl
  · exact decide_eq_false (by omega)
theorem wid_b {x : Nat} {a : Rat} (h : Rw x a) (k : Nat) (hb : In a (P2 k)) : Bd (wid x) (1074 + k) := by
  obtain ⟨h1, h2, h3⟩ := wid_fin h.1
  refine ⟨h2, ?_⟩
  have hT := P2_pos 149
  have h4 : (sv FloatKind.f32.format x).natAbs ≤ p2 (k + 149) := by
    have e : (((p2 (k + 149) : Nat) : Int) : Rat) = P2 k * P2 149 := P2_add k 149
    refine le_of_rat ?_ ?_
    · rw [h.2, e]; exact mul_up hT hb.1
    · rw [h.2, e]
      have := mul_up hT hb.2
      generalize P2 149 = T at *
      grind
  rw [sv_abs] at h4
  rw [h3, show 1074 + k = k + 149 + 925 by omega, p2_add (k + 149)]
  exact Nat.mul_le_mul_right _ h4
theorem pw_bd {X Y : Nat} {a b : Rat} (hx : Rw X a) (hy : Rw Y b) (ia : In a 32) (ib : In b 32) : Bd (pw X Y) 1086 ∧ neg FloatKind.f64.format (pw X Y) = false := by
  have e5 : P2 5 = 32 := by decide +kernel
  have h1 := wid_b hx 5 (by rw [e5]; exact ia)
  have h2 := wid_b hy 5 (by rw [e5]; exact ib)
  have g1 := Bd.mul (G := 1084) h1 h1 (by decide) (by decide)
  have g2 := Bd.mul (G := 1084) h2 h2 (by decide) (by decide)
  exact ⟨(Bd.add g1 g2 (by decide)).mono (by decide), neg_sum g1.1 g2.1 (neg_sq h1.1) (neg_sq h2.1)⟩
/-- The length: a number, not less than 0. -/
theorem long_rw {X Y : Nat} {a b : Rat} (hx : Rw X a) (hy : Rw Y b) (ia : In a 32) (ib : In b 32) : fits (fsqrt (pw X Y)) ∧ ∃ c, Rw (nar (fsqrt (pw X Y))) c ∧ 0 ≤ c ∧ c ≤ 64 := by
  obtain ⟨hb, hs⟩ := pw_bd hx hy ia ib
  obtain ⟨h1, h2⟩ := Bd.root (K := 6) hb hs (by decide)
  refine ⟨h1.fits (by decide), ?_⟩
  obtain ⟨g1, g2⟩ := Bd.nar_le (k := 155) h1 (by decide)
  have g3 := (nar_neg9 h1).trans h2
  obtain ⟨c, hc⟩ := Rw.ex g1
  have e : (((V FloatKind.f32.format (rung FloatKind.f32.format (nar (fsqrt (pw X Y)))) : Nat) : Int) : Rat) = c * P2 149 := by
    rw [← hc.2]; congr 1; unfold sv; rw [g3]; simp
  have hT := P2_pos 149
  have h0 : (0 : Rat) ≤ (((V FloatKind.f32.format (rung FloatKind.f32.format (nar (fsqrt (pw X Y)))) : Nat) : Int) : Rat) := Rat.intCast_le_intCast.2 (Int.natCast_nonneg _)
  have h9 : (((V FloatKind.f32.format (rung FloatKind.f32.format (nar (fsqrt (pw X Y)))) : Nat) : Int) : Rat) ≤ P2 155 := Rat.intCast_le_intCast.2 (by have := g2; omega)
  rw [e] at h0 h9
  have eT : P2 155 = P2 149 * 64 := by rw [show (155 : Nat) = 149 + 6 from rfl, P2_add]; rfl
  refine ⟨c, hc, mul_cancel hT (by rw [Rat.zero_mul]; exact h0), mul_cancel hT ?_⟩
  rw [eT] at h9
  grind
/-- The length of what is small is at most 2 to the power of -10. -/
theorem long_small {X Y : Nat} {a b : Rat} (hx : Rw X a) (hy : Rw Y b) (ia : In a (180/262144)) (ib : In b (180/262144)) : ∃ c, Rw (nar (fsqrt (pw X Y))) c ∧ 0 ≤ c ∧ c ≤ 1/1024 := by
  obtain ⟨hb, hs⟩ := pw_bd hx hy (ia.weak (by grind)) (ib.weak (by grind))
  obtain ⟨c, hc, h1⟩ := pw_rv hx hy (ia.weak (by grind)) (ib.weak (by grind))
  have u1 := ia.mul2 ia (by grind)
  have u2 := ib.mul2 ib (by grind)
  have hle : c ≤ 1/1048576 := by have := u1.1; have := u2.1; grind
  refine root_nar ⟨hb.1, ?_⟩ hs
  have hV := Rv_V hc hs
  have hT := P2_pos 1054
  have eT : P2 1074 = P2 1054 * 1048576 := by rw [show (1074 : Nat) = 1054 + 20 from rfl, P2_add]; rfl
  refine nat_of_rat ?_
  rw [hV, show (((p2 1054 : Nat) : Int) : Rat) = P2 1054 from rfl, eT]
  have := mul_up hT hle
  grind
end Go.Proofs.Ytpnmledanloboaa
