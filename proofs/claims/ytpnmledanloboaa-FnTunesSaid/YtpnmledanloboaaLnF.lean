/-
  Gaps in 64 bits, as fractions.
  The comparisons of FnLines, by fractions.
-/
import Derived.Test.YtpnmledanloboaaB9a
import Derived.Test.YtpnmledanloboaaLgw
namespace Go.Proofs.Ytpnmledanloboaa
open Go.Fl Go.RowKit
set_option linter.unusedSimpArgs false
set_option linter.unusedVariables false

theorem rq_rv {x : Nat} {a : Rat} (h : Rq x a) : Rv x a := h
theorem rv_rq {x : Nat} {a : Rat} (h : Rv x a) : Rq x a := h
theorem wid_rq {x : Nat} {a : Rat} (h : Rw x a) : Rq (wid x) a := wid_rv h
/-- A gap is no greater than what the two numbers are apart, and a little. -/
theorem gap_rq {A B k : Nat} {a b e : Rat} (hk : k < 100) (ha : Rq A a) (hb : Rq B b) (h : In (a - b) e) (he : e ≤ P2 k) : ∃ c, Rq (gapW A B) c ∧ c ≤ e + P2 k / 9007199254740992 ∧ c ≤ P2 k := by
  obtain ⟨h1, h2⟩ := h
  unfold gapW
  split
  · obtain ⟨c, hc, ⟨c1, c2⟩, c3, c4⟩ := Rq.sub k hk hb ha (by grind) (by grind)
    exact ⟨c, hc, by grind, c3⟩
  · obtain ⟨c, hc, ⟨c1, c2⟩, c3, c4⟩ := Rq.sub k hk ha hb (by grind) (by grind)
    exact ⟨c, hc, by grind, c3⟩
/-- A gap is never much less than 0. -/
theorem gap_ge {A B k : Nat} {a b : Rat} (hk : k < 100) (ha : Rq A a) (hb : Rq B b) (h : In (a - b) (P2 k)) : ∃ c, Rq (gapW A B) c ∧ In c (P2 k) := by
  obtain ⟨h1, h2⟩ := h
  unfold gapW
  split
  · obtain ⟨c, hc, ⟨c1, c2⟩, c3, c4⟩ := Rq.sub k hk hb ha (by grind) (by grind)
    exact ⟨c, hc, c3, c4⟩
  · obtain ⟨c, hc, ⟨c1, c2⟩, c3, c4⟩ := Rq.sub k hk ha hb (by grind) (by grind)
    exact ⟨c, hc, c3, c4⟩
end Go.Proofs.Ytpnmledanloboaa
namespace Go.Proofs.Ytpnmledanloboaa
open Go.Fl Go.RowKit
set_option linter.unusedSimpArgs false
set_option linter.unusedVariables false

theorem rw_lt {x y : Nat} {a b : Rat} (hx : Rw x a) (hy : Rw y b) : key FloatKind.f32.format x < key FloatKind.f32.format y ↔ a < b := by
  rw [← sv_lt_iff, ← Rat.intCast_lt_intCast, hx.2, hy.2]
  constructor
  · intro h
    refine Rat.not_le.1 fun hle => ?_
    have := Rat.mul_le_mul_of_nonneg_right hle (Rat.le_of_lt (P2_pos 149))
    exact absurd h (Rat.not_lt.2 this)
  · exact mul_grow (P2_pos 149)
theorem rw_gtr {x y : Nat} {a b : Rat} (hx : Rw x a) (hy : Rw y b) : fcmp .gtr .f32 x y = true ↔ b < a := by
  rw [fcmp_gtr .f32 (rw_nan hx) (rw_nan hy), decide_eq_true_eq]; exact rw_lt hy hx
/-- The 32-bit number 0.001. -/
theorem rw_milli : Rw 981668463 (8589935 / 8589934592) := by
  refine ⟨by decide, ?_⟩
  have e : sv FloatKind.f32.format 981668463 = 8589935 * ((p2 116 : Nat) : Int) := by decide +kernel
  rw [e, Rat.intCast_mul, show (((p2 116 : Nat) : Int) : Rat) = P2 116 from rfl, show (149 : Nat) = 116 + 33 from rfl, P2_add, show P2 33 = 8589934592 by decide +kernel]
  generalize P2 116 = T
  rw [show ((8589935 : Int) : Rat) = 8589935 from rfl]
  grind
/-- What is at most 1/1024 is no more than a thousandth of 1 and a length. -/
theorem cmp_long {L G : Nat} {c g : Rat} (hL : Rw L c) (hG : Rw G g) (h : c ≤ 1/1024) (g0 : 0 ≤ g) (g1 : g ≤ 64) : fcmp .gtr .f32 L (fop .mul .f32 981668463 (fop .add .f32 1065353216 G)) = false := by
  have e7 : P2 7 = 128 := by decide +kernel
  obtain ⟨s, hs, ⟨s1, s2⟩, s3, s4⟩ := Rw.add 7 (by decide) rw_one hG (by rw [e7]; grind) (by rw [e7]; grind)
  rw [e7] at s1 s2 s3 s4
  obtain ⟨p, hp, ⟨p1, p2⟩, _, _⟩ := Rw.mul 0 (by decide) rw_milli hs (by rw [P2_0]; grind) (by rw [P2_0]; grind)
  rw [P2_0] at p1 p2
  have hn : ¬ (p < c) := by
    refine Rat.not_lt.2 ?_
    grind
  cases hb : fcmp .gtr .f32 L (fop .mul .f32 981668463 (fop .add .f32 1065353216 G)) with
  | false => rfl
  | true => exact absurd ((rw_gtr hL hp).1 hb) hn
theorem rq_milli : Rq 4562254508917369340 (1152921504606847 / 1152921504606846976) := by
  refine ⟨by decide, ?_⟩
  have h : sv FloatKind.f64.format 4562254508917369340 = 1152921504606847 * ((p2 1014 : Nat) : Int) := by decide +kernel
  have ep : P2 1074 = P2 1014 * 1152921504606846976 := by
    have h2 := P2_add 1014 60
    rw [show P2 60 = 1152921504606846976 by decide +kernel] at h2
    exact h2
  rw [ep, h, Rat.intCast_mul, show (((p2 1014 : Nat) : Int) : Rat) = P2 1014 from rfl]
  generalize P2 1014 = T
  rw [show ((1152921504606847 : Int) : Rat) = 1152921504606847 from rfl]
  grind
theorem rq_centi : Rq 4576918229304087675 (5764607523034235 / 576460752303423488) := by
  refine ⟨by decide, ?_⟩
  have h : sv FloatKind.f64.format 4576918229304087675 = 5764607523034235 * ((p2 1015 : Nat) : Int) := by decide +kernel
  have ep : P2 1074 = P2 1015 * 576460752303423488 := by
    have h2 := P2_add 1015 59
    rw [show P2 59 = 576460752303423488 by decide +kernel] at h2
    exact h2
  rw [ep, h, Rat.intCast_mul, show (((p2 1015 : Nat) : Int) : Rat) = P2 1015 from rfl]
  generalize P2 1015 = T
  rw [show ((5764607523034235 : Int) : Rat) = 5764607523034235 from rfl]
  grind
theorem cmp_size {g S : Nat} {c s : Rat} (hg : Rq g c) (hS : Rq S s) (h : c ≤ 1/2000) (s0 : 1 ≤ s) (s1 : s ≤ 64) : fcmp .gtr .f64 g (fop .mul .f64 4562254508917369340 S) = false := by
  obtain ⟨p, hp, ⟨p1, p2⟩, _, _⟩ := Rq.mul 0 (by decide) rq_milli hS (by rw [P2_0]; grind) (by rw [P2_0]; grind)
  rw [P2_0] at p1 p2
  have hn : ¬ (p < c) := Rat.not_lt.2 (by grind)
  cases hb : fcmp .gtr .f64 g (fop .mul .f64 4562254508917369340 S) with
  | false => rfl
  | true => exact absurd ((Rv.gtr hg hp).1 hb) hn
theorem cmp_det {g S : Nat} {c s : Rat} (hg : Rq g c) (hS : Rq S s) (h : c ≤ 1/2000) (s0 : 1 ≤ s) (s1 : s ≤ 64) : fcmp .gtr .f64 g (fop .mul .f64 (fop .mul .f64 4562254508917369340 S) S) = false := by
  obtain ⟨p, hp, ⟨p1, p2⟩, p3, p4⟩ := Rq.mul 0 (by decide) rq_milli hS (by rw [P2_0]; grind) (by rw [P2_0]; grind)
  rw [P2_0] at p1 p2 p3 p4
  have e6 : P2 6 = 64 := by decide +kernel
  have hs : In (p * s) 64 := by
    have u := In.mul ⟨p3, p4⟩ (show In s 64 from ⟨s1, by grind⟩)
    exact u
  obtain ⟨q, hq, ⟨q1, q2⟩, _, _⟩ := Rq.mul 6 (by decide) hp hS (by rw [e6]; exact hs.2) (by rw [e6]; exact hs.1)
  rw [e6] at q1 q2
  have hps : p ≤ p * s := by
    have := Rat.mul_nonneg (show 0 ≤ p by grind) (show 0 ≤ s - 1 by grind)
    grind
  have hn : ¬ (q < c) := Rat.not_lt.2 (by grind)
  cases hb : fcmp .gtr .f64 g (fop .mul .f64 (fop .mul .f64 4562254508917369340 S) S) with
  | false => rfl
  | true => exact absurd ((Rv.gtr hg hq).1 hb) hn
theorem cmp_img {g S : Nat} {c s : Rat} (hg : Rq g c) (hS : Rq S s) (h : c ≤ 1/200) (s0 : 1 ≤ s) (s1 : s ≤ 64) : fcmp .lss .f64 g (fop .mul .f64 4576918229304087675 S) = true := by
  obtain ⟨p, hp, ⟨p1, p2⟩, _, _⟩ := Rq.mul 0 (by decide) rq_centi hS (by rw [P2_0]; grind) (by rw [P2_0]; grind)
  rw [P2_0] at p1 p2
  exact (Rv.lss hg hp).2 (by grind)
/-! ### the gaps that the law takes -/
theorem e4_16 : P2 4 = 16 := by decide +kernel
theorem e5_32 : P2 5 = 32 := by decide +kernel
theorem e6_64 : P2 6 = 64 := by decide +kernel
/-- A ray's place, or slope, against what the matrix makes. -/
theorem gap_img {r m0 m1 x0 y0 : Nat} {X a b X0 Y0 : Rat} (hr : Rw r X) (h0 : Rw m0 a) (h1 : Rw m1 b) (hx : Rw x0 X0) (hy : Rw y0 Y0) (ia : In a 16) (ib : In b 16) (ix : In X0 1) (iy : In Y0 1) (hn : In (X - (a * X0 + b * Y0)) (60/262144)) :
    ∃ c, Rq (gapW (wid r) (fop .add .f64 (fop .mul .f64 (wid m0) (wid x0)) (fop .mul .f64 (wid m1) (wid y0)))) c ∧ c ≤ 1/200 := by
  have u1 := ia.mul2 ix (by decide)
  have u2 := ib.mul2 iy (by decide)
  rw [Rat.mul_one] at u1 u2
  obtain ⟨p, hp, ⟨p1, p2⟩, p3, p4⟩ := Rq.mul 4 (by decide) (wid_rq h0) (wid_rq hx) (by rw [e4_16]; exact u1.2) (by rw [e4_16]; exact u1.1)
  obtain ⟨q, hq, ⟨q1, q2⟩, q3, q4⟩ := Rq.mul 4 (by decide) (wid_rq h1) (wid_rq hy) (by rw [e4_16]; exact u2.2) (by rw [e4_16]; exact u2.1)
  rw [e4_16] at p1 p2 p3 p4 q1 q2 q3 q4
  obtain ⟨z, hz, ⟨z1, z2⟩, z3, z4⟩ := Rq.add 5 (by decide) hp hq (by rw [e5_32]; grind) (by rw [e5_32]; grind)
  rw [e5_32] at z1 z2
  obtain ⟨n1, n2⟩ := hn
  obtain ⟨c, hc, c1, _⟩ := gap_rq (k := 0) (e := 1/400) (by decide) (wid_rq hr) hz ⟨by grind, by grind⟩ (by rw [P2_0]; grind)
  rw [P2_0] at c1
  exact ⟨c, hc, by grind⟩
/-- The number of a matrix against that of a product. -/
theorem gap_prod {m p : Nat} {a b z : Rat} (hm : Rw m a) (hp : Rw p z) (h1 : In (a - b) (96/4194304)) (h2 : In (z - b) (1/262144)) : ∃ c, Rq (gapW (wid m) (wid p)) c ∧ c ≤ 1/2000 := by
  obtain ⟨n1, n2⟩ := h1; obtain ⟨n3, n4⟩ := h2
  obtain ⟨c, hc, c1, _⟩ := gap_rq (k := 0) (e := 1/4000) (by decide) (wid_rq hm) (wid_rq hp) ⟨by grind, by grind⟩ (by rw [P2_0]; grind)
  rw [P2_0] at c1
  exact ⟨c, hc, by grind⟩
theorem rq_one : Rq 4607182418800017408 1 := rv_rq Rv.one
theorem gap_det {d : Nat} {D : Rat} (hd : Rw d D) (h : In (D - 1) (1/5000)) : ∃ c, Rq (gapW (wid d) 4607182418800017408) c ∧ c ≤ 1/2000 := by
  obtain ⟨n1, n2⟩ := h
  obtain ⟨c, hc, c1, _⟩ := gap_rq (k := 0) (e := 1/4000) (by decide) (wid_rq hd) rq_one ⟨by grind, by grind⟩ (by rw [P2_0]; grind)
  rw [P2_0] at c1
  exact ⟨c, hc, by grind⟩
/-- The gap of a number of a matrix and 0. -/
theorem gap_zero {m : Nat} {a : Rat} (hm : Rw m a) (ia : In a 16) : ∃ c, Rq (gapW (wid m) 0) c ∧ In c 16 := by
  obtain ⟨c, hc, h⟩ := gap_ge (k := 4) (by decide) (wid_rq hm) (rv_rq Rv.zero) (by rw [e4_16]; exact ⟨by have := ia.1; grind, by have := ia.2; grind⟩)
  rw [e4_16] at h
  exact ⟨c, hc, h⟩
/-- The difference of two rays' numbers that are near. -/
theorem diff_small {x y : Nat} {a b : Rat} (hx : Rw x a) (hy : Rw y b) (h : In (a - b) (135/262144)) : ∃ c, Rw (fop .sub .f32 x y) c ∧ In c (180/262144) := by
  obtain ⟨n1, n2⟩ := h
  obtain ⟨c, hc, ⟨c1, c2⟩, c3, c4⟩ := Rw.sub 0 (by decide) hx hy (by rw [P2_0]; grind) (by rw [P2_0]; grind)
  rw [P2_0] at c1 c2
  exact ⟨c, hc, by grind, by grind⟩
end Go.Proofs.Ytpnmledanloboaa
