/-
  Measures of lists of particles: momentum and energy, exactly.
-/
import Derived.Test.YtlfnbnhbobohlaaPt
import Derived.Test.YtlfnbnhbobohlaaNar
namespace Go.Proofs.Ytlfnbnhbobohlaa
open Go.Fl Go.RowKit
set_option linter.unusedSimpArgs false
set_option linter.unusedVariables false

/-- A sum over the first k. -/
def sumI (f : Pt → Int) (ts : List Pt) (k : Nat) : Int := ((ts.take k).map f).sum
theorem sumI_succ (f : Pt → Int) (ts : List Pt) {k : Nat} (h : k < ts.length) : sumI f ts (k + 1) = sumI f ts k + f ts[k] := by
  unfold sumI
  rw [List.take_succ_eq_append_getElem h, List.map_append, List.sum_append]; simp
theorem sumI_le (f : Pt → Int) (ts : List Pt) (M : Int) (h : ∀ t ∈ ts, -M ≤ f t ∧ f t ≤ M) (k : Nat) (hk : k ≤ ts.length) : -(M * k) ≤ sumI f ts k ∧ sumI f ts k ≤ M * k := by
  induction k with
  | zero => simp [sumI]
  | succ k ih =>
    rw [sumI_succ f ts (by omega)]
    have h1 := ih (by omega)
    have h2 := h ts[k] (List.getElem_mem (by omega))
    rw [Int.natCast_add, Int.mul_add]
    omega
theorem mul_in {a b A B : Int} (h1 : -A ≤ a) (h2 : a ≤ A) (h3 : 0 ≤ b) (h4 : b ≤ B) (hA : 0 ≤ A) : -(A * B) ≤ a * b ∧ a * b ≤ A * B := by
  have e1 : a * b ≤ A * b := Int.mul_le_mul_of_nonneg_right h2 h3
  have e2 : A * b ≤ A * B := Int.mul_le_mul_of_nonneg_left h4 hA
  have e3 : -A * b ≤ a * b := Int.mul_le_mul_of_nonneg_right h1 h3
  rw [Int.neg_mul] at e3
  omega
theorem sq_nn (a : Int) : 0 ≤ a * a := by
  by_cases h : 0 ≤ a
  · exact Int.mul_nonneg h h
  · have := Int.mul_nonneg (show 0 ≤ -a by omega) (show 0 ≤ -a by omega); rwa [Int.neg_mul_neg] at this
theorem dy_e8' {n : Int} (n0 : -112 ≤ n) (n1 : n < 248) : Dv .f32 146 (E8 n) n := (dy_e8 n n0 n1).dv
theorem dy_zero32 (u : Nat) : Dy .f32 u 0 0 := ⟨by decide, by decide +kernel, by decide +kernel, by rw [Int.zero_mul]; decide +kernel⟩
theorem dy_zero64 (u : Nat) : Dy .f64 u 0 0 := ⟨by decide, by decide +kernel, by decide +kernel, by rw [Int.zero_mul]; decide +kernel⟩

theorem iScale_dv (x y c : Nat) (p q s : Int) (hx : Dv .f32 146 x p) (hy : Dv .f32 146 y q) (hc : Dv .f32 146 c s) (h1 : (p * s).natAbs < 2 ^ 24) (h2 : (q * s).natAbs < 2 ^ 24) (w : World) :
    Calls Try.prog 137 #[.complex .f32 x y, .float .f32 c] w fun e w' => (∃ a b, e = .returned (.complex .f32 a b) ∧ Dv .f32 143 a (p * s) ∧ Dv .f32 143 b (q * s)) ∧ ∃ n, w' = w.drewN n := by
  have HX := Lib.hid hx; have HY := Lib.hid hy; have HC := Lib.hid hc; have HA := Lib.hid h1; have HB := Lib.hid h2
  have ix := hx.is; have iy := hy.is; have ic := hc.is
  clear hx hy hc h1 h2
  go_enter Try.func137, Try.ntmps137
  go_wp2_with (apply wpList_farith; rfl; rfl; rfl; rfl; (first | with_reducible assumption | exact Is.const rfl); (first | with_reducible assumption | exact Is.const rfl); intro r n hr)
  go_ret
  exact ⟨⟨_, _, rfl, dv_is (HX.out.mul32 HC.out (w := 143) (by decide) HA.out (by decide)) (by assumption), dv_is (HY.out.mul32 HC.out (w := 143) (by decide) HB.out (by decide)) (by assumption)⟩, _, rfl⟩


def momX (t : Pt) : Int := t.p * t.s
def momY (t : Pt) : Int := t.q * t.s
theorem mom_in {t : Pt} (h : t.ok) : (-128 ≤ momX t ∧ momX t ≤ 128) ∧ (-128 ≤ momY t ∧ momY t ≤ 128) :=
  ⟨mul_in (A := 8) (B := 16) h.p0 h.p1 (by have := h.s0; omega) h.s1 (by omega), mul_in (A := 8) (B := 16) h.q0 h.q1 (by have := h.s0; omega) h.s1 (by omega)⟩

end Go.Proofs.Ytlfnbnhbobohlaa
