/-
  Products, powers, lengths and quotients of complex numbers whose parts are small whole numbers.
-/
import Derived.Test.YtmalbjncjlhbaaaGreatDoorMc
import Derived.Test.YtmalbjncjlhbaaaGreatDoorWh
namespace Go.Proofs.YtmalbjncjlhbaaaGreatDoor
open Go.Fl Go.RowKit
set_option linter.unusedSimpArgs false
set_option linter.unusedVariables false

theorem mul_bd {a b : Int} {M N : Nat} (h : a.natAbs ≤ M) (k : b.natAbs ≤ N) : (a * b).natAbs ≤ M * N := by rw [Int.natAbs_mul]; exact Nat.mul_le_mul h k
theorem dv_wid {U A : Nat} {p : Int} (hU : U = 1074) (h : Dv .f32 149 A p) : Dv .f64 U (wid A) p := by
  have h1 := h.wid.1
  rw [hU]; exact h1
theorem wmul {U A C : Nat} {p r : Int} (hU : U = 1074) (hA : Dv .f32 149 A p) (hC : Dv .f32 149 C r) (h : (p * r).natAbs ≤ 1000000000) : Dv .f64 U (fop .mul .f64 (wid A) (wid C)) (p * r) :=
  ((dv_wid hU hA).mul64 (dv_wid hU hC) (by omega) (by omega) (by omega)).1
theorem wpR_dv {U A B C D : Nat} {p q r s : Int} (hU : U = 1074) (hA : Dv .f32 149 A p) (hB : Dv .f32 149 B q) (hC : Dv .f32 149 C r) (hD : Dv .f32 149 D s) (h1 : (p * r).natAbs ≤ 1000000000) (h2 : (q * s).natAbs ≤ 1000000000) :
    Dv .f64 U (wpR A B C D) (p * r - q * s) := (wmul hU hA hC h1).sub64 (wmul hU hB hD h2) (by omega) (by omega)
theorem wpI_dv {U A B C D : Nat} {p q r s : Int} (hU : U = 1074) (hA : Dv .f32 149 A p) (hB : Dv .f32 149 B q) (hC : Dv .f32 149 C r) (hD : Dv .f32 149 D s) (h1 : (p * s).natAbs ≤ 1000000000) (h2 : (q * r).natAbs ≤ 1000000000) :
    Dv .f64 U (wpI A B C D) (p * s + q * r) := (wmul hU hA hD h1).add64 (wmul hU hB hC h2) (by omega) (by omega)
theorem dv_nar9 {U x : Nat} {n : Int} (hU : U = 1074) (h : Dv .f64 U x n) (hl : n.natAbs < 16777216) : Dv .f32 149 (nar x) n ∧ fits x := by
  have h1 : Dv .f64 (149 + 925) x n := by rw [hU] at h; exact h
  exact ⟨h1.nar (by omega) (by decide), h1.fits (by omega) (by decide)⟩
/-- Whole numbers that are not great. -/
structure Small (M : Nat) (A B : Nat) (p q : Int) : Prop where
  a : Dv .f32 149 A p
  b : Dv .f32 149 B q
  pa : p.natAbs ≤ M
  pb : q.natAbs ≤ M
theorem mulC_num {A B C D : Nat} {p q r s : Int} (h : Small 200 A B p q) (k : Small 200 C D r s) :
    Small 80000 (nar (wpR A B C D)) (nar (wpI A B C D)) (p * r - q * s) (p * s + q * r) ∧ fits (wpR A B C D) ∧ fits (wpI A B C D) := by
  have m1 := mul_bd h.pa k.pa; have m2 := mul_bd h.pb k.pb; have m3 := mul_bd h.pa k.pb; have m4 := mul_bd h.pb k.pa
  obtain ⟨x1, x2⟩ := dv_nar9 rfl (wpR_dv rfl h.a h.b k.a k.b (by omega) (by omega)) (by omega)
  obtain ⟨y1, y2⟩ := dv_nar9 rfl (wpI_dv rfl h.a h.b k.a k.b (by omega) (by omega)) (by omega)
  exact ⟨⟨x1, y1, by omega, by omega⟩, x2, y2⟩
theorem pwF_dv {U C D : Nat} {r s : Int} (hU : U = 1074) (k : Small 200 C D r s) : Dy .f64 U (pwF C D) (r * r + s * s) := by
  have m1 := mul_bd k.pa k.pa; have m2 := mul_bd k.pb k.pb
  have h1 := (dv_wid hU k.a).sq64 (w := U) (by omega) (by omega) (by omega)
  have h2 := (dv_wid hU k.b).sq64 (w := U) (by omega) (by omega) (by omega)
  exact h1.add64 h2 (by omega) (by omega)
theorem powC_num {C D : Nat} {r s : Int} (k : Small 200 C D r s) : Dv .f32 149 (nar (pwF C D)) (r * r + s * s) ∧ fits (pwF C D) := by
  have m1 := mul_bd k.pa k.pa; have m2 := mul_bd k.pb k.pb
  exact dv_nar9 rfl (pwF_dv rfl k).dv (by omega)
/-- The power, as a 32-bit number made 64 bits wide, is the wide one. -/
theorem long_num {C D : Nat} {r s : Int} (k : Small 200 C D r s) : wid (iW (r * r + s * s)) = pwF C D := by
  have m1 := mul_bd k.pa k.pa; have m2 := mul_bd k.pb k.pb
  have h1 : Dy .f32 149 (iW (r * r + s * s)) (r * r + s * s) := dy_int (by omega)
  obtain ⟨U, hU⟩ : ∃ U, U = 1074 := ⟨_, rfl⟩
  have h2 : Dy .f64 U (wid (iW (r * r + s * s))) (r * r + s * s) := by rw [hU]; exact h1.wid
  exact h2.same (pwF_dv hU k)
theorem fneg_dv {D : Nat} {s : Int} (h : Dv .f32 149 D s) : Dv .f32 149 (Fl.fneg .f32 D) (-s) := by
  have e : Fl.fneg .f32 D = Op.negFloat .f32 D := by unfold Fl.fneg; rw [h.nan]; rfl
  rw [e]; exact h.neg
theorem Small.conj {M A B : Nat} {p q : Int} (h : Small M A B p q) : Small M A (Fl.fneg .f32 B) p (-q) := ⟨h.a, fneg_dv h.b, h.pa, by rw [Int.natAbs_neg]; exact h.pb⟩
theorem quoC_num {X Y C D : Nat} {p q r s : Int} (h : Small 80000 X Y (p * r - q * s) (p * s + q * r)) (k : Small 200 C D r s) (hp : p.natAbs ≤ 200) (hq : q.natAbs ≤ 200) (h0 : r * r + s * s ≠ 0) :
    (Dv .f32 149 (nar (fop .quo .f64 (wpR X Y C (Fl.fneg .f32 D)) (pwF C D))) p ∧ fits (fop .quo .f64 (wpR X Y C (Fl.fneg .f32 D)) (pwF C D))) ∧
    (Dv .f32 149 (nar (fop .quo .f64 (wpI X Y C (Fl.fneg .f32 D)) (pwF C D))) q ∧ fits (fop .quo .f64 (wpI X Y C (Fl.fneg .f32 D)) (pwF C D))) := by
  obtain ⟨U, hU⟩ : ∃ U, U = 1074 := ⟨_, rfl⟩
  have hc := k.conj
  have m1 := mul_bd h.pa hc.pa; have m2 := mul_bd h.pb hc.pb; have m3 := mul_bd h.pa hc.pb; have m4 := mul_bd h.pb hc.pa
  have g1 := wpR_dv hU h.a h.b hc.a hc.b (by omega) (by omega)
  have g2 := wpI_dv hU h.a h.b hc.a hc.b (by omega) (by omega)
  have e1 : (p * r - q * s) * r - (p * s + q * r) * -s = p * (r * r + s * s) := by grind
  have e2 : (p * r - q * s) * -s + (p * s + q * r) * r = q * (r * r + s * s) := by grind
  rw [e1] at g1; rw [e2] at g2
  have g3 := (pwF_dv hU k).dv
  exact ⟨dv_nar9 hU (g1.quo64 g3 h0 (by omega) hU) (by omega), dv_nar9 hU (g2.quo64 g3 h0 (by omega) hU) (by omega)⟩
theorem scale_num {A B : Nat} {p q : Int} (h : Small 200 A B p q) : Dv .f32 149 (fop .mul .f32 A 1073741824) (p * 2) ∧ Dv .f32 149 (fop .mul .f32 B 1073741824) (q * 2) ∧ Dv .f32 149 (fop .add .f32 A A) (p + p) ∧ Dv .f32 149 (fop .add .f32 B B) (q + q) := by
  have h2 : Dv .f32 149 1073741824 2 := ⟨by decide, by decide, by decide +kernel⟩
  have m1 := h.pa; have m2 := h.pb
  exact ⟨h.a.mul32 h2 (by decide) (by omega) (by decide), h.b.mul32 h2 (by decide) (by omega) (by decide), h.a.add32 h.a (by omega), h.b.add32 h.b (by omega)⟩
theorem iW_small {p q : Int} (hp : -200 ≤ p ∧ p ≤ 200) (hq : -200 ≤ q ∧ q ≤ 200) : Small 200 (iW p) (iW q) p q := ⟨(iW_dy hp).dv, (iW_dy hq).dv, by omega, by omega⟩
theorem iW_dv {n : Int} (h : n.natAbs < 16777216) : Dv .f32 149 (iW n) n := (dy_int (by omega)).dv
end Go.Proofs.YtmalbjncjlhbaaaGreatDoor
