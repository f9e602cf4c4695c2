/-
  The way between places in eighths.
-/
import Derived.Test.YtlfnbnhbobohlaaCor
import Derived.Test.YtlfnbnhbobohlaaDy
import Derived.Laws.ComplexArith
namespace Go.Proofs.Ytlfnbnhbobohlaa
open Go.Fl Go.RowKit
set_option linter.unusedSimpArgs false
set_option linter.unusedVariables false

def dyB (k : FloatKind) (u x : Nat) (n : Int) : Bool := decide (x < 2 ^ k.format.width) && decide (rung k.format x < k.format.infRung) && (neg k.format x == decide (n < 0)) && decide (sv k.format x = n * 2 ^ u)
theorem Dy.of {k : FloatKind} {u x : Nat} {n : Int} (h : dyB k u x n = true) : Dy k u x n := by
  unfold dyB at h
  simp only [Bool.and_eq_true, decide_eq_true_eq, beq_iff_eq] at h
  exact ⟨h.1.1.1, h.1.1.2, h.1.2, h.2⟩
theorem dy_is {k : FloatKind} {u x r : Nat} {n : Int} (h : Dy k u x n) (hr : Is k r x) : Dy k u r n := by rw [hr.same h.nan]; exact h
set_option maxRecDepth 100000
theorem tab_dy : ((List.range 360).all fun n => dyB .f32 146 (E8 ((n : Int) - 112)) ((n : Int) - 112)) = true := by decide +kernel
theorem dy_e8 (n : Int) (n0 : -112 ≤ n) (n1 : n < 248) : Dy .f32 146 (E8 n) n := by
  have hn : (n + 112).toNat < 360 := by omega
  have e : (((n + 112).toNat : Nat) : Int) - 112 = n := by omega
  have h := List.all_eq_true.1 tab_dy _ (List.mem_range.2 hn)
  simp only [e] at h
  exact Dy.of h
theorem e8_dy {x : Nat} {n : Int} (n0 : -112 ≤ n) (n1 : n < 248) (h : Dy .f32 146 x n) : x = E8 n := h.same (dy_e8 n n0 n1)
theorem tab_side : ∀ s : Fin 17, (dyB .f32 146 (floatOfInt .f32 (s.val : Int)) (8 * (s.val : Int)) && dyB .f32 146 (fop .quo .f32 (floatOfInt .f32 (s.val : Int)) 1073741824) (4 * (s.val : Int)) && (s.val == 0 || dyB .f32 146 (Op.negFloat .f32 (fop .quo .f32 (floatOfInt .f32 (s.val : Int)) 1073741824)) (-(4 * (s.val : Int))))) = true := by decide +kernel
theorem side_dy (s : Int) (h0 : 4 ≤ s) (h1 : s ≤ 16) : Dy .f32 146 (floatOfInt .f32 s) (8 * s) ∧ Dy .f32 146 (fop .quo .f32 (floatOfInt .f32 s) 1073741824) (4 * s) ∧ Dy .f32 146 (Op.negFloat .f32 (fop .quo .f32 (floatOfInt .f32 s) 1073741824)) (-(4 * s)) := by
  have h := tab_side ⟨s.toNat, by omega⟩
  simp only [Bool.and_eq_true, Bool.or_eq_true, beq_iff_eq] at h
  rw [show ((s.toNat : Nat) : Int) = s by omega] at h
  exact ⟨Dy.of h.1.1, Dy.of h.1.2, Dy.of (h.2.resolve_left (by omega))⟩
/-- The shorter way around. -/
def wayI (s n : Int) : Int := if n > 4 * s then n - 8 * s else if n < -(4 * s) then n + 8 * s else n



theorem wayI_le {s n : Int} (_ : 4 ≤ s) (h : -(8 * s) < n) (h' : n < 8 * s) : -(4 * s) ≤ wayI s n ∧ wayI s n ≤ 4 * s := by unfold wayI; split <;> (try split) <;> omega
theorem csub_e8 (P : Program) (t : TypeId) (n m p q : Int) (n0 : 0 ≤ n) (n1 : n < 56) (m0 : 0 ≤ m) (m1 : m < 56) (p0 : 0 ≤ p) (p1 : p < 56) (q0 : 0 ≤ q) (q1 : q < 56) (w : World) :
    (binOp .sub t (.complex .f32 (E8 p) (E8 q)) (.complex .f32 (E8 n) (E8 m))).run P w = .ok (.complex .f32 (E8 (p - n)) (E8 (q - m))) w := by
  refine run_complex_sum w .sub (.inr rfl) t .f32 _ _ _ _ _ _ ?_
  have d1 := (dy_e8 p (by omega) (by omega)).sub32 (dy_e8 n (by omega) (by omega)) (by decide) (by omega)
  have d2 := (dy_e8 q (by omega) (by omega)).sub32 (dy_e8 m (by omega) (by omega)) (by decide) (by omega)
  have e1 := e8_dy (by omega) (by omega) d1
  have e2 := e8_dy (by omega) (by omega) d2
  have fb : ∀ {x y : Nat}, Fl.nan .f32 (fop .sub .f32 x y) = false → floatBits .sub .f32 x y = some (fop .sub .f32 x y) := by
    intro x y h
    unfold fop at h ⊢
    cases hb : floatBits .sub .f32 x y with
    | some r => rfl
    | none => rw [hb] at h; simp only [nan_qn] at h; cases h
  unfold cSumBits
  rw [fb d1.nan, fb d2.nan, e1, e2]
  rfl

theorem hstep_sub {P : Program} {ops : Array Oper} {o : Oper} {a : Act} {w : World} {K : Act → World → Prop} {Q : Exit → Act → World → Prop} {E : Prop} (hgd : o.guard = none) (xt yt : TypeId) (X Y : Operand) (ho : o.op = .binOp .sub xt X Y yt)
    (v : Value) (hrun : (binOp .sub xt (a.eval X) (a.eval Y)).run P w = .ok v w) (h : K (a.put o.dst v) w) : if Region.wanted o (yielded ops a.tmps) = true then Oper.wp P o a w K Q else E := by
  have hw : Region.wanted o (yielded ops a.tmps) = true := by simp [Region.wanted, hgd]
  rw [if_pos hw]
  have hg : ∀ u v : Value, eqGuard .sub xt X Y u v = pure () := fun u v => rfl
  unfold Oper.wp
  have he : (execOp a.eval o).run P w = .ok (.value v) w := by
    simp [execOp, ho, hg, hrun, Result.andThen]
  rw [he]
  exact h

end Go.Proofs.Ytlfnbnhbobohlaa
