/-
  Comparisons of exact numbers, zeros of any sign; complex numbers that are equal.
-/
import Derived.Test.YtlfnbnhbobohlaaPtM
namespace Go.Proofs.Ytlfnbnhbobohlaa
open Go.Fl Go.RowKit
set_option linter.unusedSimpArgs false
set_option linter.unusedVariables false

theorem Dv.order {k : FloatKind} {u x y : Nat} {n m : Int} (hx : Dv k u x n) (hy : Dv k u y m) : k.format.order x y = some (compare n m) := by
  rw [order_sv' k hx.nan hy.nan, hx.val, hy.val]
  have p2 : (0 : Int) < 2 ^ u := Int.pow_pos (by decide)
  exact congrArg some (compare_int ⟨fun h => Int.lt_of_mul_lt_mul_right h (Int.le_of_lt p2), fun h => Int.mul_lt_mul_of_pos_right h p2⟩ ⟨fun h => Int.lt_of_mul_lt_mul_right h (Int.le_of_lt p2), fun h => Int.mul_lt_mul_of_pos_right h p2⟩)
theorem Dv.gtr {k : FloatKind} {u x y : Nat} {n m : Int} (hx : Dv k u x n) (hy : Dv k u y m) : fcmp .gtr k x y = decide (n > m) := by
  unfold fcmp; dsimp only; rw [hx.order hy, Int.compare_eq_ite_lt]
  by_cases h1 : n < m
  · simp [h1]; omega
  · by_cases h2 : m < n
    · simp [h1, h2]
    · simp [h1, h2]
theorem Dv.lss {k : FloatKind} {u x y : Nat} {n m : Int} (hx : Dv k u x n) (hy : Dv k u y m) : fcmp .lss k x y = decide (n < m) := by
  unfold fcmp; dsimp only; rw [hx.order hy, Int.compare_eq_ite_lt]
  by_cases h1 : n < m
  · simp [h1]
  · by_cases h2 : m < n
    · simp [h1, h2]
    · simp [h1, h2]
theorem Dv.eql {k : FloatKind} {u x y : Nat} {n m : Int} (hx : Dv k u x n) (hy : Dv k u y m) : fcmp .eql k x y = decide (n = m) := by
  unfold fcmp; dsimp only; rw [hx.order hy, Int.compare_eq_ite_lt]
  by_cases h1 : n < m
  · simp [h1]; omega
  · by_cases h2 : m < n
    · simp [h1, h2]; omega
    · simp [h1, h2]; omega
theorem Dv.neq {k : FloatKind} {u x y : Nat} {n m : Int} (hx : Dv k u x n) (hy : Dv k u y m) : fcmp .neq k x y = !decide (n = m) := by
  rw [← hx.eql hy]; rfl
theorem cneq_run (P : Program) (t : TypeId) {x y x' y' : Nat} (h1 : fcmp .eql .f32 x x' = true) (h2 : fcmp .eql .f32 y y' = true) (w : World) :
    (binOp .neq t (.complex .f32 x y) (.complex .f32 x' y')).run P w = .ok (.bool false) w := by
  have e1 : (FloatKind.f32.format.order x x' == some .eq) = true := h1
  have e2 : (FloatKind.f32.format.order y y' == some .eq) = true := h2
  simp [binOp, Op.complexOp, Op.Complex.cmp, Op.floatCmp, asBool, e1, e2]
/-- The walk's law: complex numbers that are equal. -/
theorem wpList_cneq {P : Program} {w : World} {ops : Array Oper} {rest : List Oper} {a : Act} {Q : Exit → Act → World → Prop} {dst : Option Tmp} {xt yt ty : TypeId} {X Y : Operand} {pos : String} {after : Array Edge} {gd : Option (Nat × Bool)}
    (hw : Region.wanted ⟨dst, .binOp .neq xt X Y yt, ty, pos, after, gd⟩ (yielded ops a.tmps) = true) {x y x' y' : Nat} (hX : a.eval X = .complex .f32 x y) (hY : a.eval Y = .complex .f32 x' y') (h1 : fcmp .eql .f32 x x' = true) (h2 : fcmp .eql .f32 y y' = true)
    (h : wpList P ops Q rest (a.put dst (.bool false)) w) : wpList P ops Q (⟨dst, .binOp .neq xt X Y yt, ty, pos, after, gd⟩ :: rest) a w := by
  refine wpList_do hw fun K hK => ?_
  have hg : (eqGuard .neq xt X Y (.complex .f32 x y) (.complex .f32 x' y')) = pure () := by first | rfl | simp [eqGuard]
  unfold Oper.wp
  simp [execOp, hX, hY, hg, cneq_run P xt h1 h2 w, Result.andThen]
  exact hK _ _ h
end Go.Proofs.Ytlfnbnhbobohlaa
