/-
  Comparisons of exact numbers, zeros of any sign; complex numbers that are equal or not; whole parts as integers.
-/
import Derived.Test.YtmalbjncjlhbaaaGreatDoorDv
import Derived.Test.YtmalbjncjlhbaaaGreatDoorMath
namespace Go.Proofs.YtmalbjncjlhbaaaGreatDoor
open Go.Fl Go.RowKit
set_option linter.unusedSimpArgs false
set_option linter.unusedVariables false

theorem Dv.order {k : FloatKind} {u x y : Nat} {n m : Int} (hx : Dv k u x n) (hy : Dv k u y m) : k.format.order x y = some (compare n m) := by
  rw [order_sv' k hx.nan hy.nan, hx.val, hy.val]
  have p2 : (0 : Int) < 2 ^ u := Int.pow_pos (by decide)
  exact congrArg some (compare_int ⟨fun h => Int.lt_of_mul_lt_mul_right h (Int.le_of_lt p2), fun h => Int.mul_lt_mul_of_pos_right h p2⟩ ⟨fun h => Int.lt_of_mul_lt_mul_right h (Int.le_of_lt p2), fun h => Int.mul_lt_mul_of_pos_right h p2⟩)
theorem Dv.gtr {k : FloatKind} {u x y : Nat} {n m : Int} (hx : Dv k u x n) (hy : Dv k u y m) : fcmp .gtr k x y = decide (n > m) := by
  unfold fcmp; dsimp only; rw [hx.order hy, Int.compare_eq_ite_lt]
  by_cases h1 : n < m
  · simp [h1]; omega
  · by_cases h2 : m < n
    · simp [h1, h2]
    · simp [h1, h2]
theorem Dv.lss {k : FloatKind} {u x y : Nat} {n m : Int} (hx : Dv k u x n) (hy : Dv k u y m) : fcmp .lss k x y = decide (n < m) := by
  unfold fcmp; dsimp only; rw [hx.order hy, Int.compare_eq_ite_lt]
  by_cases h1 : n < m
  · simp [h1]
  · by_cases h2 : m < n
    · simp [h1, h2]
    · simp [h1, h2]
theorem Dv.eql {k : FloatKind} {u x y : Nat} {n m : Int} (hx : Dv k u x n) (hy : Dv k u y m) : fcmp .eql k x y = decide (n = m) := by
  unfold fcmp; dsimp only; rw [hx.order hy, Int.compare_eq_ite_lt]
  by_cases h1 : n < m
  · simp [h1]; omega
  · by_cases h2 : m < n
    · simp [h1, h2]; omega
    · simp [h1, h2]; omega
theorem Dv.neq {k : FloatKind} {u x y : Nat} {n m : Int} (hx : Dv k u x n) (hy : Dv k u y m) : fcmp .neq k x y = !decide (n = m) := by
  rw [← hx.eql hy]; rfl
theorem cneq_run (P : Program) (t : TypeId) {x y x' y' : Nat} (h1 : fcmp .eql .f32 x x' = true) (h2 : fcmp .eql .f32 y y' = true) (w : World) :
    (binOp .neq t (.complex .f32 x y) (.complex .f32 x' y')).run P w = .ok (.bool false) w := by
  have e1 : (FloatKind.f32.format.order x x' == some .eq) = true := h1
  have e2 : (FloatKind.f32.format.order y y' == some .eq) = true := h2
  simp [binOp, Op.complexOp, Op.Complex.cmp, Op.floatCmp, asBool, e1, e2]
/-- The walk's law: complex numbers that are equal. -/
theorem wpList_cneq {P : Program} {w : World} {ops : Array Oper} {rest : List Oper} {a : Act} {Q : Exit → Act → World → Prop} {dst : Option Tmp} {xt yt ty : TypeId} {X Y : Operand} {pos : String} {after : Array Edge} {gd : Option (Nat × Bool)}
    (hw : Region.wanted ⟨dst, .binOp .neq xt X Y yt, ty, pos, after, gd⟩ (yielded ops a.tmps) = true) {x y x' y' : Nat} (hX : a.eval X = .complex .f32 x y) (hY : a.eval Y = .complex .f32 x' y') (h1 : fcmp .eql .f32 x x' = true) (h2 : fcmp .eql .f32 y y' = true)
    (h : wpList P ops Q rest (a.put dst (.bool false)) w) : wpList P ops Q (⟨dst, .binOp .neq xt X Y yt, ty, pos, after, gd⟩ :: rest) a w := by
  refine wpList_do hw fun K hK => ?_
  have hg : (eqGuard .neq xt X Y (.complex .f32 x y) (.complex .f32 x' y')) = pure () := by first | rfl | simp [eqGuard]
  unfold Oper.wp
  simp [execOp, hX, hY, hg, cneq_run P xt h1 h2 w, Result.andThen]
  exact hK _ _ h
theorem cneqB_run (P : Program) (t : TypeId) {x y x' y' : Nat} {e f : Bool} (h1 : fcmp .eql .f32 x x' = e) (h2 : fcmp .eql .f32 y y' = f) (w : World) :
    (binOp .neq t (.complex .f32 x y) (.complex .f32 x' y')).run P w = .ok (.bool (!(e && f))) w := by
  have e1 : (FloatKind.f32.format.order x x' == some .eq) = e := h1
  have e2 : (FloatKind.f32.format.order y y' == some .eq) = f := h2
  cases e <;> cases f <;> simp [binOp, Op.complexOp, Op.Complex.cmp, Op.floatCmp, asBool, e1, e2]
theorem wpList_cneqB {P : Program} {w : World} {ops : Array Oper} {rest : List Oper} {a : Act} {Q : Exit → Act → World → Prop} {dst : Option Tmp} {xt yt ty : TypeId} {X Y : Operand} {pos : String} {after : Array Edge} {gd : Option (Nat × Bool)} (e f : Bool)
    (hw : Region.wanted ⟨dst, .binOp .neq xt X Y yt, ty, pos, after, gd⟩ (yielded ops a.tmps) = true) {x y x' y' : Nat} (hX : a.eval X = .complex .f32 x y) (hY : a.eval Y = .complex .f32 x' y') (h1 : fcmp .eql .f32 x x' = e) (h2 : fcmp .eql .f32 y y' = f)
    (h : wpList P ops Q rest (a.put dst (.bool (!(e && f)))) w) : wpList P ops Q (⟨dst, .binOp .neq xt X Y yt, ty, pos, after, gd⟩ :: rest) a w := by
  refine wpList_do hw fun K hK => ?_
  have hg : (eqGuard .neq xt X Y (.complex .f32 x y) (.complex .f32 x' y')) = pure () := by first | rfl | simp [eqGuard]
  have hr := cneqB_run P xt h1 h2 w
  generalize (!(e && f)) = g at hr h
  unfold Oper.wp
  simp [execOp, hX, hY, hg, hr, Result.andThen]
  exact hK _ _ h
theorem wpList_toInt32 {P : Program} {w : World} {ops : Array Oper} {rest : List Oper} {a : Act} {Q : Exit → Act → World → Prop} {dst : Option Tmp} {sx dx ty : TypeId} {X : Operand} {pos : String} {after : Array Edge} {gd : Option (Nat × Bool)} (b : Nat)
    (hw : Region.wanted ⟨dst, .convert sx dx X, ty, pos, after, gd⟩ (yielded ops a.tmps) = true) (hX : a.eval X = .float .f32 b) (hs : P.underlying sx = some (.float .f32)) (hd : P.underlying dx = some (.int .i64)) {n : Int} (hn : floatToIntVal .f32 b .i64 = some n)
    (h : wpList P ops Q rest (a.put dst (.int .i64 n)) w) : wpList P ops Q (⟨dst, .convert sx dx X, ty, pos, after, gd⟩ :: rest) a w := by
  refine wpList_do hw fun K hK => ?_
  have hrun := run_convert_float_int (P := P) w sx dx .f32 .i64 b n (by rw [hs]; rfl) hd hn
  unfold Oper.wp
  simp [execOp, hX, hrun, Result.andThen]
  exact hK _ _ h
theorem whole_tab : ((List.range 401).all fun k => floatToIntVal .f32 (floatOfInt .f32 ((k : Int) - 200)) .i64 == some ((k : Int) - 200)) = true := by decide +kernel
theorem whole_int {n : Int} (h : -200 ≤ n ∧ n ≤ 200) : floatToIntVal .f32 (floatOfInt .f32 n) .i64 = some n := by
  have h2 := List.all_eq_true.1 whole_tab (n + 200).toNat (List.mem_range.2 (by omega))
  rw [show (((n + 200).toNat : Nat) : Int) - 200 = n by omega] at h2
  simpa using h2
end Go.Proofs.YtmalbjncjlhbaaaGreatDoor
