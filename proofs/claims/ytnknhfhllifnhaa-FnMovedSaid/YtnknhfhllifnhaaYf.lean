/-
  Operations on floats that draw nothing (their result is a number), and comparisons: they may be taken first.
-/
import Derived.Test.YtnknhfhllifnhaaFn
import Derived.OrdersHeld
namespace Go.Proofs.Ytnknhfhllifnhaa
open Go.Fl
section
variable {P : Program} {ops : Array Oper} {S : World → Prop}
theorem some_of_fop {op : BinOp} {k : FloatKind} {x y : Nat} (h : Fl.nan k (fop op k x y) = false) : floatBits op k x y = some (fop op k x y) := by
  unfold fop at h ⊢
  cases hb : floatBits op k x y with
  | some r => rfl
  | none => rw [hb] at h; simp [nan_qn] at h
theorem yields_fa {o : Oper} {a : Act} (hw : Region.wanted o (yielded ops a.tmps) = true) (op : BinOp) (xt yt : TypeId) (X Y : Operand) (ho : o.op = .binOp op xt X Y yt) (hop : isArith op = true) (k : FloatKind) (x y : Nat) (hX : a.eval X = .float k x) (hY : a.eval Y = .float k y)
    (hn : Fl.nan k (fop op k x y) = false) : YieldsIf P ops S o (.float k (fop op k x y)) a := by
  refine Or.inl ⟨hw, fun w _ => ?_⟩
  have hg : ∀ u v : Value, eqGuard op xt X Y u v = pure () := by
    intro u v; cases op <;> first | rfl | (simp [isArith] at hop; done)
  simp [execOp, ho, hX, hY, hg, run_float_arith w op xt k x y _ (some_of_fop hn)]
theorem yields_fc {o : Oper} {a : Act} (hw : Region.wanted o (yielded ops a.tmps) = true) (op : BinOp) (xt yt : TypeId) (X Y : Operand) (ho : o.op = .binOp op xt X Y yt) (hop : isCmp op = true) (k : FloatKind) (x y : Nat) (hX : a.eval X = .float k x) (hY : a.eval Y = .float k y)
    {b : Bool} (hb : fcmp op k x y = b) : YieldsIf P ops S o (.bool b) a := by
  subst hb
  refine Or.inl ⟨hw, fun w _ => ?_⟩
  have hrun : (binOp op xt (.float k x) (.float k y)).run P w = .ok (.bool (fcmp op k x y)) w := by
    cases op <;> first | (simp [isCmp] at hop; done) | simp [binOp, Op.floatCmp, fcmp]
  have hg : (eqGuard op xt X Y (.float k x) (.float k y)) = pure () := by
    cases op <;> first | rfl | (simp [isCmp] at hop; done)
  simp [execOp, ho, hX, hY, hg, hrun]
end
end Go.Proofs.Ytnknhfhllifnhaa
