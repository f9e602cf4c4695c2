/-
  Sums of complex numbers of any bits, part by part; calls that answer a complex number in a region that draws.
-/
import Derived.Test.YtmalbjncjlhbaaaGreatDoorFl
import Derived.Test.YtmalbjncjlhbaaaGreatDoorLoose
import Derived.Laws.ComplexArith
namespace Go.Fl
open Go.RowKit
section
variable {P : Program} (w : World)
theorem run_fA (op : BinOp) (hop : isArith op = true) (k : FloatKind) (x y : Nat) :
    ∃ r n, (Op.floatArith op k x y).run P w = .ok (.float k r) (w.drewN n) ∧ Is k r (fop op k x y) := by
  obtain ⟨r, n, h, hr⟩ := run_farith (P := P) w op hop 0 k x y
  exact ⟨r, n, by cases op <;> first | (simp [isArith] at hop; done) | simpa [binOp] using h, hr⟩
theorem run_cA (op : BinOp) (hop : isArith op = true) (k : FloatKind) (x y : Nat) :
    ∃ r n, (Op.Complex.arith op k x y).run P w = .ok r (w.drewN n) ∧ Is k r (fop op k x y) := by
  obtain ⟨r, n, h, hr⟩ := run_fA (P := P) w op hop k x y
  exact ⟨r, n, by simp [Op.Complex.arith, h], hr⟩
theorem run_csum (op : BinOp) (hop : op = .add ∨ op = .sub) (t : TypeId) (k : FloatKind) (a b c d : Nat) :
    ∃ r s n, (binOp op t (.complex k a b) (.complex k c d)).run P w = .ok (.complex k r s) (w.drewN n) ∧ Is k r (fop op k a c) ∧ Is k s (fop op k b d) := by
  have hA : isArith op = true := by rcases hop with rfl | rfl <;> rfl
  obtain ⟨r, n, h1, hr⟩ := run_cA (P := P) w op hA k a c
  obtain ⟨s, m, h2, hs⟩ := run_cA (P := P) (w.drewN n) op hA k b d
  rw [World.drewN_drewN] at h2
  refine ⟨r, s, n + m, ?_, hr, hs⟩
  rcases hop with rfl | rfl <;> simp [binOp, Op.complexOp, h1, h2]
end

section
variable {P : Program} {w : World} {ops : Array Oper} {rest : List Oper} {a : Act} {Q : Exit → Act → World → Prop} {dst : Option Tmp} {xt yt ty : TypeId} {X Y : Operand} {pos : String} {after : Array Edge} {gd : Option (Nat × Bool)}
/-- The walk's law: + and - of complex numbers. -/
theorem wpList_csum (op : BinOp) (hw : Region.wanted ⟨dst, .binOp op xt X Y yt, ty, pos, after, gd⟩ (yielded ops a.tmps) = true) (hop : op = .add ∨ op = .sub) (k : FloatKind) (x y u v : Nat) (hX : a.eval X = .complex k x y) (hY : a.eval Y = .complex k u v)
    {x' y' u' v' : Nat} (ix : Is k x x') (iy : Is k y y') (iu : Is k u u') (iv : Is k v v')
    (h : ∀ r s n, Is k r (fop op k x' u') → Is k s (fop op k y' v') → wpList P ops Q rest (a.put dst (.complex k r s)) (w.drewN n)) :
    wpList P ops Q (⟨dst, .binOp op xt X Y yt, ty, pos, after, gd⟩ :: rest) a w := by
  refine wpList_do hw fun K hK => ?_
  obtain ⟨r, s, n, hrun, hr, hs⟩ := run_csum (P := P) w op hop xt k x y u v
  have hg : ∀ u v : Value, eqGuard op xt X Y u v = pure () := by
    intro u v; rcases hop with rfl | rfl <;> rfl
  unfold Oper.wp
  simp [execOp, hX, hY, hg, hrun, Result.andThen]
  rw [ix.fop iu] at hr
  rw [iy.fop iv] at hs
  exact hK _ _ (h r s n hr hs)
end
end Go.Fl
namespace Go.Loose
open Go.Fl
section
variable {P : Program} {ops : Array Oper} {S : Nat → Value → Prop} {w : World} {Q : Act → Prop} {i : Nat} {rest : List Oper} {a : Act}
theorem step_csum {dst : Option Tmp} {xt yt ty : TypeId} {X Y : Operand} {pos : String} {after : Array Edge} {gd : Option (Nat × Bool)} (op : BinOp) (hw : Region.wanted ⟨dst, .binOp op xt X Y yt, ty, pos, after, gd⟩ (yielded ops a.tmps) = true) (hop : op = .add ∨ op = .sub) (k : FloatKind) (x y u v : Nat) (hX : a.eval X = .complex k x y) (hY : a.eval Y = .complex k u v)
    {x' y' u' v' : Nat} (ix : Is k x x') (iy : Is k y y') (iu : Is k u u') (iv : Is k v v')
    (hS : S i = fun z => ∃ r s, z = .complex k r s ∧ Is k r (fop op k x' u') ∧ Is k s (fop op k y' v'))
    {d : Nat → Nat → Act} (hput : ∀ r s, a.put dst (.complex k r s) = d r s) (h : ∀ r s, Is k r (fop op k x' u') → Is k s (fop op k y' v') → walk P ops (fun w' => ∃ n, w' = w.drewN n) S Q (i + 1) rest (d r s)) :
    walk P ops (fun w' => ∃ n, w' = w.drewN n) S Q i (⟨dst, .binOp op xt X Y yt, ty, pos, after, gd⟩ :: rest) a := by
  refine walk_step hw (fun w' ⟨n, hn⟩ => ?_) hS (fun z ⟨r, s, hv, hr, hs⟩ => by subst hv; rw [hput]; exact h r s hr hs)
  subst hn
  obtain ⟨r, s, m, hrun, hr, hs⟩ := run_csum (P := P) (w.drewN n) op hop xt k x y u v
  have hg : ∀ u v : Value, eqGuard op xt X Y u v = pure () := by
    intro u v; rcases hop with rfl | rfl <;> rfl
  rw [ix.fop iu] at hr
  rw [iy.fop iv] at hs
  simp [execOp, hX, hY, hg, hrun, Result.andThen]
  exact ⟨⟨n + m, rfl⟩, r, s, rfl, hr, hs⟩

/-- A call that answers a complex number. -/
theorem step_callC {o : Oper} {f : FuncId} {args : Array Value} {k : FloatKind} {X Y : Nat} (hw : Region.wanted o (yielded ops a.tmps) = true) (hrun : ∀ n, (execOp a.eval o).run P (w.drewN n) = .ok (.enter f args) (w.drewN n))
    (hc : ∀ n, Calls P f args (w.drewN n) (fun e w' => (∃ r s, e = .returned (.complex k r s) ∧ Is k r X ∧ Is k s Y) ∧ ∃ m, w' = (w.drewN n).drewN m)) (hS : S i = fun v => ∃ r s, v = .complex k r s ∧ Is k r X ∧ Is k s Y)
    {b : Nat → Nat → Act} (hput : ∀ r s, a.put o.dst (.complex k r s) = b r s)
    (h : ∀ r s, Is k r X → Is k s Y → walk P ops (fun w' => ∃ n, w' = w.drewN n) S Q (i + 1) rest (b r s)) : walk P ops (fun w' => ∃ n, w' = w.drewN n) S Q i (o :: rest) a :=
  walk_step hw (fun w' ⟨n, hn⟩ => by
    subst hn; rw [hrun]
    exact (hc n).mono fun e w'' ⟨⟨r, s, he, hr, hs⟩, m, hm⟩ => ⟨_, he, ⟨r, s, rfl, hr, hs⟩, n + m, by rw [hm]; exact World.drewN_drewN ..⟩) hS (fun v ⟨r, s, hv, hr, hs⟩ => by subst hv; rw [hput]; exact h r s hr hs)
theorem step_assignC {dst : Option Tmp} {ty : TypeId} {X : Operand} {pos : String} {after : Array Edge} {gd : Option (Nat × Bool)} (k : FloatKind) (b c : Nat) (hw : Region.wanted ⟨dst, .assign X, ty, pos, after, gd⟩ (yielded ops a.tmps) = true) (hX : a.eval X = .complex k b c) {b' c' : Nat} (ib : Is k b b') (ic : Is k c c')
    (hS : S i = fun v => ∃ r s, v = .complex k r s ∧ Is k r b' ∧ Is k s c') {d : Nat → Nat → Act} (hput : ∀ r s, a.put dst (.complex k r s) = d r s) (h : ∀ r s, Is k r b' → Is k s c' → walk P ops (fun w' => ∃ n, w' = w.drewN n) S Q (i + 1) rest (d r s)) :
    walk P ops (fun w' => ∃ n, w' = w.drewN n) S Q i (⟨dst, .assign X, ty, pos, after, gd⟩ :: rest) a := by
  refine walk_step hw (fun w' ⟨n, hn⟩ => ?_) hS (fun v ⟨r, s, hv, hr, hs⟩ => by subst hv; rw [hput]; exact h r s hr hs)
  subst hn
  simp [execOp, hX]
  exact ⟨⟨n, rfl⟩, b, c, rfl, ib, ic⟩
end
end Go.Loose
