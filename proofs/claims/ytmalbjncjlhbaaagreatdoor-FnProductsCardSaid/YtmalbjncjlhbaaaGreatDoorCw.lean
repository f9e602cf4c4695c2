/-
  Complex numbers of 32-bit parts, widened.
-/
import Derived.Test.YtmalbjncjlhbaaaGreatDoorFl
import Derived.Test.YtmalbjncjlhbaaaGreatDoorLoose
import Derived.Laws.ComplexArith
import Derived.Laws.Cover3
namespace Go.Fl
open Go.RowKit

/-! ### a complex number of 32-bit parts, widened -/
section
variable {P : Program} (w : World)
theorem f2f_wid (b : Nat) : ∃ r n, (Conv.floatToFloat .f32 b .f64).run P w = .ok (.float .f64 r) (w.drewN n) ∧ Is .f64 r (wid b) := by
  have ne : ¬ (FloatKind.f32 = FloatKind.f64) := by decide
  by_cases h : nan .f32 b = true
  · obtain ⟨s, t, e⟩ := read_nan .f32 h
    have e' : FloatKind.f32.decode b = .nan s t := e
    refine ⟨(Question.nanConv .f64 b).cut (w.tape w.drawn (.nanConv .f64 b)), 1, ?_, ?_, nanConv_lt ..⟩
    · simp [Conv.floatToFloat, e', Question.forced, World.drew_is_drewN]
    · unfold wid; rw [if_pos h, cn_nan _ (nan_draw_conv _ _ _)]
  · have h' : nan .f32 b = false := by simpa using h
    refine ⟨wid b, 0, ?_, by rw [cn_wid], wid_lt b⟩
    rw [World.drewN_zero]
    have hw : wid b = FloatKind.f64.encode (FloatKind.f32.decode b) := by unfold wid; rw [if_neg h]; rfl
    by_cases h1 : rung FloatKind.f32.format b < FloatKind.f32.format.infRung
    · have h3 := isInf_read .f64 (wid_fin h1).2.1
      rw [hw] at h3
      have e := read_eq FloatKind.f32.format (eb _) b
      rw [if_pos h1] at e
      have e' : FloatKind.f32.decode b = _ := e
      rw [hw]
      have h4 : (FloatKind.f64.decode (FloatKind.f64.encode (FloatKind.f32.decode b))).isInfinity = false := h3
      rw [e'] at h4 ⊢
      simp [Conv.floatToFloat, e', h4]
    · have h2 : rung FloatKind.f32.format b = FloatKind.f32.format.infRung := by
        unfold nan isNaN at h'
        have := of_decide_eq_false h'
        omega
      have e := read_eq FloatKind.f32.format (eb _) b
      rw [if_neg h1, if_pos h2] at e
      have e' : FloatKind.f32.decode b = _ := e
      rw [hw, e']
      simp [Conv.floatToFloat, e']

theorem run_cwid (src dst : TypeId) (a b : Nat) (hs : (P.underlying src).isSome = true) (hd : P.underlying dst = some (.complex .f64)) :
    ∃ r s n, (convert src dst (.complex .f32 a b)).run P w = .ok (.complex .f64 r s) (w.drewN n) ∧ Is .f64 r (wid a) ∧ Is .f64 s (wid b) := by
  obtain ⟨u, hs'⟩ := Option.isSome_iff_exists.1 hs
  obtain ⟨r, n, h1, hr⟩ := f2f_wid (P := P) w a
  obtain ⟨s, m, h2, hs2⟩ := f2f_wid (P := P) (w.drewN n) b
  rw [World.drewN_drewN] at h2
  refine ⟨r, s, n + m, ?_, hr, hs2⟩
  cases u <;> simp [convert, run_underlying hs', run_underlying hd, Conv.complexToComplex, h1, h2]

section
variable {ops : Array Oper} {rest : List Oper} {a : Act} {Q : Exit → Act → World → Prop} {dst : Option Tmp} {sx dx ty : TypeId} {X : Operand} {pos : String} {after : Array Edge} {gd : Option (Nat × Bool)}
theorem wpList_cwid (b c : Nat) (hw : Region.wanted ⟨dst, .convert sx dx X, ty, pos, after, gd⟩ (yielded ops a.tmps) = true) (hX : a.eval X = .complex .f32 b c) {b' c' : Nat} (ib : Is .f32 b b') (ic : Is .f32 c c') (hs : P.underlying sx = some (.complex .f32)) (hd : P.underlying dx = some (.complex .f64))
    (h : ∀ r s n, Is .f64 r (wid b') → Is .f64 s (wid c') → wpList P ops Q rest (a.put dst (.complex .f64 r s)) (w.drewN n)) :
    wpList P ops Q (⟨dst, .convert sx dx X, ty, pos, after, gd⟩ :: rest) a w := by
  refine wpList_do hw fun K hK => ?_
  obtain ⟨r, s, n, hrun, hr, hs2⟩ := run_cwid (P := P) w sx dx b c (by rw [hs]; rfl) hd
  rw [← wid_cn, ib.eq] at hr
  rw [← wid_cn, ic.eq] at hs2
  unfold Oper.wp
  simp [execOp, hX, hrun, Result.andThen]
  exact hK _ _ (h r s n hr hs2)
end
end

end Go.Fl
namespace Go.Loose
open Go.Fl
section
variable {P : Program} {ops : Array Oper} {S : Nat → Value → Prop} {w : World} {Q : Act → Prop} {i : Nat} {rest : List Oper} {a : Act}
theorem step_cwid {dst : Option Tmp} {sx dx ty : TypeId} {X : Operand} {pos : String} {after : Array Edge} {gd : Option (Nat × Bool)} (b c : Nat) (hw : Region.wanted ⟨dst, .convert sx dx X, ty, pos, after, gd⟩ (yielded ops a.tmps) = true) (hX : a.eval X = .complex .f32 b c) {b' c' : Nat} (ib : Is .f32 b b') (ic : Is .f32 c c')
    (hs : P.underlying sx = some (.complex .f32)) (hd : P.underlying dx = some (.complex .f64)) (hS : S i = fun v => ∃ r s, v = .complex .f64 r s ∧ Is .f64 r (wid b') ∧ Is .f64 s (wid c'))
    {d : Nat → Nat → Act} (hput : ∀ r s, a.put dst (.complex .f64 r s) = d r s) (h : ∀ r s, Is .f64 r (wid b') → Is .f64 s (wid c') → walk P ops (fun w' => ∃ n, w' = w.drewN n) S Q (i + 1) rest (d r s)) :
    walk P ops (fun w' => ∃ n, w' = w.drewN n) S Q i (⟨dst, .convert sx dx X, ty, pos, after, gd⟩ :: rest) a := by
  refine walk_step hw (fun w' ⟨n, hn⟩ => ?_) hS (fun v ⟨r, s, hv, hr, hs2⟩ => by subst hv; rw [hput]; exact h r s hr hs2)
  subst hn
  obtain ⟨r, s, m, hrun, hr, hs2⟩ := run_cwid (P := P) (w.drewN n) sx dx b c (by rw [hs]; rfl) hd
  rw [← wid_cn, ib.eq] at hr
  rw [← wid_cn, ic.eq] at hs2
  simp [execOp, hX, hrun, Result.andThen]
  exact ⟨⟨n + m, rfl⟩, r, s, rfl, hr, hs2⟩
end
end Go.Loose
