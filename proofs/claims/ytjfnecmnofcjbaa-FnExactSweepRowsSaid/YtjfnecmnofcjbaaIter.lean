/-
  The neighbours of a point, as the program goes through them: the iterator's word.
-/
import Derived.RangeFuncNested
import Derived.RangeFuncBound
import Derived.RangeFuncCalls
import Derived.RangeFuncLeaves
import Derived.RangeFuncFrom
import Derived.Shelf.Abstract
import Derived.WalkKit
import Derived.OwnWalkIn
import Derived.TacticsInMore
import Derived.LoopNIn
import Derived.LoopIn
import Derived.Test.YtjfnecmnofcjbaaNbr
namespace Go.Proofs.Ytjfnecmnofcjbaa
open Go.Fl Go.RowKit
open Go.Shelf
set_option linter.unusedSimpArgs false
set_option linter.unusedVariables false
attribute [local go_sem] Oper.semAt_some

/-- The bits of a 32-bit number. -/
abbrev W32 := { x : Nat // x < 2 ^ FloatKind.f32.format.width }

/-- A step of a walk inside a fence: floats. -/
theorem wpListIn_farith {F : Fence} {n : Nat} {P : Program} {ops : Array Oper} {Q : Exit → Act → World → Prop} {rest : List Oper} {dst : Option Tmp} {ty : TypeId} {pos : String} {after : Array Edge} {gd : Option (Nat × Bool)} {X Y : Operand} {xt yt : TypeId} {a : Act} {w : World} (op : BinOp) (hw : Region.wanted ⟨dst, .binOp op xt X Y yt, ty, pos, after, gd⟩ (yielded ops a.tmps) = true) (hop : isArith op = true) (k : FloatKind) (x y : Nat) (hX : a.eval X = .float k x) (hY : a.eval Y = .float k y) {x' y' : Nat} (ix : Is k x x') (iy : Is k y y')
    (h : ∀ r m, Is k r (fop op k x' y') → wpListIn F n P ops Q rest (a.put dst (.float k r)) (w.drewN m)) :
    wpListIn F n P ops Q (⟨dst, .binOp op xt X Y yt, ty, pos, after, gd⟩ :: rest) a w := by
  refine BigFrame.wpListIn_want hw fun K hK => ?_
  obtain ⟨r, m, hrun, hr⟩ := run_farith (P := P) w op hop xt k x y
  have hg : ∀ u v : Value, eqGuard op xt X Y u v = pure () := by
    intro u v; cases op <;> first | rfl | (simp [isArith] at hop; done)
  refine ⟨fun f hf => by simp [Oper.about] at hf, ?_⟩
  rw [Oper.semAt_eq _ _ _ (by simp)]
  have he : (execOp a.eval ⟨dst, .binOp op xt X Y yt, ty, pos, after, gd⟩).run P w = .ok (.value (.float k r)) (w.drewN m) := by
    simp [execOp, hX, hY, hg, hrun, Result.andThen]
  rw [he]
  rw [ix.fop iy] at hr
  exact hK _ _ (h r m hr)

theorem index_four (v0 v1 v2 v3 : Value) (w : World) : (Instr.index 147 (.agg #[v0, v1, v2, v3]) (.int .i64 0)).run Try.prog w = .ok v0 w ∧ (Instr.index 147 (.agg #[v0, v1, v2, v3]) (.int .i64 1)).run Try.prog w = .ok v1 w ∧ (Instr.index 147 (.agg #[v0, v1, v2, v3]) (.int .i64 2)).run Try.prog w = .ok v2 w ∧ (Instr.index 147 (.agg #[v0, v1, v2, v3]) (.int .i64 3)).run Try.prog w = .ok v3 w := by
  have h := Try.underlying147
  refine ⟨?_, ?_, ?_, ?_⟩ <;> simp [Instr.index, run_underlying h, asIntOf, go_sem]

set_option maxRecDepth 100000 in
set_option maxHeartbeats 4000000 in
theorem iter_stops (n : Nat) (hn : 1 ≤ n) (k1 k2 b o len cap n₀ i0 i1 i2 i3 : Nat) (f0 f1 f2 f3 : W32) (w : World) (hk1 : k1 < w.heap.size) (hk2 : k2 < w.heap.size) (hn₀ : n₀ ≤ w.heap.size) (hb : b < n₀)
    (h1 : Four w k1 (.int .i64 i0) (.int .i64 i1) (.int .i64 i2) (.int .i64 i3)) (h2 : w.cell? ⟨k2, 0, none⟩ = some (.slice (some ⟨b, o, none⟩) len cap)) (l0 : i0 < len) (l1 : i1 < len) (l2 : i2 < len) (l3 : i3 < len)
    (c0 : w.cell? ⟨b, o + i0, none⟩ = some (.float .f32 f0.1)) (c1 : w.cell? ⟨b, o + i1, none⟩ = some (.float .f32 f1.1)) (c2 : w.cell? ⟨b, o + i2, none⟩ = some (.float .f32 f2.1)) (c3 : w.cell? ⟨b, o + i3, none⟩ = some (.float .f32 f3.1)) :
    SeqStopsK Fence.wide n Try.prog 238 #[.pointer (some ⟨k1, 0, none⟩), .pointer (some ⟨k2, 0, none⟩)] (fun x : W32 => #[Value.float .f32 x.1]) (fun W W' => W'.cell? ⟨k2, 0, none⟩ = W.cell? ⟨k2, 0, none⟩ ∧ Below n₀ W W') (fun ys => ys = [f0, f1, f2, f3]) (fun _ => True) 4 w := fun l J Jx W hW _ _ hY h0 => by
  have bW : ∀ W', Below n₀ W W' → Below n₀ w W' := fun W' h => (hW.mono hn₀).trans h
  have a0 := (hW.cell (p := ⟨k1, 0, none⟩) hk1).trans h1.1
  have a1 := (hW.cell (p := ⟨k1, 1, none⟩) hk1).trans h1.2.1
  have a2 := (hW.cell (p := ⟨k1, 2, none⟩) hk1).trans h1.2.2.1
  have a3 := (hW.cell (p := ⟨k1, 3, none⟩) hk1).trans h1.2.2.2
  have d2 := (hW.cell (p := ⟨k2, 0, none⟩) hk2).trans h2
  have L0 : (i0 : Int) < (len : Int) := by omega
  have L1 : (i1 : Int) < (len : Int) := by omega
  have L2 : (i2 : Int) < (len : Int) := by omega
  have L3 : (i3 : Int) < (len : Int) := by omega
  have Z0 : (0 : Int) ≤ (i0 : Int) := Int.natCast_nonneg _
  have Z1 : (0 : Int) ≤ (i1 : Int) := Int.natCast_nonneg _
  have Z2 : (0 : Int) ≤ (i2 : Int) := Int.natCast_nonneg _
  have Z3 : (0 : Int) ≤ (i3 : Int) := Int.natCast_nonneg _
  have HB := Lib.hid bW
  have C0 := Lib.hid c0; have C1 := Lib.hid c1; have C2 := Lib.hid c2; have C3 := Lib.hid c3
  clear c0 c1 c2 c3 h1 h2 hW bW
  show CallsIn Fence.wide n Try.prog 238 #[.func (.yield l) #[] #[], .pointer (some ⟨k1, 0, none⟩), .pointer (some ⟨k2, 0, none⟩)] W _
  refine callsIn_of_wp Try.func238 rfl trivial ?_ rfl
  simp only [Try.ntmps238, List.size_toArray, List.length_cons, List.length_nil, Nat.reduceAdd, Nat.reduceSub, Array.replicate_succ, Array.replicate_zero, List.push_toArray, List.append_toArray, List.nil_append, List.cons_append]
  gi_wp2
  gi_loopw [7] (fun i wr => ∃ k : Nat, k ≤ 4 ∧ i = .int .i64 k ∧ J ([f0, f1, f2, f3].take k) wr ∧ wr.cell? ⟨k2, 0, none⟩ = some (.slice (some ⟨b, o, none⟩) len cap) ∧ Hid (Below n₀ W wr)) (fun i _ => 4 - (intOf i).toNat)
  case atStart => exact ⟨0, Nat.zero_le _, rfl, h0, d2, Lib.hid (Below.refl _ _)⟩
  case round =>
    clear d2
    have q0 := fun W => (index_four (.int .i64 i0) (.int .i64 i1) (.int .i64 i2) (.int .i64 i3) W).1
    have q1 := fun W => (index_four (.int .i64 i0) (.int .i64 i1) (.int .i64 i2) (.int .i64 i3) W).2.1
    have q2 := fun W => (index_four (.int .i64 i0) (.int .i64 i1) (.int .i64 i2) (.int .i64 i3) W).2.2.1
    have q3 := fun W => (index_four (.int .i64 i0) (.int .i64 i1) (.int .i64 i2) (.int .i64 i3) W).2.2.2
    obtain ⟨k, hk, rfl, hJs, hs, hnx⟩ := hrel
    have x0 := ((HB.out wr hnx.out).cell (p := ⟨b, o + i0, none⟩) hb).trans C0.out
    have x1 := ((HB.out wr hnx.out).cell (p := ⟨b, o + i1, none⟩) hb).trans C1.out
    have x2 := ((HB.out wr hnx.out).cell (p := ⟨b, o + i2, none⟩) hb).trans C2.out
    have x3 := ((HB.out wr hnx.out).cell (p := ⟨b, o + i3, none⟩) hb).trans C3.out
    obtain rfl | rfl | rfl | rfl | rfl : k = 0 ∨ k = 1 ∨ k = 2 ∨ k = 3 ∨ k = 4 := by omega
    · obtain ⟨fn, tmps, assign, body, hy, hR⟩ := hY _ f0 wr hJs (by simp)
      try dsimp only at hy
      gi_wp2
      refine hR.mono ?_
      rintro e W3 (⟨rfl, hJ3, hk3⟩ | ⟨rfl, hJx3⟩)
      · have hs3 := hk3.1.trans hs
        have HN := Lib.hid (hnx.out.trans hk3.2)
        gi_wp2
        go_roundw
        case rel => exact ⟨1, by omega, rfl, hJ3, hs3, HN⟩
        case measure => simp [intOf]
      · gi_wp2
        refine bodyPost_ret (results_none rfl _ _ _) rfl ?_
        exact ⟨⟨_, rfl⟩, .inr ⟨_, trivial, hJx3⟩⟩
    · obtain ⟨fn, tmps, assign, body, hy, hR⟩ := hY _ f1 wr hJs (by simp)
      try dsimp only at hy
      gi_wp2
      refine hR.mono ?_
      rintro e W3 (⟨rfl, hJ3, hk3⟩ | ⟨rfl, hJx3⟩)
      · have hs3 := hk3.1.trans hs
        have HN := Lib.hid (hnx.out.trans hk3.2)
        gi_wp2
        go_roundw
        case rel => exact ⟨2, by omega, rfl, hJ3, hs3, HN⟩
        case measure => simp [intOf]
      · gi_wp2
        refine bodyPost_ret (results_none rfl _ _ _) rfl ?_
        exact ⟨⟨_, rfl⟩, .inr ⟨_, trivial, hJx3⟩⟩
    · obtain ⟨fn, tmps, assign, body, hy, hR⟩ := hY _ f2 wr hJs (by simp)
      try dsimp only at hy
      gi_wp2
      refine hR.mono ?_
      rintro e W3 (⟨rfl, hJ3, hk3⟩ | ⟨rfl, hJx3⟩)
      · have hs3 := hk3.1.trans hs
        have HN := Lib.hid (hnx.out.trans hk3.2)
        gi_wp2
        go_roundw
        case rel => exact ⟨3, by omega, rfl, hJ3, hs3, HN⟩
        case measure => simp [intOf]
      · gi_wp2
        refine bodyPost_ret (results_none rfl _ _ _) rfl ?_
        exact ⟨⟨_, rfl⟩, .inr ⟨_, trivial, hJx3⟩⟩
    · obtain ⟨fn, tmps, assign, body, hy, hR⟩ := hY _ f3 wr hJs (by simp)
      try dsimp only at hy
      gi_wp2
      refine hR.mono ?_
      rintro e W3 (⟨rfl, hJ3, hk3⟩ | ⟨rfl, hJx3⟩)
      · have hs3 := hk3.1.trans hs
        have HN := Lib.hid (hnx.out.trans hk3.2)
        gi_wp2
        go_roundw
        case rel => exact ⟨4, by omega, rfl, hJ3, hs3, HN⟩
        case measure => simp [intOf]
      · gi_wp2
        refine bodyPost_ret (results_none rfl _ _ _) rfl ?_
        exact ⟨⟨_, rfl⟩, .inr ⟨_, trivial, hJx3⟩⟩
    · gi_wp2
      go_end0
      exact ⟨⟨_, rfl⟩, .inl ⟨_, rfl, hJs⟩⟩
end Go.Proofs.Ytjfnecmnofcjbaa
