/-
  Lists of 32-bit numbers of a call's own: what keeps them; results.
-/
import Derived.Test.YtpnmledanloboaaMarkG
import Derived.Deep.RegionHeld3
import Derived.Deep.AppendLies
import Derived.OwnWalk
namespace Go.Proofs.Ytpnmledanloboaa
open Go.Fl Go.RowKit

/-- The numbers of rs are those of F, up to the bits of not-a-numbers. -/
def Eqs (rs : List Nat) (F : Nat → Nat) : Prop := ∀ j, j < rs.length → Is .f32 (rs.getD j 0) (F j)
theorem Eqs.nil (F : Nat → Nat) : Eqs [] F := fun j h => absurd h (Nat.not_lt_zero j)
theorem Eqs.snoc {rs : List Nat} {F : Nat → Nat} {r : Nat} (h : Eqs rs F) (hr : Is .f32 r (F rs.length)) : Eqs (rs ++ [r]) F := by
  intro j hj
  rw [List.length_append, List.length_singleton] at hj
  rw [List.getD_eq_getElem?_getD]
  by_cases h1 : j < rs.length
  · rw [List.getElem?_append_left h1, ← List.getD_eq_getElem?_getD]; exact h j h1
  · obtain rfl : j = rs.length := by omega
    rw [List.getElem?_append_right (Nat.le_refl _), Nat.sub_self]
    exact hr
theorem Eqs.lt {rs : List Nat} {F : Nat → Nat} (h : Eqs rs F) : ∀ x ∈ rs, x < 2 ^ FloatKind.f32.format.width := by
  intro x hx
  obtain ⟨j, hj, rfl⟩ := List.mem_iff_getElem.1 hx
  have := (h j hj).lt
  rwa [List.getD_eq_getElem?_getD, List.getElem?_eq_getElem hj, Option.getD_some] at this
theorem eqs_cn {rs ss : List Nat} {F : Nat → Nat} (h : Eqs rs F) (k : Eqs ss F) (hl : rs.length = ss.length) : ∀ i, i < rs.length → cn .f32 (rs.getD i 0) = cn .f32 (ss.getD i 0) :=
  fun i hi => (h i hi).eq.trans (k i (hl ▸ hi)).eq.symm

/-- A number of a list, in a world in which what lay there has not turned. -/
theorem FS.at {k : FloatKind} {w w' : World} {a : Option Addr} {n c : Nat} {xs : List Nat} (h : FS k w (.slice a n c) xs) (hb : Below w.heap.size w w') {i : Nat} (hi : i < xs.length) :
    ∃ b o, a = some ⟨b, o, none⟩ ∧ w'.cell? ⟨b, o + i, none⟩ = some (.float k (xs.getD i 0)) := by
  obtain ⟨a', cap, hv, _, _, _, hm⟩ := h
  rcases hm with rfl | ⟨b, off, rfl, hlt, hc⟩
  · simp at hi
  · simp only [Value.slice.injEq] at hv
    exact ⟨b, off, hv.1, by rw [hb.cell (p := ⟨b, off + i, none⟩) hlt]; exact hc i hi⟩
theorem FS.ever {k : FloatKind} {w : World} {b o : Nat} {n c : Nat} {xs : List Nat} (h : FS k w (.slice (some ⟨b, o, none⟩) n c) xs) {i : Nat} (hi : i < xs.length) :
    ∀ w', Below w.heap.size w w' → w'.cell? ⟨b, o + i, none⟩ = some (.float k (xs.getD i 0)) := by
  intro w' hb
  obtain ⟨b', o', e, hc⟩ := FS.at h hb hi
  cases e
  exact hc
theorem fs_open {k : FloatKind} {w : World} {a : Option Addr} {n c : Nat} {xs : List Nat} (h : FS k w (.slice a n c) xs) : n = xs.length ∧ c ≤ maxLen ∧ ∀ x ∈ xs, x < 2 ^ k.format.width := by
  obtain ⟨a', cap, hv, _, hm, hw, _⟩ := h
  simp only [Value.slice.injEq] at hv
  exact ⟨hv.2.1, by rw [hv.2.2]; exact hm, hw⟩

/-- A result: a list of n numbers in the call's own memory. -/
def FRes (B : Nat) (w : World) (v : Value) (n : Nat) (F : Nat → Nat) : Prop := ∃ rs, rs.length = n ∧ Eqs rs F ∧ FOwn B w v rs
theorem fres_none (B : Nat) (w : World) (F : Nat → Nat) : FRes B w (.slice none 0 0) 0 F := ⟨[], rfl, Eqs.nil _, World.ownsRow_nil w B 23 1⟩

theorem grown_below {w w' : World} {row : Option Nat} (h : Below w.heap.size w w') : w.grownBy w' row := ⟨h.os, h.tape, h.output, h.size, fun k hk _ => h.block k hk⟩
theorem fown_below {B : Nat} {w w' : World} {v : Value} {xs : List Nat} (h : FOwn B w v xs) (hb : Below w.heap.size w w') : FOwn B w' v xs :=
  World.ownsRow.kept h (grown_below (row := none) hb) (by cases v.ownBlock <;> simp)
theorem fown_grown {B : Nat} {w w' : World} {u v : Value} {xs : List Nat} (h : FOwn B w v xs) (hg : w.grownBy w' u.ownBlock) (hne : v.ownBlock = none ∨ v.ownBlock ≠ u.ownBlock) : FOwn B w' v xs :=
  World.ownsRow.kept h hg hne
/-- Values whose blocks lie apart. -/
theorem apart {u v : Value} {B U B' U' : Nat} (hv : ∀ k, v.ownBlock = some k → B ≤ k ∧ k < U) (hu : ∀ k, u.ownBlock = some k → B' ≤ k ∧ k < U') (h : U ≤ B' ∨ U' ≤ B) : v.ownBlock = none ∨ v.ownBlock ≠ u.ownBlock := by
  cases h1 : v.ownBlock with
  | none => exact .inl rfl
  | some k =>
    refine .inr fun e => ?_
    have := hv k h1
    have := hu k (by rw [← e])
    omega

theorem own_start (B : Nat) (w : World) (h : B ≤ w.heap.size) : (w.alloc (.cells #[] 23)).ownsRow B 23 1 (.slice (some ⟨w.heap.size, 0, none⟩) 0 0) 0 [] :=
  World.ownsRow_made w #[] 0 h (Nat.zero_le _) rfl

/-- Behind a draw and a block for the element to be appended. -/
theorem own_next {B g cap k : Nat} {wr : World} {rs : List Nat} (h : wr.ownsRow B 23 1 (.slice (some ⟨g, 0, none⟩) k cap) k (rs.map (Value.float .f32))) (n r : Nat) :
    ((wr.drewN n).alloc (.cells #[.float .f32 r] 23)).ownsRow B 23 1 (.slice (some ⟨g, 0, none⟩) k cap) k (rs.map (Value.float .f32)) :=
  World.ownsRow.alloc (World.ownsRow.kept h (grown_below (row := none) (below_drewN (Below.refl wr.heap.size wr) n)) (.inr (by simp [Value.ownBlock]))) _
theorem below_next {w wr : World} (h : Below w.heap.size w wr) (n r : Nat) : Below w.heap.size w ((wr.drewN n).alloc (.cells #[.float .f32 r] 23)) :=
  (below_drewN h n).alloc h.size _

/-- A list under way: the first numbers, zeros behind them. -/
def ptl (rs : List Nat) (n : Nat) : List Value := rs.map (Value.float .f32) ++ List.replicate (n - rs.length) (.float .f32 0)
theorem ptl_zero (n : Nat) : ptl [] n = List.replicate n (.float .f32 0) := by simp [ptl]
theorem ptl_all (rs : List Nat) : ptl rs rs.length = rs.map (Value.float .f32) := by simp [ptl]
theorem ptl_set (rs : List Nat) (n r : Nat) (h : rs.length < n) : (ptl rs n).set rs.length (.float .f32 r) = ptl (rs ++ [r]) n := by
  unfold ptl
  rw [List.set_append_right _ _ (by simp)]
  rw [List.length_map, Nat.sub_self, show n - rs.length = (n - (rs ++ [r]).length) + 1 by simp; omega, List.replicate_succ, List.set_cons_zero]
  simp
theorem ptl_get (rs : List Nat) (n : Nat) (h : rs.length < n) : (ptl rs n)[rs.length]? = some (.float .f32 0) := by
  unfold ptl
  rw [List.getElem?_append_right (by simp), List.length_map, Nat.sub_self, List.getElem?_replicate, if_pos (by omega)]

theorem hstep_fa {P : Program} {ops : Array Oper} {o : Oper} {a : Act} {w : World} {K : Act → World → Prop} {Q : Exit → Act → World → Prop} {E : Prop} (hgd : o.guard = none) (op : BinOp) (xt yt : TypeId) (X Y : Operand) (ho : o.op = .binOp op xt X Y yt) (hop : isArith op = true)
    (k : FloatKind) (x y : Nat) (hX : a.eval X = .float k x) (hY : a.eval Y = .float k y) {x' y' : Nat} (ix : Is k x x') (iy : Is k y y')
    (h : ∀ r n, Is k r (fop op k x' y') → K (a.put o.dst (.float k r)) (w.drewN n)) : if Region.wanted o (yielded ops a.tmps) = true then Oper.wp P o a w K Q else E := by
  have hw : Region.wanted o (yielded ops a.tmps) = true := by simp [Region.wanted, hgd]
  rw [if_pos hw]
  obtain ⟨r, m, hrun, hr⟩ := run_farith (P := P) w op hop xt k x y
  have hg : ∀ u v : Value, eqGuard op xt X Y u v = pure () := by
    intro u v; cases op <;> first | rfl | (simp [isArith] at hop; done)
  rw [ix.fop iy] at hr
  unfold Oper.wp
  have he : (execOp a.eval o).run P w = .ok (.value (.float k r)) (w.drewN m) := by
    simp [execOp, ho, hX, hY, hg, hrun, Result.andThen]
  rw [he]
  exact h r m hr
end Go.Proofs.Ytpnmledanloboaa
