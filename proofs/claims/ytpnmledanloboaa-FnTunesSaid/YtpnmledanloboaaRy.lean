/-
  Rays: rows of three cells.
-/
import Derived.Test.YtpnmledanloboaaOwn
import Derived.Test.YtpnmledanloboaaPair
import Derived.Deep.Slices
import Derived.Deep.Fields
import Derived.ChangeSame
import Derived.Deep.MidRow
namespace Go.Proofs.Ytpnmledanloboaa
open Go.Fl Go.RowKit
set_option linter.unusedSimpArgs false
set_option linter.unusedVariables false

/-- The three cells of a ray. -/
structure Ry where
  x : Nat
  y : Nat
  p : Nat
  e : Nat
def Ry.cs (t : Ry) : List Value := [.complex .f32 t.x t.y, .float .f32 t.p, .float .f32 t.e]
def Ry.val (t : Ry) : Value := .agg #[.complex .f32 t.x t.y, .float .f32 t.p, .float .f32 t.e]
def Ry.is (t k : Ry) : Prop := Is .f32 t.x k.x ∧ Is .f32 t.y k.y ∧ Is .f32 t.p k.p ∧ Is .f32 t.e k.e
def cellsR (ts : List Ry) : List Value := ts.flatMap Ry.cs
theorem cellsR_len (ts : List Ry) : (cellsR ts).length = ts.length * 3 := by
  unfold cellsR
  induction ts with
  | nil => rfl
  | cons t ts ih => rw [List.flatMap_cons, List.length_append, ih, List.length_cons]; simp [Ry.cs]; omega
theorem cellsR_app (xs ys : List Ry) : cellsR (xs ++ ys) = cellsR xs ++ cellsR ys := List.flatMap_append
theorem cellsR_at {ts : List Ry} {k : Nat} (h : k < ts.length) (j : Nat) (hj : j < 3) : (cellsR ts)[3 * k + j]? = (ts[k].cs)[j]? := by
  unfold cellsR
  induction ts generalizing k with
  | nil => simp at h
  | cons t ts ih =>
    rw [List.flatMap_cons]
    cases k with
    | zero => rw [Nat.mul_zero, Nat.zero_add, List.getElem?_append_left (by simp [Ry.cs]; omega)]; rfl
    | succ k =>
      rw [List.getElem?_append_right (by simp [Ry.cs]; omega)]
      rw [show 3 * (k + 1) + j - t.cs.length = 3 * k + j by simp [Ry.cs]; omega]
      exact ih (by simpa using h)
theorem cellsR_set {xs : List Ry} {k : Nat} (h : k < xs.length) (t : Ry) : (((cellsR xs).set (k * 3) (.complex .f32 t.x t.y)).set (k * 3 + 1) (.float .f32 t.p)).set (k * 3 + 2) (.float .f32 t.e) = cellsR (xs.set k t) := by
  unfold cellsR
  induction xs generalizing k with
  | nil => simp at h
  | cons u us ih =>
    cases k with
    | zero => simp [Ry.cs]
    | succ k =>
      have e := ih (k := k) (by simpa using h)
      rw [List.flatMap_cons, List.set_cons_succ, List.flatMap_cons, ← e]
      simp only [Ry.cs, List.cons_append, List.nil_append]
      rw [show (k + 1) * 3 = k * 3 + 1 + 1 + 1 by omega]
      simp [List.set_cons_succ]
/-- A list of rays of the call's own. -/
def RwOwn (B : Nat) (w : World) (v : Value) (ts : List Ry) : Prop := w.ownsRow B 61 3 v ts.length (cellsR ts)
theorem ry_form {B : Nat} {w : World} {v : Value} {xs : List Ry} (h : RwOwn B w v xs) : ∃ a cap, v = .slice a xs.length cap ∧ (xs = [] ∨ ∃ g, a = some ⟨g, 0, none⟩ ∧ B ≤ g ∧ g < w.heap.size) := by
  have hl := h.lt
  rcases h.2 with ⟨rfl, h0⟩ | ⟨g, cap, cur, rfl, hB, _⟩
  · exact ⟨none, 0, by rw [h0], .inl (List.length_eq_zero_iff.1 h0)⟩
  · exact ⟨_, _, rfl, .inr ⟨g, rfl, hl g rfl⟩⟩
theorem ry_cap {B : Nat} {w : World} {a : Option Addr} {n cap : Nat} {xs : List Ry} (h : RwOwn B w (.slice a n cap) xs) : cap ≤ maxLen := by
  rcases h.2 with ⟨e, h0⟩ | ⟨g, c, cur, e, hB, hg, hl, hm, _⟩
  · simp only [Value.slice.injEq] at e; rw [e.2.2]; exact Nat.zero_le _
  · simp only [Value.slice.injEq] at e; rw [e.2.2]; exact hm
theorem ry_below {B : Nat} {w w' : World} {v : Value} {xs : List Ry} (h : RwOwn B w v xs) (hb : Below w.heap.size w w') : RwOwn B w' v xs :=
  World.ownsRow.kept h (grown_below (row := none) hb) (by cases v.ownBlock <;> simp)
theorem ry_grown {B : Nat} {w w' : World} {u v : Value} {xs : List Ry} (h : RwOwn B w v xs) (hg : w.grownBy w' u.ownBlock) (hne : v.ownBlock = none ∨ v.ownBlock ≠ u.ownBlock) : RwOwn B w' v xs :=
  World.ownsRow.kept h hg hne
theorem ry_cells {B : Nat} {w : World} {g n cap : Nat} {xs : List Ry} (h : RwOwn B w (.slice (some ⟨g, 0, none⟩) n cap) xs) {k : Nat} (hk : k < xs.length) :
    (w.cell? ⟨g, k * 3, none⟩ = some (.complex .f32 xs[k].x xs[k].y) ∧ w.cell? ⟨g, k * 3 + 1, none⟩ = some (.float .f32 xs[k].p) ∧ w.cell? ⟨g, k * 3 + 2, none⟩ = some (.float .f32 xs[k].e)) ∧
      (w.frozen? ⟨g, k * 3, none⟩ = false ∧ w.frozen? ⟨g, k * 3 + 1, none⟩ = false ∧ w.frozen? ⟨g, k * 3 + 2, none⟩ = false) := by
  have hn := h
  unfold RwOwn at hn
  obtain ⟨a, cap', e, _⟩ := ry_form h
  simp only [Value.slice.injEq] at e
  obtain ⟨_, rfl, _⟩ := e
  have hc : ∀ j, j < 3 → w.cell? ⟨g, k * 3 + j, none⟩ = (xs[k].cs)[j]? := fun j hj => by
    rw [hn.cellAt (k * 3 + j) (by omega), show k * 3 + j = 3 * k + j by omega, cellsR_at hk j hj]
  exact ⟨⟨hc 0 (by omega), hc 1 (by omega), hc 2 (by omega)⟩, hn.frozenAt _, hn.frozenAt _, hn.frozenAt _⟩
theorem ry_set {B : Nat} {w : World} {g n cap : Nat} {xs : List Ry} (h : RwOwn B w (.slice (some ⟨g, 0, none⟩) n cap) xs) {k : Nat} (hk : k < xs.length) (t : Ry) :
    RwOwn B (((w.setCell ⟨g, k * 3, none⟩ (.complex .f32 t.x t.y)).setCell ⟨g, k * 3 + 1, none⟩ (.float .f32 t.p)).setCell ⟨g, k * 3 + 2, none⟩ (.float .f32 t.e)) (.slice (some ⟨g, 0, none⟩) n cap) (xs.set k t) ∧
      w.grownBy (((w.setCell ⟨g, k * 3, none⟩ (.complex .f32 t.x t.y)).setCell ⟨g, k * 3 + 1, none⟩ (.float .f32 t.p)).setCell ⟨g, k * 3 + 2, none⟩ (.float .f32 t.e)) (some g) := by
  obtain ⟨a, cap', e, _⟩ := ry_form h
  simp only [Value.slice.injEq] at e
  obtain ⟨_, rfl, rfl⟩ := e
  unfold RwOwn at h ⊢
  obtain ⟨h1, g1⟩ := h.stored (k * 3) (.complex .f32 t.x t.y)
  obtain ⟨h2, g2⟩ := h1.stored (k * 3 + 1) (.float .f32 t.p)
  obtain ⟨h3, g3⟩ := h2.stored (k * 3 + 2) (.float .f32 t.e)
  rw [cellsR_set hk] at h3
  rw [List.length_set]
  exact ⟨h3, grown_trans (grown_trans g1 g2) g3⟩

/-- What the rays stand for. -/
def EqR (ts : List Ry) (K : Nat → Ry) : Prop := ∀ j (h : j < ts.length), Ry.is ts[j] (K j)
theorem EqR.nil (K : Nat → Ry) : EqR [] K := fun j h => absurd h (Nat.not_lt_zero j)
theorem EqR.snoc {ts : List Ry} {K : Nat → Ry} {t : Ry} (h : EqR ts K) (ht : Ry.is t (K ts.length)) : EqR (ts ++ [t]) K := by
  intro j hj
  rw [List.length_append, List.length_singleton] at hj
  by_cases e : j < ts.length
  · rw [List.getElem_append_left e]; exact h j e
  · obtain rfl : j = ts.length := by omega
    rw [List.getElem_append_right (Nat.le_refl _)]; simpa using ht
def RRes (B : Nat) (w : World) (v : Value) (n : Nat) (K : Nat → Ry) : Prop := ∃ ts, ts.length = n ∧ EqR ts K ∧ RwOwn B w v ts
theorem rres_none (B : Nat) (w : World) (K : Nat → Ry) : RRes B w (.slice none 0 0) 0 K := ⟨[], rfl, EqR.nil _, World.ownsRow_nil w B 61 3⟩
end Go.Proofs.Ytpnmledanloboaa
