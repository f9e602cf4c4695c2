/-
  The opposite speeds.
-/
import Derived.Test.YtlfnbnhbobohlaaPtM
namespace Go.Proofs.Ytlfnbnhbobohlaa
open Go.Fl Go.RowKit
set_option linter.unusedSimpArgs false
set_option linter.unusedVariables false

theorem PTinfo : (Try.prog.info? 72).map (fun i => (i.zero, i.size, i.bytes)) = some (some (.agg ZC), 4, 24) := by kernel_rfl
def ZR4 : R4 := ⟨.complex .f32 0 0, .complex .f32 0 0, .float .f32 0, .float .f32 0⟩
theorem cells4_zero (n : Nat) : (madeCells (Value.agg ZC).cells (n * 4)).toList = cells4 (List.replicate n ZR4) := by
  apply List.ext_getElem?
  intro j
  by_cases hj : j < n * 4
  · have h1 : (cells4 (List.replicate n ZR4))[j]? = (ZR4.cs)[j % 4]? := by
      have := cells4_at (ts := List.replicate n ZR4) (k := j / 4) (by simp; omega) (j % 4) (by omega)
      rw [show 4 * (j / 4) + j % 4 = j by omega] at this
      rw [this, List.getElem_replicate]
    rw [h1]
    have h2 : j % 4 = 0 ∨ j % 4 = 1 ∨ j % 4 = 2 ∨ j % 4 = 3 := by omega
    rcases h2 with h | h | h | h <;> simp [madeCells, hj, Value.cells, h, ZR4, R4.cs]
  · rw [List.getElem?_eq_none (by simp [madeCells]; omega), List.getElem?_eq_none (by rw [cells4_len]; simp; omega)]
theorem cells4_set {xs : List R4} {k : Nat} (h : k < xs.length) (t : R4) : ((((cells4 xs).set (k * 4) t.v0).set (k * 4 + 1) t.v1).set (k * 4 + 2) t.v2).set (k * 4 + 3) t.v3 = cells4 (xs.set k t) := by
  unfold cells4
  induction xs generalizing k with
  | nil => simp at h
  | cons u us ih =>
    cases k with
    | zero => simp [R4.cs]
    | succ k =>
      have e := ih (k := k) (by simpa using h)
      rw [List.flatMap_cons, List.set_cons_succ, List.flatMap_cons, ← e]
      simp only [R4.cs, List.cons_append, List.nil_append]
      rw [show (k + 1) * 4 = k * 4 + 1 + 1 + 1 + 1 by omega]
      simp [List.set_cons_succ]
theorem r4_set {B : Nat} {w : World} {g n cap : Nat} {xs : List R4} (h : R4Own B w (.slice (some ⟨g, 0, none⟩) n cap) xs) {k : Nat} (hk : k < xs.length) (t : R4) :
    R4Own B ((((w.setCell ⟨g, k * 4, none⟩ t.v0).setCell ⟨g, k * 4 + 1, none⟩ t.v1).setCell ⟨g, k * 4 + 2, none⟩ t.v2).setCell ⟨g, k * 4 + 3, none⟩ t.v3) (.slice (some ⟨g, 0, none⟩) n cap) (xs.set k t) ∧
      w.grownBy ((((w.setCell ⟨g, k * 4, none⟩ t.v0).setCell ⟨g, k * 4 + 1, none⟩ t.v1).setCell ⟨g, k * 4 + 2, none⟩ t.v2).setCell ⟨g, k * 4 + 3, none⟩ t.v3) (some g) := by
  obtain ⟨a, cap', e, _⟩ := r4_form h
  simp only [Value.slice.injEq] at e
  obtain ⟨_, rfl, rfl⟩ := e
  unfold R4Own at h ⊢
  obtain ⟨h1, g1⟩ := h.stored (k * 4) t.v0
  obtain ⟨h2, g2⟩ := h1.stored (k * 4 + 1) t.v1
  obtain ⟨h3, g3⟩ := h2.stored (k * 4 + 2) t.v2
  obtain ⟨h4, g4⟩ := h3.stored (k * 4 + 3) t.v3
  rw [cells4_set hk] at h4
  rw [List.length_set]
  exact ⟨h4, grown_trans (grown_trans (grown_trans g1 g2) g3) g4⟩
theorem r4_cells {B : Nat} {w : World} {g n cap : Nat} {xs : List R4} (h : R4Own B w (.slice (some ⟨g, 0, none⟩) n cap) xs) {k : Nat} (hk : k < xs.length) :
    (w.cell? ⟨g, k * 4, none⟩ = some xs[k].v0 ∧ w.cell? ⟨g, k * 4 + 1, none⟩ = some xs[k].v1 ∧ w.cell? ⟨g, k * 4 + 2, none⟩ = some xs[k].v2 ∧ w.cell? ⟨g, k * 4 + 3, none⟩ = some xs[k].v3) ∧
      (w.frozen? ⟨g, k * 4, none⟩ = false ∧ w.frozen? ⟨g, k * 4 + 1, none⟩ = false ∧ w.frozen? ⟨g, k * 4 + 2, none⟩ = false ∧ w.frozen? ⟨g, k * 4 + 3, none⟩ = false) := by
  have hr := r4_at h hk
  have ht := r4_there h hk
  rw [Nat.mul_comm 4 k] at hr ht
  exact ⟨⟨hr 0 _ rfl, hr 1 _ rfl, hr 2 _ rfl, hr 3 _ rfl⟩, ⟨(ht 0 (by omega)).2, (ht 1 (by omega)).2, (ht 2 (by omega)).2, (ht 3 (by omega)).2⟩⟩

/-- The opposite speed. -/
def Pt.turn (t : Pt) : Pt := { t with x := Op.negFloat .f32 t.x, y := Op.negFloat .f32 t.y, p := -t.p, q := -t.q }
theorem Pt.ok.turn {t : Pt} (h : t.ok) : t.turn.ok :=
  ⟨h.n0, h.n1, h.m0, h.m1, by show -8 ≤ -t.p; have := h.p1; omega, by show -t.p ≤ 8; have := h.p0; omega, by show -8 ≤ -t.q; have := h.q1; omega, by show -t.q ≤ 8; have := h.q0; omega, h.c0, h.c1, h.s0, h.s1, h.dx.neg, h.dy.neg⟩
theorem oks_turn {ts : List Pt} (h : oks ts) : oks (ts.map Pt.turn) := by
  intro t ht
  obtain ⟨u, hu, rfl⟩ := List.mem_map.1 ht
  exact (h u hu).turn
theorem turn_turn (t : Pt) : t.turn.turn = t := by
  unfold Pt.turn
  simp [neg_neg]
/-- Under way: what is made, and rows of zeros. -/
def turnTo (ts : List Pt) (k : Nat) : List R4 := (ts.take k).map (fun t => t.turn.r4) ++ List.replicate (ts.length - k) ZR4
theorem turnTo_len (ts : List Pt) {k : Nat} (h : k ≤ ts.length) : (turnTo ts k).length = ts.length := by simp [turnTo]; omega
theorem turnTo_zero (ts : List Pt) : turnTo ts 0 = List.replicate ts.length ZR4 := by simp [turnTo]
theorem turnTo_all (ts : List Pt) : turnTo ts ts.length = (ts.map Pt.turn).map Pt.r4 := by simp [turnTo, List.map_map]
theorem turnTo_at (ts : List Pt) {k : Nat} (h : k < ts.length) : (turnTo ts k)[k]'(by rw [turnTo_len ts (by omega)]; exact h) = ZR4 := by
  unfold turnTo
  rw [List.getElem_append_right (by simp; exact Nat.min_le_left _ _)]
  simp
theorem turnTo_set (ts : List Pt) {k : Nat} (h : k < ts.length) : (turnTo ts k).set k ts[k].turn.r4 = turnTo ts (k + 1) := by
  unfold turnTo
  rw [List.set_append_right _ _ (by simp; exact Nat.min_le_left _ _), List.length_map, List.length_take, Nat.min_eq_left (by omega), Nat.sub_self]
  rw [show ts.length - k = ts.length - (k + 1) + 1 by omega, List.replicate_succ, List.set_cons_zero, List.take_succ_eq_append_getElem h, List.map_append]
  simp

end Go.Proofs.Ytlfnbnhbobohlaa
