/-
  Walls, exactly: where who is thrown back then stands.
-/
import Derived.Test.YtahgnjmdlhidpaaTak
import Derived.Test.YtahgnjmdlhidpaaRef
namespace Go.Proofs.Ytahgnjmdlhidpaa
open Go.Fl Go.RowKit
set_option linter.unusedSimpArgs false
set_option linter.unusedVariables false

theorem two_dv : Dv .f32 149 1073741824 2 := (Dy.of (by decide +kernel) : Dy .f32 149 1073741824 2).dv
theorem half_dv : Dv .f32 148 1056964608 1 := (Dy.of (by decide +kernel) : Dy .f32 148 1056964608 1).dv
theorem nhalf_dv : Dv .f32 148 3204448256 (-1) := by
  have := half_dv.neg
  rwa [show Op.negFloat .f32 1056964608 = 3204448256 by decide +kernel] at this
theorem twice_dy {x : Nat} {A : Int} (h : Dy .f32 146 x A) (h0 : 0 ≤ A) (h1 : A ≤ 100) : Dy .f32 146 (fop .mul .f32 1073741824 x) (2 * A) := by
  have hm := two_dv.mul h.dv (w := 146) (by decide) (by show _ < 2 ^ 24; omega) (fit32 (by omega) (by decide))
  refine hm.1.dy fun _ => ?_
  rw [hm.2, h.sg, decide_eq_false (by omega)]
  decide +kernel
theorem halved_dv {x : Nat} {p : Int} (h : Dv .f32 146 x p) (h0 : -100 ≤ p) (h1 : p ≤ 100) : Dv .f32 145 (fop .mul .f32 (Op.negFloat .f32 x) 1056964608) (-p) := by
  have := h.neg.mul32 half_dv (w := 145) (by decide) (by omega) (by decide)
  rwa [Int.mul_one] at this
theorem nhalved_dv {x : Nat} {p : Int} (h : Dv .f32 146 x p) (h0 : -100 ≤ p) (h1 : p ≤ 100) : Dv .f32 145 (fop .mul .f32 3204448256 x) (-p) := by
  have := nhalf_dv.mul32 h (w := 145) (by decide) (by omega) (by decide)
  rwa [show (-1 : Int) * p = -p by omega] at this

/-- Two walls, in eighths. -/
structure Wl (lo hi : Nat) (A B : Int) : Prop where
  l : Dy .f32 146 lo A
  h : Dy .f32 146 hi B
  a0 : 0 ≤ A
  ab : A < B
  b1 : B ≤ 60
/-- A drawn particle's place. -/
structure Here (t : Pt) : Prop where
  ok : t.ok
  n0 : 0 ≤ t.n
  n1 : t.n < 64
section
variable {lo hi : Nat} {A B : Int} {t : Pt}
theorem Wl.ordered (w : Wl lo hi A B) : fcmp .lss .f32 lo hi = true := by rw [w.l.lss w.h]; exact decide_eq_true w.ab
theorem Here.dy (h : Here t) : Dy .f32 146 (E8 t.n) t.n := dy_e8 _ (by have := h.n0; omega) (by have := h.n1; omega)
theorem here_below (w : Wl lo hi A B) (h : Here t) : fcmp .lss .f32 t.pq.a lo = decide (t.n < A) := h.dy.lss w.l
theorem here_above (w : Wl lo hi A B) (h : Here t) : fcmp .gtr .f32 t.pq.a hi = decide (t.n > B) := h.dy.gtr w.h
theorem wall_dy (w : Wl lo hi A B) (h : Here t) : Dy .f32 146 (wallF lo hi t.pq) (if t.n < A then A else B) := by
  unfold wallF
  rw [here_below w h]
  by_cases hl : t.n < A
  · rw [if_pos (decide_eq_true hl), if_pos hl]; exact w.l
  · rw [if_neg (by rw [decide_eq_false hl]; decide), if_neg hl]; exact w.h
theorem wall_in (w : Wl lo hi A B) (t : Pt) : 0 ≤ (if t.n < A then A else B) ∧ (if t.n < A then A else B) ≤ 60 := by
  have := w.a0; have := w.ab; have := w.b1
  split <;> omega
theorem throw_a (w : Wl lo hi A B) (h : Here t) : Dy .f32 146 (throwF lo hi 1056964608 t.pq).a (2 * (if t.n < A then A else B) - t.n) := by
  have hw := wall_in w t
  have := h.n0; have := h.n1
  exact (twice_dy (wall_dy w h) hw.1 (by omega)).sub32 h.dy (by decide) (by omega)
theorem throw_x (h : Here t) (lo hi : Nat) : Dv .f32 145 (throwF lo hi 1056964608 t.pq).x (-t.p) := halved_dv h.ok.dx (by have := h.ok.p0; omega) (by have := h.ok.p1; omega)
theorem throw_ok (w : Wl lo hi A B) (h : Here t) : (throwF lo hi 1056964608 t.pq).ok := by
  have hp := h.ok.pq
  exact ⟨dv_num (throw_a w h).dv, hp.nb, dv_num (throw_x h lo hi), hp.ny, hp.nc, hp.ns, hp.ms⟩
theorem refl_ok (w : Wl lo hi A B) (h : Here t) : (reflF lo hi 1056964608 t.pq).ok := by
  unfold reflF
  split
  · exact throw_ok w h
  · exact h.ok.pq
end
theorem sum_chg (lo hi : Nat) (ts : List Pt) : (ts.map chgI).sum = (ts.map (outC lo hi)).sum + ((ts.filter (stayB lo hi)).map chgI).sum := by
  induction ts with
  | nil => rfl
  | cons t ts ih =>
    rw [List.map_cons, List.sum_cons, ih, List.map_cons, List.sum_cons, List.filter_cons]
    unfold outC stayB
    cases outB lo hi t.pq with
    | true => simp [chgI]; omega
    | false => simp [chgI]; omega
theorem sumI_all (f : Pt → Int) (ts : List Pt) : sumI f ts ts.length = (ts.map f).sum := by unfold sumI; rw [List.take_length]
theorem stay_all (lo hi : Nat) (ts : List Pt) : stayTo lo hi ts ts.length = ts.filter (stayB lo hi) := by unfold stayTo; rw [List.take_length]
theorem charges (lo hi : Nat) (ts : List Pt) : sumI chgI ts ts.length = sumI (outC lo hi) ts ts.length + sumI chgI (stayTo lo hi ts ts.length) (stayTo lo hi ts ts.length).length := by
  rw [sumI_all, sumI_all, sumI_all, stay_all]; exact sum_chg lo hi ts
theorem counts (lo hi : Nat) (ts : List Pt) : cntO lo hi (ts.map Pt.pq) ts.length = (ts.length : Int) - ((stayTo lo hi ts ts.length).length : Int) := by
  unfold cntO
  rw [stay_all, List.take_of_length_le (by simp), List.countP_map, ← List.countP_eq_length_filter]
  have h := List.length_eq_countP_add_countP (l := ts) (outB lo hi ∘ Pt.pq)
  have e : ts.countP (stayB lo hi) = ts.countP (fun a => decide ¬(outB lo hi ∘ Pt.pq) a = true) := by
    congr 1
    funext t
    unfold stayB
    simp [Function.comp]
  rw [e]
  omega
end Go.Proofs.Ytahgnjmdlhidpaa
