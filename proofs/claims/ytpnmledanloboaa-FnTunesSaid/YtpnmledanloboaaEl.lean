/-
  Elements of lines: rows of three cells; the laws' own copies, comparisons and marks.
-/
import Derived.Test.YtpnmledanloboaaOwn
import Derived.Test.YtpnmledanloboaaPair
import Derived.Deep.Slices
import Derived.Deep.Fields
import Derived.ChangeSame
import Derived.Deep.MidRow
namespace Go.Proofs.Ytpnmledanloboaa
open Go.Fl Go.RowKit
set_option linter.unusedSimpArgs false
set_option linter.unusedVariables false

/-- The three cells of an element. -/
structure El where
  k : Int
  n : Nat
  p : Nat
def El.cs (t : El) : List Value := [.int .i64 t.k, .float .f32 t.n, .float .f32 t.p]
def El.val (t : El) : Value := .agg #[.int .i64 t.k, .float .f32 t.n, .float .f32 t.p]
structure El.ok (t : El) : Prop where
  k0 : -9223372036854775808 ≤ t.k
  k1 : t.k ≤ 9223372036854775807
  wn : t.n < 2 ^ FloatKind.f32.format.width
  wp : t.p < 2 ^ FloatKind.f32.format.width
def El.N (t : El) : Nat := cn .f32 t.n
def El.P (t : El) : Nat := cn .f32 t.p
theorem El.ok.iN {t : El} (h : t.ok) : Is .f32 t.n t.N := Is.of_lt h.wn
theorem El.ok.iP {t : El} (h : t.ok) : Is .f32 t.p t.P := Is.of_lt h.wp
def oksE (ts : List El) : Prop := ∀ t ∈ ts, t.ok
theorem oksE_at {xs : List El} (h : oksE xs) {k : Nat} (hk : k < xs.length) : xs[k].ok := h _ (List.getElem_mem hk)
def cells3 (ts : List El) : List Value := ts.flatMap El.cs
theorem cells3_len (ts : List El) : (cells3 ts).length = ts.length * 3 := by
  unfold cells3
  induction ts with
  | nil => rfl
  | cons t ts ih => rw [List.flatMap_cons, List.length_append, ih, List.length_cons]; simp [El.cs]; omega
theorem cells3_app (xs ys : List El) : cells3 (xs ++ ys) = cells3 xs ++ cells3 ys := List.flatMap_append
theorem cells3_at {ts : List El} {k : Nat} (h : k < ts.length) (j : Nat) (hj : j < 3) : (cells3 ts)[3 * k + j]? = (ts[k].cs)[j]? := by
  unfold cells3
  induction ts generalizing k with
  | nil => simp at h
  | cons t ts ih =>
    rw [List.flatMap_cons]
    cases k with
    | zero => rw [Nat.mul_zero, Nat.zero_add, List.getElem?_append_left (by simp [El.cs]; omega)]; rfl
    | succ k =>
      rw [List.getElem?_append_right (by simp [El.cs]; omega)]
      rw [show 3 * (k + 1) + j - t.cs.length = 3 * k + j by simp [El.cs]; omega]
      exact ih (by simpa using h)
theorem cells3_set {xs : List El} {k : Nat} (h : k < xs.length) (t : El) : (((cells3 xs).set (k * 3) (.int .i64 t.k)).set (k * 3 + 1) (.float .f32 t.n)).set (k * 3 + 2) (.float .f32 t.p) = cells3 (xs.set k t) := by
  unfold cells3
  induction xs generalizing k with
  | nil => simp at h
  | cons u us ih =>
    cases k with
    | zero => simp [El.cs]
    | succ k =>
      have e := ih (k := k) (by simpa using h)
      rw [List.flatMap_cons, List.set_cons_succ, List.flatMap_cons, ← e]
      simp only [El.cs, List.cons_append, List.nil_append]
      rw [show (k + 1) * 3 = k * 3 + 1 + 1 + 1 by omega]
      simp [List.set_cons_succ]
/-- A list of elements of the call's own. -/
def EOwn (B : Nat) (w : World) (v : Value) (ts : List El) : Prop := w.ownsRow B 67 3 v ts.length (cells3 ts)
theorem e_form {B : Nat} {w : World} {v : Value} {xs : List El} (h : EOwn B w v xs) : ∃ a cap, v = .slice a xs.length cap ∧ (xs = [] ∨ ∃ g, a = some ⟨g, 0, none⟩ ∧ B ≤ g ∧ g < w.heap.size) := by
  have hl := h.lt
  rcases h.2 with ⟨rfl, h0⟩ | ⟨g, cap, cur, rfl, hB, _⟩
  · exact ⟨none, 0, by rw [h0], .inl (List.length_eq_zero_iff.1 h0)⟩
  · exact ⟨_, _, rfl, .inr ⟨g, rfl, hl g rfl⟩⟩
theorem e_cap {B : Nat} {w : World} {a : Option Addr} {n cap : Nat} {xs : List El} (h : EOwn B w (.slice a n cap) xs) : cap ≤ maxLen := by
  rcases h.2 with ⟨e, h0⟩ | ⟨g, c, cur, e, hB, hg, hl, hm, _⟩
  · simp only [Value.slice.injEq] at e; rw [e.2.2]; exact Nat.zero_le _
  · simp only [Value.slice.injEq] at e; rw [e.2.2]; exact hm
theorem e_below {B : Nat} {w w' : World} {v : Value} {xs : List El} (h : EOwn B w v xs) (hb : Below w.heap.size w w') : EOwn B w' v xs :=
  World.ownsRow.kept h (grown_below (row := none) hb) (by cases v.ownBlock <;> simp)
theorem e_grown {B : Nat} {w w' : World} {u v : Value} {xs : List El} (h : EOwn B w v xs) (hg : w.grownBy w' u.ownBlock) (hne : v.ownBlock = none ∨ v.ownBlock ≠ u.ownBlock) : EOwn B w' v xs :=
  World.ownsRow.kept h hg hne
theorem e_cells {B : Nat} {w : World} {g n cap : Nat} {xs : List El} (h : EOwn B w (.slice (some ⟨g, 0, none⟩) n cap) xs) {k : Nat} (hk : k < xs.length) :
    (w.cell? ⟨g, k * 3, none⟩ = some (.int .i64 xs[k].k) ∧ w.cell? ⟨g, k * 3 + 1, none⟩ = some (.float .f32 xs[k].n) ∧ w.cell? ⟨g, k * 3 + 2, none⟩ = some (.float .f32 xs[k].p)) ∧
      (w.frozen? ⟨g, k * 3, none⟩ = false ∧ w.frozen? ⟨g, k * 3 + 1, none⟩ = false ∧ w.frozen? ⟨g, k * 3 + 2, none⟩ = false) := by
  have hn := h
  unfold EOwn at hn
  obtain ⟨a, cap', e, _⟩ := e_form h
  simp only [Value.slice.injEq] at e
  obtain ⟨_, rfl, _⟩ := e
  have hc : ∀ j, j < 3 → w.cell? ⟨g, k * 3 + j, none⟩ = (xs[k].cs)[j]? := fun j hj => by
    rw [hn.cellAt (k * 3 + j) (by omega), show k * 3 + j = 3 * k + j by omega, cells3_at hk j hj]
  exact ⟨⟨hc 0 (by omega), hc 1 (by omega), hc 2 (by omega)⟩, hn.frozenAt _, hn.frozenAt _, hn.frozenAt _⟩
theorem e_set {B : Nat} {w : World} {g n cap : Nat} {xs : List El} (h : EOwn B w (.slice (some ⟨g, 0, none⟩) n cap) xs) {k : Nat} (hk : k < xs.length) (t : El) :
    EOwn B (((w.setCell ⟨g, k * 3, none⟩ (.int .i64 t.k)).setCell ⟨g, k * 3 + 1, none⟩ (.float .f32 t.n)).setCell ⟨g, k * 3 + 2, none⟩ (.float .f32 t.p)) (.slice (some ⟨g, 0, none⟩) n cap) (xs.set k t) ∧
      w.grownBy (((w.setCell ⟨g, k * 3, none⟩ (.int .i64 t.k)).setCell ⟨g, k * 3 + 1, none⟩ (.float .f32 t.n)).setCell ⟨g, k * 3 + 2, none⟩ (.float .f32 t.p)) (some g) := by
  obtain ⟨a, cap', e, _⟩ := e_form h
  simp only [Value.slice.injEq] at e
  obtain ⟨_, rfl, rfl⟩ := e
  unfold EOwn at h ⊢
  obtain ⟨h1, g1⟩ := h.stored (k * 3) (.int .i64 t.k)
  obtain ⟨h2, g2⟩ := h1.stored (k * 3 + 1) (.float .f32 t.n)
  obtain ⟨h3, g3⟩ := h2.stored (k * 3 + 2) (.float .f32 t.p)
  rw [cells3_set hk] at h3
  rw [List.length_set]
  exact ⟨h3, grown_trans (grown_trans g1 g2) g3⟩

/-! ### what comes in -/
/-- The slice v has these elements. -/
def ES (w : World) (v : Value) (xs : List El) : Prop :=
  ∃ a cap, v = .slice a xs.length cap ∧ xs.length ≤ cap ∧ cap ≤ maxLen ∧ oksE xs ∧
    (xs = [] ∨ ∃ b off, a = some ⟨b, off, none⟩ ∧ b < w.heap.size ∧ ∀ i (h : i < xs.length), w.cell? ⟨b, off + i * 3, none⟩ = some (.int .i64 xs[i].k) ∧ w.cell? ⟨b, off + i * 3 + 1, none⟩ = some (.float .f32 xs[i].n) ∧ w.cell? ⟨b, off + i * 3 + 2, none⟩ = some (.float .f32 xs[i].p))
theorem ES.below {w w' : World} {v : Value} {xs : List El} (h : ES w v xs) (hb : Below w.heap.size w w') : ES w' v xs := by
  obtain ⟨a, cap, hv, h1, h2, h3, h4⟩ := h
  refine ⟨a, cap, hv, h1, h2, h3, ?_⟩
  rcases h4 with h4 | ⟨b, off, ha, hlt, hc⟩
  · exact .inl h4
  · refine .inr ⟨b, off, ha, Nat.lt_of_lt_of_le hlt hb.size, fun i hi => ?_⟩
    rw [hb.cell (p := ⟨b, off + i * 3, none⟩) hlt, hb.cell (p := ⟨b, off + i * 3 + 1, none⟩) hlt, hb.cell (p := ⟨b, off + i * 3 + 2, none⟩) hlt]
    exact hc i hi
theorem es_open {w : World} {a : Option Addr} {n c : Nat} {xs : List El} (h : ES w (.slice a n c) xs) : n = xs.length ∧ c ≤ maxLen ∧ oksE xs := by
  obtain ⟨a', cap, hv, _, hm, hw, _⟩ := h
  simp only [Value.slice.injEq] at hv
  exact ⟨hv.2.1, by rw [hv.2.2]; exact hm, hw⟩
theorem addr_plus (b off n : Nat) : (⟨b, off, none⟩ : Addr).add n = ⟨b, off + n, none⟩ := by unfold Addr.add; split <;> simp_all
section
open Go.ChangeShapes Go.WideShapes Go.Deep
variable {H : Type} {enc : TypeId × Value → H} {P : Program}
/-- An element that came in. -/
theorem open_elem {w : World} {base : Nat} {spare : Nat → Bool} {held : Bool} {e : TypeId} {f0 f1 f2 : Field} {fuel : Nat} {cs : List Value} {x : DataW H × List MemPlace} (he : P.underlying e = some (.struct #[f0, f1, f2])) (hone : oneCellFields P #[f0, f1, f2] = true) (hC : P.cellsOf e = 3)
    (h0 : P.underlying f0.type = some (.int .i64)) (h1 : P.underlying f1.type = some (.float .f32)) (h2 : P.underlying f2.type = some (.float .f32)) (h : DataW.trod enc P w base spare held fuel e cs = some x) : ∃ t : El, t.ok ∧ cs = t.cs := by
  obtain ⟨ys, n, _, _, hl, hlen, hf⟩ := DataW.trod_struct he h
  rw [hC] at hl
  match cs, hl, ys, hlen with
  | [c0, c1, c2], _, [y0, y1, y2], _ =>
    have g0 := hf 0 f0 rfl
    have g1 := hf 1 f1 rfl
    have g2 := hf 2 f2 rfl
    rw [(hone_of hone 0 f0 rfl).1, (hone_of hone 0 f0 rfl).2] at g0
    rw [(hone_of hone 1 f1 rfl).1, (hone_of hone 1 f1 rfl).2] at g1
    rw [(hone_of hone 2 f2 rfl).1, (hone_of hone 2 f2 rfl).2] at g2
    have g0' : DataW.trod enc P w base spare held n f0.type [c0] = some y0 := by simpa using g0
    have g1' : DataW.trod enc P w base spare held n f1.type [c1] = some y1 := by simpa using g1
    have g2' : DataW.trod enc P w base spare held n f2.type [c2] = some y2 := by simpa using g2
    obtain ⟨k, hk, _, hw⟩ := DataW.trod_int h0 g0'
    obtain ⟨a, rfl, ha⟩ := Fl.trod_float h1 g1'
    obtain ⟨b, rfl, hb⟩ := Fl.trod_float h2 g2'
    simp only [List.cons.injEq, and_true] at hk
    subst hk
    exact ⟨⟨k, a, b⟩, ⟨(wf_i64 hw).1, (wf_i64 hw).2, wf_lt ha, wf_lt hb⟩, rfl⟩
/-- A list of elements that came in. -/
theorem open_elems {W : World} {t e : TypeId} {f0 f1 f2 : Field} {a : Option Addr} {len cap : Nat} {d : DataW H} {ps : List MemPlace}
    (ht : P.underlying t = some (.slice e)) (he : P.underlying e = some (.struct #[f0, f1, f2])) (hone : oneCellFields P #[f0, f1, f2] = true) (hC : P.cellsOf e = 3)
    (h0 : P.underlying f0.type = some (.int .i64)) (h1 : P.underlying f1.type = some (.float .f32)) (h2 : P.underlying f2.type = some (.float .f32))
    (h : DataW.Trod enc P W 0 (fun _ => true) true t (.slice a len cap) d ps) : ∃ zs, ES W (.slice a len cap) zs := by
  obtain ⟨fuel, hf⟩ := h
  rcases Deep.open_slice ht hf with ⟨hcs, _⟩ | ⟨a', l, c, m, n, D, Pl, hcs, _, hl, hm, hmm, _, hx⟩
  · simp [Value.cells] at hcs
    obtain ⟨rfl, rfl, rfl⟩ := hcs
    exact ⟨[], _, _, rfl, Nat.le_refl _, Nat.zero_le _, fun x hx => absurd hx List.not_mem_nil, .inl rfl⟩
  · simp [Value.cells] at hcs
    obtain ⟨rfl, rfl, rfl⟩ := hcs
    simp only [if_true] at hmm
    subst hmm
    rw [hC] at hx
    have each : ∀ i, i < m → ∃ t : El, t.ok ∧ W.cells? 0 (a'.add (i * 3)) 3 = some t.cs := fun i hi => by
      obtain ⟨cs', h3, h4⟩ := hx i hi
      obtain ⟨t, ht, e⟩ := open_elem he hone hC h0 h1 h2 h4
      exact ⟨t, ht, by rw [h3, e]⟩
    let g : Nat → El := fun i => if hi : i < m then (each i hi).choose else ⟨0, 0, 0⟩
    have hg : ∀ i, i < m → (g i).ok ∧ W.cells? 0 (a'.add (i * 3)) 3 = some (g i).cs := fun i hi => by
      have e1 : g i = (each i hi).choose := dif_pos hi
      rw [e1]; exact (each i hi).choose_spec
    refine ⟨(List.range len).map g, some a', m, by simp, by simpa using hl, hm, ?_, ?_⟩
    · intro x hx'
      obtain ⟨i, hi, rfl⟩ := List.mem_map.1 hx'
      have : i < len := by simpa using hi
      exact (hg i (by omega)).1
    · by_cases hz : len = 0
      · left; subst hz; rfl
      · right
        have key : ∀ i, i < m → ∀ j, j < 3 → W.cell? ((a'.add (i * 3)).add j) = (g i).cs[j]? := fun i hi => (World.cells?_some (hg i hi).2).2.2
        obtain ⟨b, off, spot⟩ := a'
        have h00 := key 0 (by omega) 0 (by omega)
        rw [show (g 0).cs[0]? = some (.int .i64 (g 0).k) from rfl] at h00
        have hs : spot = none := by simpa [Addr.add] using World.cell?_spot h00
        subst hs
        refine ⟨b, off, rfl, ?_, ?_⟩
        · have := block_lt_of_cell h00
          simpa [Addr.add] using this
        · intro i hi
          have hi' : i < len := by simpa using hi
          have e2 : ((List.range len).map g)[i] = g i := by simp
          rw [e2]
          have k0 := key i (by omega) 0 (by omega); have k1 := key i (by omega) 1 (by omega); have k2 := key i (by omega) 2 (by omega)
          rw [addr_plus, addr_plus] at k0 k1 k2
          exact ⟨k0, k1, k2⟩
end
end Go.Proofs.Ytpnmledanloboaa
