/-
  Lists of particles of the call's own: their cells; which are valid.
-/
import Derived.Test.YtlfnbnhbobohlaaPart
import Derived.Test.YtlfnbnhbobohlaaDv
import Derived.Deep.MidRow
namespace Go.Proofs.Ytlfnbnhbobohlaa
open Go.Fl Go.RowKit
set_option linter.unusedSimpArgs false
set_option linter.unusedVariables false

/-- The four cells of a particle. -/
structure R4 where
  v0 : Value
  v1 : Value
  v2 : Value
  v3 : Value
def R4.cs (t : R4) : List Value := [t.v0, t.v1, t.v2, t.v3]
def R4.val (t : R4) : Value := .agg #[t.v0, t.v1, t.v2, t.v3]
def R4.one (t : R4) : Prop := t.v0.oneCell' = true ∧ t.v1.oneCell' = true ∧ t.v2.oneCell' = true ∧ t.v3.oneCell' = true
def cells4 (ts : List R4) : List Value := ts.flatMap R4.cs
theorem cells4_len (ts : List R4) : (cells4 ts).length = ts.length * 4 := by
  unfold cells4
  induction ts with
  | nil => rfl
  | cons t ts ih => rw [List.flatMap_cons, List.length_append, ih, List.length_cons]; simp [R4.cs]; omega
theorem cells4_app (xs ys : List R4) : cells4 (xs ++ ys) = cells4 xs ++ cells4 ys := List.flatMap_append
theorem cells4_at {ts : List R4} {k : Nat} (h : k < ts.length) (j : Nat) (hj : j < 4) : (cells4 ts)[4 * k + j]? = (ts[k].cs)[j]? := by
  unfold cells4
  induction ts generalizing k with
  | nil => simp at h
  | cons t ts ih =>
    rw [List.flatMap_cons]
    cases k with
    | zero => rw [Nat.mul_zero, Nat.zero_add, List.getElem?_append_left (by simp [R4.cs]; omega)]; rfl
    | succ k =>
      rw [List.getElem?_append_right (by simp [R4.cs]; omega)]
      rw [show 4 * (k + 1) + j - t.cs.length = 4 * k + j by simp [R4.cs]; omega]
      exact ih (by simpa using h)
/-- A list of rows of four cells, of the call's own. -/
def R4Own (B : Nat) (w : World) (v : Value) (ts : List R4) : Prop := w.ownsRow B 72 4 v ts.length (cells4 ts)
theorem r4_form {B : Nat} {w : World} {v : Value} {xs : List R4} (h : R4Own B w v xs) : ∃ a cap, v = .slice a xs.length cap ∧ (xs = [] ∨ ∃ g, a = some ⟨g, 0, none⟩ ∧ B ≤ g ∧ g < w.heap.size) := by
  have hl := h.lt
  rcases h.2 with ⟨rfl, h0⟩ | ⟨g, cap, cur, rfl, hB, _⟩
  · exact ⟨none, 0, by rw [h0], .inl (List.length_eq_zero_iff.1 h0)⟩
  · exact ⟨_, _, rfl, .inr ⟨g, rfl, hl g rfl⟩⟩
theorem r4_below {B : Nat} {w w' : World} {v : Value} {xs : List R4} (h : R4Own B w v xs) (hb : Below w.heap.size w w') : R4Own B w' v xs :=
  World.ownsRow.kept h (grown_below (row := none) hb) (by cases v.ownBlock <;> simp)
theorem r4_grown {B : Nat} {w w' : World} {u v : Value} {xs : List R4} (h : R4Own B w v xs) (hg : w.grownBy w' u.ownBlock) (hne : v.ownBlock = none ∨ v.ownBlock ≠ u.ownBlock) : R4Own B w' v xs :=
  World.ownsRow.kept h hg hne
theorem r4_at {B : Nat} {w : World} {g n cap : Nat} {xs : List R4} (h : R4Own B w (.slice (some ⟨g, 0, none⟩) n cap) xs) {k : Nat} (hk : k < xs.length) : w.rangeAt g (4 * k) [xs[k].v0, xs[k].v1, xs[k].v2, xs[k].v3] := by
  intro j v hv
  have hj : j < 4 := by simpa using (List.getElem?_eq_some_iff.1 hv).1
  have hn := h
  unfold R4Own at hn
  obtain ⟨a, cap', e, _⟩ := r4_form h
  simp only [Value.slice.injEq] at e
  obtain ⟨_, rfl, _⟩ := e
  rw [hn.cellAt (4 * k + j) (by omega), cells4_at hk j hj]
  exact hv
theorem r4_there {B : Nat} {w : World} {g n cap : Nat} {xs : List R4} (h : R4Own B w (.slice (some ⟨g, 0, none⟩) n cap) xs) {k : Nat} (hk : k < xs.length) : w.there g (4 * k) 4 := by
  intro j hj
  have hr := r4_at h hk
  refine ⟨?_, ?_⟩
  · have : ∃ v, ([xs[k].v0, xs[k].v1, xs[k].v2, xs[k].v3] : List Value)[j]? = some v := ⟨_, List.getElem?_eq_getElem (by simpa using hj)⟩
    obtain ⟨v, hv⟩ := this
    rw [hr j v hv]; rfl
  · have hn := h
    unfold R4Own at hn
    obtain ⟨a, cap', e, _⟩ := r4_form h
    simp only [Value.slice.injEq] at e
    obtain ⟨_, rfl, _⟩ := e
    exact hn.frozenAt _
theorem info_pt : (Try.prog.info? 72).map (·.size) = some 4 := by kernel_rfl

/-- A particle: its place in eighths, the bits of its speed and the eighths that they stand for, charge and mass in eighths. -/
structure Pt where
  n : Int
  m : Int
  x : Nat
  y : Nat
  p : Int
  q : Int
  c : Int
  s : Int
structure Pt.ok (t : Pt) : Prop where
  n0 : -112 ≤ t.n
  n1 : t.n < 248
  m0 : -112 ≤ t.m
  m1 : t.m < 248
  p0 : -8 ≤ t.p
  p1 : t.p ≤ 8
  q0 : -8 ≤ t.q
  q1 : t.q ≤ 8
  c0 : -16 ≤ t.c
  c1 : t.c ≤ 16
  s0 : 2 ≤ t.s
  s1 : t.s ≤ 16
  dx : Dv .f32 146 t.x t.p
  dy : Dv .f32 146 t.y t.q
def Pt.r4 (t : Pt) : R4 := ⟨.complex .f32 (E8 t.n) (E8 t.m), .complex .f32 t.x t.y, .float .f32 (E8 t.c), .float .f32 (E8 t.s)⟩
def oks (ts : List Pt) : Prop := ∀ t ∈ ts, t.ok
abbrev POwn (B : Nat) (w : World) (v : Value) (ts : List Pt) : Prop := R4Own B w v (ts.map Pt.r4)
theorem p_form {B : Nat} {w : World} {v : Value} {xs : List Pt} (h : POwn B w v xs) : ∃ a cap, v = .slice a xs.length cap ∧ (xs = [] ∨ ∃ g, a = some ⟨g, 0, none⟩ ∧ B ≤ g ∧ g < w.heap.size) := by
  obtain ⟨a, cap, e, hf⟩ := r4_form h
  rw [List.length_map] at e
  rw [List.map_eq_nil_iff] at hf
  exact ⟨a, cap, e, hf⟩
theorem p_at {B : Nat} {w : World} {g n cap : Nat} {xs : List Pt} (h : POwn B w (.slice (some ⟨g, 0, none⟩) n cap) xs) {k : Nat} (hk : k < xs.length) : w.rangeAt g (4 * k) [.complex .f32 (E8 xs[k].n) (E8 xs[k].m), .complex .f32 xs[k].x xs[k].y, .float .f32 (E8 xs[k].c), .float .f32 (E8 xs[k].s)] := by
  have := r4_at h (k := k) (by simpa using hk)
  simpa [Pt.r4] using this
theorem p_cells {B : Nat} {w : World} {g n cap : Nat} {xs : List Pt} (h : POwn B w (.slice (some ⟨g, 0, none⟩) n cap) xs) {k : Nat} (hk : k < xs.length) :
    w.cell? ⟨g, k * 4, none⟩ = some (.complex .f32 (E8 xs[k].n) (E8 xs[k].m)) ∧ w.cell? ⟨g, k * 4 + 1, none⟩ = some (.complex .f32 xs[k].x xs[k].y) ∧ w.cell? ⟨g, k * 4 + 2, none⟩ = some (.float .f32 (E8 xs[k].c)) ∧ w.cell? ⟨g, k * 4 + 3, none⟩ = some (.float .f32 (E8 xs[k].s)) := by
  have hr := p_at h hk
  rw [Nat.mul_comm 4 k] at hr
  exact ⟨hr 0 _ rfl, hr 1 _ rfl, hr 2 _ rfl, hr 3 _ rfl⟩
theorem oks_at {xs : List Pt} (h : oks xs) {k : Nat} (hk : k < xs.length) : xs[k].ok := h _ (List.getElem_mem hk)
theorem dv_fin {u x : Nat} {n : Int} (h : Dv .f32 u x n) : fin .f32 x = true := decide_eq_true h.fin

theorem iFiniteC_fin (x y : Nat) (ix : Is .f32 x x) (iy : Is .f32 y y) (gx : fin .f32 x = true) (gy : fin .f32 y = true) (w : World) : Calls Try.prog 99 #[.complex .f32 x y] w fun e w' => e = .returned (.bool true) ∧ ∃ n, w' = w.drewN n := by
  go_enter Try.func99, Try.ntmps99
  go_wp2_with fail
  refine (iFinite3_any _ _ ix _).mono ?_
  rintro e w' ⟨rfl, k, rfl⟩
  rw [gx]
  go_wp2_with fail
  refine (iFinite3_any _ _ iy _).mono ?_
  rintro e w' ⟨rfl, k', rfl⟩
  rw [gy]
  go_wp2_with fail
  go_ret
  exact ⟨rfl, _, rfl⟩
theorem tab_mass : ((List.range 17).all fun n => decide (n < 2) || fcmp .gtr .f32 (E8 (n : Int)) 0) = true := by decide +kernel
theorem mass_pos {s : Int} (h0 : 2 ≤ s) (h1 : s ≤ 16) : fcmp .gtr .f32 (E8 s) 0 = true := by
  have h := List.all_eq_true.1 tab_mass s.toNat (List.mem_range.2 (by omega))
  simp only [show ((s.toNat : Nat) : Int) = s by omega, Bool.or_eq_true, decide_eq_true_eq] at h
  exact h.resolve_left (by omega)

set_option maxHeartbeats 1000000 in
theorem iValid_pt (t : Pt) (h : t.ok) (w : World) : Calls Try.prog 131 #[t.r4.val] w fun e w' => e = .returned (.bool true) ∧ Below w.heap.size w w' := by
  have HT := Lib.hid h
  have HB0 := Lib.hid ((Below.refl w.heap.size w).alloc (Nat.le_refl _) (.cells #[.complex .f32 (E8 t.n) (E8 t.m), .complex .f32 t.x t.y, .float .f32 (E8 t.c), .float .f32 (E8 t.s)] 72))
  have HZ := Lib.hid (heap_alloc_new w (.cells #[.complex .f32 (E8 t.n) (E8 t.m), .complex .f32 t.x t.y, .float .f32 (E8 t.c), .float .f32 (E8 t.s)] 72))
  have i3 := is_e8 t.c (by have := h.c0; omega) (by have := h.c1; omega)
  have i4 := is_e8 t.s (by have := h.s0; omega) (by have := h.s1; omega)
  have hmp := mass_pos h.s0 h.s1
  clear h
  unfold R4.val Pt.r4
  go_enter Try.func131, Try.ntmps131
  go_wp2_with fail
  refine (iFiniteC_e8 _ _ HT.out.n0 HT.out.n1 HT.out.m0 HT.out.m1 _).mono ?_
  rintro e w1 ⟨rfl, k1, rfl⟩
  go_wp2_with fail
  refine (iFiniteC_fin _ _ HT.out.dx.is HT.out.dy.is (dv_fin HT.out.dx) (dv_fin HT.out.dy) _).mono ?_
  rintro e w2 ⟨rfl, k2, rfl⟩
  go_wp2_with fail
  refine (iFinite3_any _ _ i3.1 _).mono ?_
  rintro e w3 ⟨rfl, k3, rfl⟩
  rw [i3.2]
  go_wp2_with fail
  refine (iFinite3_any _ _ i4.1 _).mono ?_
  rintro e w4 ⟨rfl, k4, rfl⟩
  rw [i4.2]
  have i5 := i4.1
  clear i3 i4
  go_wp2_with (apply wpList_fcmp; rfl; rfl; rfl; rfl; (first | with_reducible assumption | exact Is.const rfl); (first | with_reducible assumption | exact Is.const rfl); (first | with_reducible assumption | exact rfl))
  go_ret
  exact ⟨rfl, below_drewN HB0.out _⟩

set_option maxHeartbeats 1000000 in
theorem iAre_pt (B : Nat) (v : Value) (ts : List Pt) (w : World) (hv : POwn B w v ts) (h : oks ts) (hn : ts.length ≤ 64) : Calls Try.prog 103 #[v] w fun e w' => e = .returned (.bool true) ∧ Below w.heap.size w w' := by
  obtain ⟨a, cap, rfl, hf⟩ := p_form hv
  have HV := Lib.hid hv; have HO := Lib.hid h
  clear hv h
  go_enter Try.func103, Try.ntmps103
  go_wp2
  go_loopw [10] (fun i wr => ∃ k : Nat, k ≤ ts.length ∧ i = .int .i64 k ∧ Below w.heap.size w wr) (fun i _ => ts.length - (intOf i).toNat)
  case atStart => exact ⟨0, Nat.zero_le _, rfl, Below.refl _ _⟩
  case round =>
    obtain ⟨k, hk, rfl, hb⟩ := hrel
    by_cases hlt : k < ts.length
    · rcases hf with hf | ⟨g, rfl, _, _⟩
      · subst hf; simp at hlt
      obtain ⟨c0, c1, c2, c3⟩ := p_cells (r4_below HV.out hb) hlt
      have HT := Lib.hid (oks_at HO.out hlt)
      generalize ts[k] = t at c0 c1 c2 c3 HT
      have HB1 := Lib.hid (hb.alloc hb.size (.cells #[.complex .f32 (E8 t.n) (E8 t.m), .complex .f32 t.x t.y, .float .f32 (E8 t.c), .float .f32 (E8 t.s)] 72))
      clear hb
      go_wp2_with fail
      refine (iValid_pt t HT.out _).mono ?_
      rintro e w2 ⟨rfl, h2⟩
      have HB2 := Lib.hid (HB1.out.trans (h2.mono HB1.out.size))
      clear h2 c0 c1 c2 c3
      go_wp2_with fail
      go_roundw
      case rel => exact ⟨k + 1, by omega, by go_num, HB2.out⟩
      case measure => simp [intOf]; omega
    · obtain rfl : k = ts.length := by omega
      clear hlt
      go_wp2
      go_ret
      exact ⟨rfl, hb⟩
end Go.Proofs.Ytlfnbnhbobohlaa
