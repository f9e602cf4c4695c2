/-
  Walls: who is beyond them, and who is thrown back.
-/
import Derived.Test.YtahgnjmdlhidpaaCln
import Derived.Test.YtahgnjmdlhidpaaPtS
namespace Go.Proofs.Ytahgnjmdlhidpaa
open Go.Fl Go.RowKit
set_option linter.unusedSimpArgs false
set_option linter.unusedVariables false

/-- Who is beyond a wall, the wall, and who is thrown back. -/
def outB (lo hi : Nat) (t : Pq) : Bool := fcmp .lss .f32 t.a lo || fcmp .gtr .f32 t.a hi
def wallF (lo hi : Nat) (t : Pq) : Nat := if fcmp .lss .f32 t.a lo = true then lo else hi
def throwF (lo hi keep : Nat) (t : Pq) : Pq := ⟨fop .sub .f32 (fop .mul .f32 1073741824 (wallF lo hi t)) t.a, t.b, fop .mul .f32 (Op.negFloat .f32 t.x) keep, t.y, t.c, t.s⟩
def reflF (lo hi keep : Nat) (t : Pq) : Pq := if outB lo hi t = true then throwF lo hi keep t else t
theorem num_nan {x : Nat} (h : Num x) : Fl.nan .f32 x = false := by
  have := h.is.eq
  cases hn : Fl.nan .f32 x with
  | false => rfl
  | true =>
    have hf := h.fn
    unfold fin at hf
    exact absurd (of_decide_eq_true hn) (by have := of_decide_eq_true hf; show ¬ (_ < _); unfold Fl.nan isNaN at *; omega)
theorem num_eq {r x : Nat} (h : Is .f32 r x) (hx : Num x) : r = x := h.same (num_nan hx)

theorem rung32' (x : Nat) : rung FloatKind.f32.format x = x % 2 ^ 31 := rfl
theorem neg_rung32 {x : Nat} (h : x < 2 ^ FloatKind.f32.format.width) : rung FloatKind.f32.format (Op.negFloat .f32 x) = rung FloatKind.f32.format x ∧ Op.negFloat .f32 x < 2 ^ FloatKind.f32.format.width := by
  rw [w32] at h ⊢
  have e : Op.negFloat .f32 x = x ^^^ 2 ^ 31 := rfl
  rw [e, rung32', rung32']
  refine ⟨?_, ?_⟩
  · apply Nat.eq_of_testBit_eq
    intro i
    rw [Nat.testBit_mod_two_pow, Nat.testBit_mod_two_pow, Nat.testBit_xor, Nat.testBit_two_pow]
    by_cases hi : i < 31
    · have : ¬ 31 = i := by omega
      simp [hi, this]
    · simp [hi]
  · exact Nat.xor_lt_two_pow (n := 32) h (by decide)

theorem num_neg {x : Nat} (h : Num x) : Num (Op.negFloat .f32 x) := by
  have hn := num_nan h
  have h1 := neg_rung32 h.is.lt
  refine ⟨Is.const ?_, ?_⟩
  · unfold isCanon
    rw [show Fl.nan .f32 (Op.negFloat .f32 x) = false by unfold Fl.nan isNaN at hn ⊢; rw [h1.1]; exact hn]
    simpa using h1.2
  · have := h.fn
    unfold fin at this ⊢
    rw [h1.1]; exact this
theorem info_walls : (Try.prog.info? 100).map (·.size) = some 2 := by kernel_rfl
theorem one2 (a b : Nat) : (#[Value.float .f32 a, .float .f32 b] : Array Value).all (·.oneCell') = true := by first | rfl | (simp [Value.oneCell']; done)
theorem cell_set2 {W : World} {b : Nat} {u v : Value} {t : TypeId} (h : W.heap[b]? = some (.cells #[u, v] t)) (x y : Value) : ((W.setCell ⟨b, 0, none⟩ x).setCell ⟨b, 1, none⟩ y).cell? ⟨b, 0, none⟩ = some x ∧ ((W.setCell ⟨b, 0, none⟩ x).setCell ⟨b, 1, none⟩ y).cell? ⟨b, 1, none⟩ = some y := by
  have h0 : W.cell? ⟨b, 0, none⟩ = some u := by rw [Joins.cell_of_block h]; rfl
  have h1 : W.cell? ⟨b, 1, none⟩ = some v := by rw [Joins.cell_of_block h]; rfl
  have hne : (⟨b, 0, none⟩ : Addr) ≠ ⟨b, 1, none⟩ := by simp
  refine ⟨?_, ?_⟩
  · rw [World.cell?_setCell_other (h := hne.symm), World.cell?_setCell_same (h := h0)]
  · exact World.cell?_setCell_same _ _ _ (u := v) (h := by rw [World.cell?_setCell_other (h := hne)]; exact h1)
theorem wallsOk (lo hi : Nat) (h0 : Num lo) (h1 : Num hi) (hl : fcmp .lss .f32 lo hi = true) (w : World) :
    Calls Try.prog 66 #[.float .f32 lo, .float .f32 hi] w fun e w' => e = .returned (.tuple #[.agg #[.float .f32 lo, .float .f32 hi], .bool true]) ∧ Below w.heap.size w w' := by
  have i0 := h0.is; have i1 := h1.is
  have HB := Lib.hid ((Below.refl w.heap.size w).alloc (Nat.le_refl _) (.cells #[.float .f32 0, .float .f32 0] 100))
  have HZ := Lib.hid (heap_alloc_new w (.cells #[.float .f32 0, .float .f32 0] 100))
  go_enter Try.func66, Try.ntmps66
  go_wp2_with fail
  refine (iFinite3_any _ _ i0 _).mono ?_
  rw [h0.fn]
  rintro e w3 ⟨rfl, k3, rfl⟩
  go_wp2_with fail
  refine (iFinite3_any _ _ i1 _).mono ?_
  rw [h1.fn]
  rintro e w3 ⟨rfl, k4, rfl⟩
  go_wp2_with (apply wpList_fcmp; rfl; rfl; rfl; rfl; (first | with_reducible assumption | exact Is.const rfl); (first | with_reducible assumption | exact Is.const rfl); (first | with_reducible assumption | exact rfl))
  have hb := (((below_drewN HB.out (k3 + k4)).setCell (p := ⟨w.heap.size, 0, none⟩) (Nat.le_refl _) (.float .f32 lo)).setCell (p := ⟨w.heap.size, 1, none⟩) (Nat.le_refl _) (.float .f32 hi))
  have hz := (show ((w.alloc (.cells #[.float .f32 0, .float .f32 0] 100)).drewN (k3 + k4)).heap[w.heap.size]? = some (.cells #[.float .f32 0, .float .f32 0] 100) from HZ.out)
  have c0 := cell_set2 hz (.float .f32 lo) (.float .f32 hi)
  refine bodyPost_ret (v := .tuple #[.agg #[.float .f32 lo, .float .f32 hi], .bool true]) (by simp [results, Try.results66, go_sem, c0.1, c0.2]) rfl ⟨rfl, hb⟩
theorem iBeyond_pq (lo hi : Nat) (h0 : Num lo) (h1 : Num hi) (t : Pq) (h : t.ok) (w : World) :
    Calls Try.prog 70 #[.agg #[.float .f32 lo, .float .f32 hi], t.r4.val] w fun e w' => e = .returned (.tuple #[.float .f32 (if outB lo hi t = true then wallF lo hi t else 0), .bool (outB lo hi t)]) ∧ Below w.heap.size w w' := by
  have i0 := h0.is; have i1 := h1.is; have i2 := h.na.is
  have HB := Lib.hid (((Below.refl w.heap.size w).alloc (Nat.le_refl _) (.cells #[.float .f32 lo, .float .f32 hi] 100)).alloc (by simp) (.cells #[.complex .f32 t.a t.b, .complex .f32 t.x t.y, .float .f32 t.c, .float .f32 t.s] 43))
  unfold outB wallF R4.val Pq.r4
  cases hl : fcmp .lss .f32 t.a lo with
  | true =>
    go_enter Try.func70, Try.ntmps70
    go_wp2_with (apply wpList_fcmp; rfl; rfl; rfl; rfl; (first | with_reducible assumption | exact Is.const rfl); (first | with_reducible assumption | exact Is.const rfl); (first | with_reducible assumption | exact rfl))
    go_ret2
    exact ⟨by simp, HB.out⟩
  | false =>
    cases hg : fcmp .gtr .f32 t.a hi with
    | true =>
      go_enter Try.func70, Try.ntmps70
      go_wp2_with (apply wpList_fcmp; rfl; rfl; rfl; rfl; (first | with_reducible assumption | exact Is.const rfl); (first | with_reducible assumption | exact Is.const rfl); (first | with_reducible assumption | exact rfl))
      go_ret2
      exact ⟨by simp, HB.out⟩
    | false =>
      go_enter Try.func70, Try.ntmps70
      go_wp2_with (apply wpList_fcmp; rfl; rfl; rfl; rfl; (first | with_reducible assumption | exact Is.const rfl); (first | with_reducible assumption | exact Is.const rfl); (first | with_reducible assumption | exact rfl))
      go_ret2
      exact ⟨by simp, HB.out⟩
theorem iBeyond_no (lo hi : Nat) (h0 : Num lo) (h1 : Num hi) (t : Pq) (h : t.ok) (ho : outB lo hi t = false) (w : World) :
    Calls Try.prog 70 #[.agg #[.float .f32 lo, .float .f32 hi], t.r4.val] w fun e w' => e = .returned (.tuple #[.float .f32 0, .bool false]) ∧ Below w.heap.size w w' :=
  (iBeyond_pq lo hi h0 h1 t h w).mono (fun e w' h => ⟨by rw [h.1, ho]; rfl, h.2⟩)
theorem iBeyond_yes (lo hi : Nat) (h0 : Num lo) (h1 : Num hi) (t : Pq) (h : t.ok) (ho : outB lo hi t = true) (w : World) :
    Calls Try.prog 70 #[.agg #[.float .f32 lo, .float .f32 hi], t.r4.val] w fun e w' => e = .returned (.tuple #[.float .f32 (wallF lo hi t), .bool true]) ∧ Below w.heap.size w w' :=
  (iBeyond_pq lo hi h0 h1 t h w).mono (fun e w' h => ⟨by rw [h.1, ho]; rfl, h.2⟩)

/-- While particles are thrown back: the list under way, the walls, what is kept, and how many have been thrown back. -/
structure Push (w0 : World) (B : Nat) (a : Option Addr) (n cap wa kb cb : Nat) (lo hi keep : Nat) (c : Int) (rs : List Pq) (w : World) : Prop where
  own : QOwn B w (.slice a n cap) rs
  bw : w.heap[wa]? = some (.cells #[.float .f32 lo, .float .f32 hi] 100)
  bk : w.heap[kb]? = some (.cells #[.float .f32 keep] 27)
  bc : w.heap[cb]? = some (.cells #[.int .i64 c] 2)
  lw : wa < B
  lk : kb < B
  lc : cb < B
  ow : w0.heap.size ≤ wa
  ok : w0.heap.size ≤ kb
  oc : w0.heap.size ≤ cb
  nw : cb ≠ wa
  nk : cb ≠ kb
  bel : Below w0.heap.size w0 w
theorem Push.gB {w0 : World} {B g n cap wa kb cb lo hi keep : Nat} {c : Int} {rs : List Pq} {w : World} (h : Push w0 B (some ⟨g, 0, none⟩) n cap wa kb cb lo hi keep c rs w) : B ≤ g := (h.own.lt g rfl).1
theorem Push.step {w0 : World} {B : Nat} {a : Option Addr} {n cap wa kb cb lo hi keep : Nat} {c : Int} {rs : List Pq} {w w' : World} (h : Push w0 B a n cap wa kb cb lo hi keep c rs w) (hb : Below w.heap.size w w') : Push w0 B a n cap wa kb cb lo hi keep c rs w' :=
  ⟨r4_below h.own hb, (hb.block wa (Array.getElem?_eq_some_iff.1 h.bw).1).trans h.bw, (hb.block kb (Array.getElem?_eq_some_iff.1 h.bk).1).trans h.bk, (hb.block cb (Array.getElem?_eq_some_iff.1 h.bc).1).trans h.bc,
    h.lw, h.lk, h.lc, h.ow, h.ok, h.oc, h.nw, h.nk, h.bel.trans (hb.mono h.bel.size)⟩
theorem Push.cells {w0 : World} {B g n cap wa kb cb lo hi keep : Nat} {c : Int} {rs : List Pq} {w : World} (h : Push w0 B (some ⟨g, 0, none⟩) n cap wa kb cb lo hi keep c rs w) {k : Nat} (hk : k < rs.length) :
    (w.cell? ⟨wa, 0, none⟩ = some (.float .f32 lo) ∧ w.cell? ⟨wa, 1, none⟩ = some (.float .f32 hi) ∧ w.cell? ⟨kb, 0, none⟩ = some (.float .f32 keep) ∧ w.cell? ⟨cb, 0, none⟩ = some (.int .i64 c)) ∧
      (w.cell? ⟨g, k * 4, none⟩ = some (.complex .f32 rs[k].a rs[k].b) ∧ w.cell? ⟨g, k * 4 + 1, none⟩ = some (.complex .f32 rs[k].x rs[k].y) ∧ w.cell? ⟨g, k * 4 + 2, none⟩ = some (.float .f32 rs[k].c) ∧ w.cell? ⟨g, k * 4 + 3, none⟩ = some (.float .f32 rs[k].s)) ∧
      (w.frozen? ⟨g, k * 4, none⟩ = false ∧ w.frozen? ⟨g, k * 4 + 1, none⟩ = false ∧ w.frozen? ⟨cb, 0, none⟩ = false) := by
  have hq := q_cells h.own hk
  have hr := (r4_cells h.own (k := k) (by simpa using hk)).2
  exact ⟨⟨by rw [Joins.cell_of_block h.bw]; rfl, by rw [Joins.cell_of_block h.bw]; rfl, by rw [Joins.cell_of_block h.bk]; rfl, by rw [Joins.cell_of_block h.bc]; rfl⟩, hq, hr.1, hr.2.1, by simp [World.frozen?, h.bc]⟩
theorem cells4_setA {xs : List R4} {k : Nat} (h : k < xs.length) (v : Value) : (cells4 xs).set (k * 4) v = cells4 (xs.set k ⟨v, xs[k].v1, xs[k].v2, xs[k].v3⟩) := by
  unfold cells4
  induction xs generalizing k with
  | nil => simp at h
  | cons u us ih =>
    cases k with
    | zero => simp [R4.cs]
    | succ k =>
      have e := ih (k := k) (by simpa using h)
      rw [List.flatMap_cons, List.set_cons_succ, List.flatMap_cons]
      simp only [List.getElem_cons_succ]
      rw [← e]
      simp only [R4.cs, List.cons_append, List.nil_append]
      rw [show (k + 1) * 4 = k * 4 + 1 + 1 + 1 + 1 by omega]
      simp [List.set_cons_succ]
theorem cells4_setX {xs : List R4} {k : Nat} (h : k < xs.length) (v : Value) : (cells4 xs).set (k * 4 + 1) v = cells4 (xs.set k ⟨xs[k].v0, v, xs[k].v2, xs[k].v3⟩) := by
  unfold cells4
  induction xs generalizing k with
  | nil => simp at h
  | cons u us ih =>
    cases k with
    | zero => simp [R4.cs]
    | succ k =>
      have e := ih (k := k) (by simpa using h)
      rw [List.flatMap_cons, List.set_cons_succ, List.flatMap_cons]
      simp only [List.getElem_cons_succ]
      rw [← e]
      simp only [R4.cs, List.cons_append, List.nil_append]
      rw [show (k + 1) * 4 = k * 4 + 1 + 1 + 1 + 1 by omega]
      simp [List.set_cons_succ]
theorem q_setA {B : Nat} {w : World} {g n cap : Nat} {rs : List Pq} (h : QOwn B w (.slice (some ⟨g, 0, none⟩) n cap) rs) {k : Nat} (hk : k < rs.length) (a : Nat) :
    QOwn B (w.setCell ⟨g, k * 4, none⟩ (.complex .f32 a rs[k].b)) (.slice (some ⟨g, 0, none⟩) n cap) (rs.set k ⟨a, rs[k].b, rs[k].x, rs[k].y, rs[k].c, rs[k].s⟩) := by
  obtain ⟨ao, cap', e, _⟩ := q_form h
  simp only [Value.slice.injEq] at e
  obtain ⟨_, rfl, rfl⟩ := e
  unfold QOwn at h ⊢
  unfold R4Own at h ⊢
  rw [List.length_map] at h
  have h1 := (h.stored (k * 4) (.complex .f32 a rs[k].b)).1
  rw [cells4_setA (by simpa using hk)] at h1
  rw [List.map_set, List.length_set, List.length_map]
  simpa [Pq.r4] using h1
theorem q_setX {B : Nat} {w : World} {g n cap : Nat} {rs : List Pq} (h : QOwn B w (.slice (some ⟨g, 0, none⟩) n cap) rs) {k : Nat} (hk : k < rs.length) (x : Nat) :
    QOwn B (w.setCell ⟨g, k * 4 + 1, none⟩ (.complex .f32 x rs[k].y)) (.slice (some ⟨g, 0, none⟩) n cap) (rs.set k ⟨rs[k].a, rs[k].b, x, rs[k].y, rs[k].c, rs[k].s⟩) := by
  obtain ⟨ao, cap', e, _⟩ := q_form h
  simp only [Value.slice.injEq] at e
  obtain ⟨_, rfl, rfl⟩ := e
  unfold QOwn at h ⊢
  unfold R4Own at h ⊢
  rw [List.length_map] at h
  have h1 := (h.stored (k * 4 + 1) (.complex .f32 x rs[k].y)).1
  rw [cells4_setX (by simpa using hk)] at h1
  rw [List.map_set, List.length_set, List.length_map]
  simpa [Pq.r4] using h1
theorem heap_cell_far {w : World} {b k : Nat} {o : Nat} {v : Value} {r : Obj} (h : w.heap[k]? = some r) (hne : k ≠ b) : (w.setCell ⟨b, o, none⟩ v).heap[k]? = some r :=
  (Below.heap_setCell w ⟨b, o, none⟩ v k hne).trans h
theorem Push.setG {w0 : World} {B g n cap wa kb cb lo hi keep : Nat} {c : Int} {rs rs' : List Pq} {w : World} (h : Push w0 B (some ⟨g, 0, none⟩) n cap wa kb cb lo hi keep c rs w) {o : Nat} {v : Value}
    (ho : QOwn B (w.setCell ⟨g, o, none⟩ v) (.slice (some ⟨g, 0, none⟩) n cap) rs') : Push w0 B (some ⟨g, 0, none⟩) n cap wa kb cb lo hi keep c rs' (w.setCell ⟨g, o, none⟩ v) := by
  have hg := h.gB
  have := h.lw; have := h.lk; have := h.lc; have := h.ow
  exact ⟨ho, heap_cell_far h.bw (by omega), heap_cell_far h.bk (by omega), heap_cell_far h.bc (by omega), h.lw, h.lk, h.lc, h.ow, h.ok, h.oc, h.nw, h.nk, h.bel.setCell (by show _ ≤ g; omega) v⟩
theorem set_one {W : World} {b : Nat} {u : Value} {t : TypeId} (h : W.heap[b]? = some (.cells #[u] t)) (v : Value) : (W.setCell ⟨b, 0, none⟩ v).heap[b]? = some (.cells #[v] t) := by
  simp [World.setCell, h, Array.getElem?_modify]
theorem Push.setC {w0 : World} {B : Nat} {a : Option Addr} {n cap wa kb cb lo hi keep : Nat} {c : Int} {rs : List Pq} {w : World} (h : Push w0 B a n cap wa kb cb lo hi keep c rs w) (c' : Int) :
    Push w0 B a n cap wa kb cb lo hi keep c' rs (w.setCell ⟨cb, 0, none⟩ (.int .i64 c')) := by
  have := h.lc
  refine ⟨ownsRow_setCell_below h.own (by show cb < B; omega) _, heap_cell_far h.bw h.nw.symm, heap_cell_far h.bk h.nk.symm, ?_, h.lw, h.lk, h.lc, h.ow, h.ok, h.oc, h.nw, h.nk, h.bel.setCell h.oc _⟩
  have := h.bc
  simp [World.setCell, this, Array.getElem?_modify]

def reflTo (F : Pq → Pq) (ts : List Pq) (k : Nat) : List Pq := (ts.take k).map F ++ ts.drop k
theorem reflTo_len (F : Pq → Pq) (ts : List Pq) (k : Nat) : (reflTo F ts k).length = ts.length := by simp [reflTo]; omega
theorem reflTo_zero (F : Pq → Pq) (ts : List Pq) : reflTo F ts 0 = ts := by simp [reflTo]
theorem reflTo_all (F : Pq → Pq) (ts : List Pq) : reflTo F ts ts.length = ts.map F := by simp [reflTo]
theorem reflTo_at (F : Pq → Pq) (ts : List Pq) {k : Nat} (h : k < ts.length) : (reflTo F ts k)[k]'(by rw [reflTo_len]; exact h) = ts[k] := by
  unfold reflTo
  rw [List.getElem_append_right (by simp; omega)]
  simp [Nat.min_eq_left (Nat.le_of_lt h)]
theorem reflTo_set (F : Pq → Pq) (ts : List Pq) {k : Nat} (h : k < ts.length) : (reflTo F ts k).set k (F ts[k]) = reflTo F ts (k + 1) := by
  unfold reflTo
  rw [List.set_append_right _ _ (by simp; omega), List.length_map, List.length_take, Nat.min_eq_left (by omega), Nat.sub_self]
  rw [List.drop_eq_getElem_cons h, List.set_cons_zero, List.take_succ_eq_append_getElem h, List.map_append]
  simp
end Go.Proofs.Ytahgnjmdlhidpaa
