/-
  The opposite speeds.
-/
import Derived.Test.YtibjajgcfbfppaaPtM
namespace Go.Proofs.Ytibjajgcfbfppaa
open Go.Fl Go.RowKit
set_option linter.unusedSimpArgs false
set_option linter.unusedVariables false

theorem PTinfo : (Try.prog.info? 68).map (fun i => (i.zero, i.size, i.bytes)) = some (some (.agg ZC), 4, 24) := by kernel_rfl
def ZR4 : R4 := ⟨.complex .f32 0 0, .complex .f32 0 0, .float .f32 0, .float .f32 0⟩
theorem cells4_zero (n : Nat) : (madeCells (Value.agg ZC).cells (n * 4)).toList = cells4 (List.replicate n ZR4) := by
  apply List.ext_getElem?
  intro j
  by_cases hj : j < n * 4
  · have h1 : (cells4 (List.replicate n ZR4))[j]? = (ZR4.cs)[j % 4]? := by
      have := cells4_at (ts := List.replicate n ZR4) (k := j / 4) (by simp; omega) (j % 4) (by omega)
      rw [show 4 * (j / 4) + j % 4 = j by omega] at this
      rw [this, List.getElem_replicate]
    rw [h1]
    have h2 : j % 4 = 0 ∨ j % 4 = 1 ∨ j % 4 = 2 ∨ j % 4 = 3 := by omega
    rcases h2 with h | h | h | h <;> simp [madeCells, hj, Value.cells, h, ZR4, R4.cs]
  · rw [List.getElem?_eq_none (by simp [madeCells]; omega), List.getElem?_eq_none (by rw [cells4_len]; simp; omega)]
theorem cells4_set {xs : List R4} {k : Nat} (h : k < xs.length) (t : R4) : ((((cells4 xs).set (k * 4) t.v0).set (k * 4 + 1) t.v1).set (k * 4 + 2) t.v2).set (k * 4 + 3) t.v3 = cells4 (xs.set k t) := by
  unfold cells4
  induction xs generalizing k with
  | nil => simp at h
  | cons u us ih =>
    cases k with
    | zero => simp [R4.cs]
    | succ k =>
      have e := ih (k := k) (by simpa using h)
      rw [List.flatMap_cons, List.set_cons_succ, List.flatMap_cons, ← e]
      simp only [R4.cs, List.cons_append, List.nil_append]
      rw [show (k + 1) * 4 = k * 4 + 1 + 1 + 1 + 1 by omega]
      simp [List.set_cons_succ]
theorem r4_set {B : Nat} {w : World} {g n cap : Nat} {xs : List R4} (h : R4Own B w (.slice (some ⟨g, 0, none⟩) n cap) xs) {k : Nat} (hk : k < xs.length) (t : R4) :
    R4Own B ((((w.setCell ⟨g, k * 4, none⟩ t.v0).setCell ⟨g, k * 4 + 1, none⟩ t.v1).setCell ⟨g, k * 4 + 2, none⟩ t.v2).setCell ⟨g, k * 4 + 3, none⟩ t.v3) (.slice (some ⟨g, 0, none⟩) n cap) (xs.set k t) ∧
      w.grownBy ((((w.setCell ⟨g, k * 4, none⟩ t.v0).setCell ⟨g, k * 4 + 1, none⟩ t.v1).setCell ⟨g, k * 4 + 2, none⟩ t.v2).setCell ⟨g, k * 4 + 3, none⟩ t.v3) (some g) := by
  obtain ⟨a, cap', e, _⟩ := r4_form h
  simp only [Value.slice.injEq] at e
  obtain ⟨_, rfl, rfl⟩ := e
  unfold R4Own at h ⊢
  obtain ⟨h1, g1⟩ := h.stored (k * 4) t.v0
  obtain ⟨h2, g2⟩ := h1.stored (k * 4 + 1) t.v1
  obtain ⟨h3, g3⟩ := h2.stored (k * 4 + 2) t.v2
  obtain ⟨h4, g4⟩ := h3.stored (k * 4 + 3) t.v3
  rw [cells4_set hk] at h4
  rw [List.length_set]
  exact ⟨h4, grown_trans (grown_trans (grown_trans g1 g2) g3) g4⟩
theorem r4_cells {B : Nat} {w : World} {g n cap : Nat} {xs : List R4} (h : R4Own B w (.slice (some ⟨g, 0, none⟩) n cap) xs) {k : Nat} (hk : k < xs.length) :
    (w.cell? ⟨g, k * 4, none⟩ = some xs[k].v0 ∧ w.cell? ⟨g, k * 4 + 1, none⟩ = some xs[k].v1 ∧ w.cell? ⟨g, k * 4 + 2, none⟩ = some xs[k].v2 ∧ w.cell? ⟨g, k * 4 + 3, none⟩ = some xs[k].v3) ∧
      (w.frozen? ⟨g, k * 4, none⟩ = false ∧ w.frozen? ⟨g, k * 4 + 1, none⟩ = false ∧ w.frozen? ⟨g, k * 4 + 2, none⟩ = false ∧ w.frozen? ⟨g, k * 4 + 3, none⟩ = false) := by
  have hr := r4_at h hk
  have ht := r4_there h hk
  rw [Nat.mul_comm 4 k] at hr ht
  exact ⟨⟨hr 0 _ rfl, hr 1 _ rfl, hr 2 _ rfl, hr 3 _ rfl⟩, ⟨(ht 0 (by omega)).2, (ht 1 (by omega)).2, (ht 2 (by omega)).2, (ht 3 (by omega)).2⟩⟩

/-- The opposite speed. -/
def Pt.turn (t : Pt) : Pt := { t with x := Op.negFloat .f32 t.x, y := Op.negFloat .f32 t.y, p := -t.p, q := -t.q }
theorem Pt.ok.turn {t : Pt} (h : t.ok) : t.turn.ok :=
  ⟨h.n0, h.n1, h.m0, h.m1, by show -8 ≤ -t.p; have := h.p1; omega, by show -t.p ≤ 8; have := h.p0; omega, by show -8 ≤ -t.q; have := h.q1; omega, by show -t.q ≤ 8; have := h.q0; omega, h.c0, h.c1, h.s0, h.s1, h.dx.neg, h.dy.neg⟩
theorem oks_turn {ts : List Pt} (h : oks ts) : oks (ts.map Pt.turn) := by
  intro t ht
  obtain ⟨u, hu, rfl⟩ := List.mem_map.1 ht
  exact (h u hu).turn
theorem turn_turn (t : Pt) : t.turn.turn = t := by
  unfold Pt.turn
  simp [neg_neg]
/-- Under way: what is made, and rows of zeros. -/
def turnTo (ts : List Pt) (k : Nat) : List R4 := (ts.take k).map (fun t => t.turn.r4) ++ List.replicate (ts.length - k) ZR4
theorem turnTo_len (ts : List Pt) {k : Nat} (h : k ≤ ts.length) : (turnTo ts k).length = ts.length := by simp [turnTo]; omega
theorem turnTo_zero (ts : List Pt) : turnTo ts 0 = List.replicate ts.length ZR4 := by simp [turnTo]
theorem turnTo_all (ts : List Pt) : turnTo ts ts.length = (ts.map Pt.turn).map Pt.r4 := by simp [turnTo, List.map_map]
theorem turnTo_at (ts : List Pt) {k : Nat} (h : k < ts.length) : (turnTo ts k)[k]'(by rw [turnTo_len ts (by omega)]; exact h) = ZR4 := by
  unfold turnTo
  rw [List.getElem_append_right (by simp; exact Nat.min_le_left _ _)]
  simp
theorem turnTo_set (ts : List Pt) {k : Nat} (h : k < ts.length) : (turnTo ts k).set k ts[k].turn.r4 = turnTo ts (k + 1) := by
  unfold turnTo
  rw [List.set_append_right _ _ (by simp; exact Nat.min_le_left _ _), List.length_map, List.length_take, Nat.min_eq_left (by omega), Nat.sub_self]
  rw [show ts.length - k = ts.length - (k + 1) + 1 by omega, List.replicate_succ, List.set_cons_zero, List.take_succ_eq_append_getElem h, List.map_append]
  simp

set_option maxHeartbeats 1000000 in
set_option maxRecDepth 100000 in
theorem iTurn_pt (B : Nat) (v : Value) (ts : List Pt) (w : World) (hv : POwn B w v ts) (h : oks ts) (hn : ts.length ≤ 64) :
    Calls Try.prog 22 #[v] w fun e w' => (∃ r, e = .returned (.tuple #[r, .bool true]) ∧ POwn w.heap.size w' r (ts.map Pt.turn)) ∧ Below w.heap.size w w' := by
  obtain ⟨i0, hi, hz0, hz1, hz2⟩ := info_parts PTinfo
  obtain ⟨a, cap, rfl, hf⟩ := p_form hv
  have HV := Lib.hid hv; have HO := Lib.hid h
  have hb4 : i0.bytes * ts.length ≤ 281474976710656 := by rw [hz2]; omega
  have hml : ts.length ≤ maxLen := by unfold maxLen; omega
  have HI := Lib.hid hi; have HZ0 := Lib.hid hz0; have HZ1 := Lib.hid hz1
  clear hv h hi hz0 hz1 hz2
  go_enter Try.func22, Try.ntmps22
  go_wp2_with fail
  refine (iAre_pt B _ ts _ HV.out HO.out hn).mono ?_
  rintro e w1 ⟨rfl, hb1⟩
  have HB1 := Lib.hid hb1
  clear hb1
  go_wp2_with (at_make; refine wpList_make_full _ rfl _ _ 27 rfl w.heap.size 68 i0 (.agg ZC) 4 Try.underlying27 HI.out HZ0.out HZ1.out _ _ _ _ ts.length rfl rfl rfl rfl hb4 hml HB1.out.size ?_; intro w4 hown hgrow)
  rw [cells4_zero] at hown
  have HO0 := Lib.hid (show R4Own w.heap.size w4 (.slice (some ⟨w1.heap.size, 0, none⟩) ts.length ts.length) (turnTo ts 0) by unfold R4Own; rw [turnTo_zero, List.length_replicate]; exact hown)
  have hbel0 := HB1.out.grown hgrow HB1.out.size (fun k h => by cases h)
  clear hown hgrow hb4 hml HI HZ0 HZ1
  have HG1 := Lib.hid (HB1.out.size)
  generalize w1.heap.size = g1 at HO0 HG1 ⊢
  clear HB1
  go_wp2_with fail
  go_loopw [15] (fun i wr => ∃ k : Nat, k ≤ ts.length ∧ i = .int .i64 k ∧ Below w.heap.size w wr ∧ Hid (R4Own w.heap.size wr (.slice (some ⟨g1, 0, none⟩) ts.length ts.length) (turnTo ts k))) (fun i _ => ts.length - (intOf i).toNat)
  case atStart => exact ⟨0, Nat.zero_le _, rfl, hbel0, HO0⟩
  case round =>
    clear hbel0 HO0
    obtain ⟨k, hk, rfl, hb, HR⟩ := hrel
    by_cases hlt : k < ts.length
    · rcases hf with hf | ⟨g, rfl, _, _⟩
      · subst hf; simp at hlt
      obtain ⟨c0, c1, c2, c3⟩ := p_cells (r4_below HV.out hb) hlt
      have HS := Lib.hid (turnTo_set ts hlt)
      have HLT := Lib.hid (show k < (turnTo ts k).length by rw [turnTo_len ts (by omega)]; exact hlt)
      have HZ := Lib.hid (turnTo_at ts hlt)
      generalize ts[k] = t at c0 c1 c2 c3 HS
      have HRA := Lib.hid (r4_below HR.out ((Below.refl wr.heap.size wr).alloc (Nat.le_refl _) (.cells #[.complex .f32 (E8 t.n) (E8 t.m), .complex .f32 (Op.negFloat .f32 t.x) (Op.negFloat .f32 t.y), .float .f32 (E8 t.c), .float .f32 (E8 t.s)] 68)))
      obtain ⟨⟨d0, d1, d2, d3⟩, ⟨f0, f1, f2, f3⟩⟩ := r4_cells HRA.out HLT.out
      rw [HZ.out] at d0 d1 d2 d3
      unfold ZR4 at d0 d1 d2 d3
      dsimp only at d0 d1 d2 d3
      have HST := Lib.hid (r4_set HRA.out HLT.out t.turn.r4)
      have HB := Lib.hid (hb.alloc hb.size (.cells #[.complex .f32 (E8 t.n) (E8 t.m), .complex .f32 (Op.negFloat .f32 t.x) (Op.negFloat .f32 t.y), .float .f32 (E8 t.c), .float .f32 (E8 t.s)] 68))
      have HG2 := Lib.hid (HR.out.lt g1 rfl).1
      clear hb HR
      go_wp2_with fail
      go_roundw
      case rel => exact ⟨k + 1, by omega, by go_num, ((((HB.out.setCell (p := ⟨g1, k * 4, none⟩) HG2.out _).setCell (p := ⟨g1, k * 4 + 1, none⟩) HG2.out _).setCell (p := ⟨g1, k * 4 + 2, none⟩) HG2.out _).setCell (p := ⟨g1, k * 4 + 3, none⟩) HG2.out _), Lib.hid (by have h1 := HST.out.1; rw [HS.out] at h1; exact h1)⟩
      case measure => simp [intOf]; omega
    · obtain rfl : k = ts.length := by omega
      clear hlt
      have HR2 := HR.out
      rw [turnTo_all] at HR2
      have HR3 := Lib.hid HR2
      clear HR2
      go_wp2
      go_ret2
      exact ⟨⟨_, rfl, HR3.out⟩, hb⟩
end Go.Proofs.Ytibjajgcfbfppaa
