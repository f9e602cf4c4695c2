/-
  Two streams: the numbers; the program.
-/
import Derived.Test.YtnknhfhllifnhaaCloud
import Derived.Test.YtnknhfhllifnhaaMax
namespace Go.Proofs.Ytnknhfhllifnhaa
open Go.Fl Go.RowKit
set_option linter.unusedSimpArgs false
set_option linter.unusedVariables false

theorem int32_is (n : Int) : Is .f32 (floatOfInt .f32 n) (floatOfInt .f32 n) :=
  ⟨cn_of _ (show nan .f32 (FloatKind.f32.format.write (.number (n < 0) n.natAbs 0)) = false from nan_write _ (by intro s t e; cases e)), nearest_lt ..⟩
/-- The numbers of the particle j of n. -/
def KS (a b : Int) (n : Nat) (S : Nat) (j : Nat) : Pb :=
  ⟨fop .mul .f32 (floatOfInt .f32 a) (fop .quo .f32 (floatOfInt .f32 j) (floatOfInt .f32 n)), fop .mul .f32 1056964608 (floatOfInt .f32 b), if j % 2 = 0 then S else fneg .f32 S, 0⟩
def padTo (rs : List R4) (n : Nat) : List R4 := rs ++ List.replicate (n - rs.length) ZR4
theorem padTo_len {rs : List R4} {n : Nat} (h : rs.length ≤ n) : (padTo rs n).length = n := by simp [padTo]; omega
theorem padTo_nil (n : Nat) : padTo [] n = List.replicate n ZR4 := by simp [padTo]
theorem padTo_all {rs : List R4} {n : Nat} (h : rs.length = n) : padTo rs n = rs := by simp [padTo, h]
theorem padTo_at {rs : List R4} {n : Nat} (h : rs.length < n) : (padTo rs n)[rs.length]'(by rw [padTo_len (by omega)]; exact h) = ZR4 := by
  unfold padTo
  rw [List.getElem_append_right (by simp)]
  simp
theorem padTo_set {rs : List R4} {n : Nat} (h : rs.length < n) (r : R4) : (padTo rs n).set rs.length r = padTo (rs ++ [r]) n := by
  unfold padTo
  rw [List.set_append_right _ _ (Nat.le_refl _), Nat.sub_self, show n - rs.length = n - (rs ++ [r]).length + 1 by simp; omega, List.replicate_succ, List.set_cons_zero]
  simp
theorem cells4_set1 {xs : List R4} {k : Nat} (h : k < xs.length) (v : Value) : (cells4 xs).set (k * 4 + 1) v = cells4 (xs.set k { xs[k] with v1 := v }) := by
  unfold cells4
  induction xs generalizing k with
  | nil => simp at h
  | cons u us ih =>
    cases k with
    | zero => simp [R4.cs]
    | succ k =>
      have e := ih (k := k) (by simpa using h)
      rw [List.flatMap_cons, List.set_cons_succ, List.flatMap_cons, List.getElem_cons_succ, ← e]
      simp only [R4.cs, List.cons_append, List.nil_append]
      rw [show (k + 1) * 4 + 1 = k * 4 + 1 + 1 + 1 + 1 + 1 by omega]
      simp [List.set_cons_succ]
theorem r4_set1 {B : Nat} {w : World} {g n cap : Nat} {xs : List R4} (h : R4Own B w (.slice (some ⟨g, 0, none⟩) n cap) xs) {k : Nat} (hk : k < xs.length) (v : Value) :
    R4Own B (w.setCell ⟨g, k * 4 + 1, none⟩ v) (.slice (some ⟨g, 0, none⟩) n cap) (xs.set k { xs[k] with v1 := v }) ∧ w.grownBy (w.setCell ⟨g, k * 4 + 1, none⟩ v) (some g) := by
  obtain ⟨a, cap', e, _⟩ := r4_form h
  simp only [Value.slice.injEq] at e
  obtain ⟨_, rfl, rfl⟩ := e
  unfold R4Own at h ⊢
  obtain ⟨h1, g1⟩ := h.stored (k * 4 + 1) v
  rw [cells4_set1 hk] at h1
  rw [List.length_set]
  exact ⟨h1, g1⟩

/-- What the back is. -/
def bkF (a b : Int) (n : Nat) : Nat := fop .quo .f32 (floatOfInt .f32 (n : Int)) (floatOfInt .f32 (IntKind.i64.wrap (a * b)))
/-- What both sides return: a cloud of n particles, or nothing. -/
def TwoRes (a b : Int) (N S B : Nat) (e : Ending) (w' : World) : Prop := ∃ (v : Value) (ts : List Pb) (k : Nat), ts.length = N ∧ BOwn B w' v ts ∧ EqP ts (KS a b N S) ∧ Is .f32 k (bkF a b N) ∧
  e = .returned (.tuple #[if okWith a b (KS a b N S) N (bkF a b N) then CV a b v k else CV 0 0 (.slice none 0 0) 0, .bool (okWith a b (KS a b N S) N (bkF a b N))])
theorem grown_setRow (w : World) (g : Nat) (cs : Array Value) : w.grownBy (w.setRow g cs) (some g) := ⟨rfl, rfl, rfl, by simp [World.setRow], fun k hk hr => setRow_other w g k cs (fun e => hr (by rw [e]))⟩
theorem even_or (k : Nat) : (k % 2 = 0 ∧ Int.tmod (k : Int) 2 = 0) ∨ (k % 2 = 1 ∧ Int.tmod (k : Int) 2 = 1) := by
  have h : Int.tmod (k : Int) 2 = ((k % 2 : Nat) : Int) := by rw [Int.tmod_eq_emod_of_nonneg (by omega)]; omega
  rw [h]; omega

theorem hstep_store {P : Program} {ops : Array Oper} {o : Oper} {a : Act} {w : World} {K : Act → World → Prop} {Q : Exit → Act → World → Prop} {E : Prop} (hgd : o.guard = none) (ty : TypeId) (x y : Operand) (ho : o.op = .store ty x y)
    (g : Nat) (cells : Array Value) (hx : a.eval x = .pointer (some ⟨g, 0, none⟩)) (hy : a.eval y = .agg cells)
    (t : TypeId) (old : Array Value) (hg : w.heap[g]? = some (.cells old t (0, 0))) (hi : (P.info? ty).map (·.size) = some cells.size)
    (hold : old.size = cells.size) (h1 : cells.all (·.oneCell') = true)
    (h : K (a.put o.dst undef) (w.setRow g cells)) : if Region.wanted o (yielded ops a.tmps) = true then Oper.wp P o a w K Q else E := by
  have hw : Region.wanted o (yielded ops a.tmps) = true := by simp [Region.wanted, hgd]
  rw [if_pos hw]
  exact wp_store_row ty x y ho g cells hx hy t old hg hi hold h1 h

set_option maxHeartbeats 4000000 in
set_option maxRecDepth 100000 in
theorem iTwo_yes (a b : Int) (c N : Nat) (hN : N = 2 * c) (s S : Nat) (is : Is .f32 s S) (hc0 : 1 ≤ c) (hc1 : c ≤ 24) (w : World) :
    Calls Try.prog 31 #[GV a b, .int .i64 (c : Int), .float .f32 s] w fun e w' => TwoRes a b N S w.heap.size e w' ∧ Below w.heap.size w w' := by
  obtain ⟨ti, hi, hz0, hz1, hz2⟩ := info_parts PTinfo
  have hb4 : ti.bytes * N ≤ 281474976710656 := by rw [hz2]; omega
  have hml : N ≤ maxLen := by unfold maxLen; omega
  have HI := Lib.hid hi; have HZ0 := Lib.hid hz0; have HZ1 := Lib.hid hz1
  have HIS := Lib.hid is
  have HB0 := Lib.hid (((Below.refl w.heap.size w).alloc (Nat.le_refl _) (.cells #[.int .i64 a, .int .i64 b] 25)).alloc (by simp) (.cells (CC 0 0 (.slice none 0 0) 0) 48))
  have HX := Lib.hid (show ((w.alloc (.cells #[.int .i64 a, .int .i64 b] 25)).alloc (.cells (CC 0 0 (.slice none 0 0) 0) 48)).heap[w.heap.size]? = some (.cells #[.int .i64 a, .int .i64 b] 25) from heap_alloc2_old w _ _)
  have HY := Lib.hid (show ((w.alloc (.cells #[.int .i64 a, .int .i64 b] 25)).alloc (.cells (CC 0 0 (.slice none 0 0) 0) 48)).heap[w.heap.size + 1]? = some (.cells (CC 0 0 (.slice none 0 0) 0) 48) from heap_alloc2_new w _ _)
  have HZ := Lib.hid (show ((w.alloc (.cells #[.int .i64 a, .int .i64 b] 25)).alloc (.cells (CC 0 0 (.slice none 0 0) 0) 48)).heap.size = w.heap.size + 1 + 1 by simp)
  have HN2 := Lib.hid (show (2 * (c : Int)) = (N : Int) by omega)
  have hN48 : 2 ≤ N ∧ N ≤ 48 := by omega
  have hq1 : decide ((c : Int) < 1) = false := decide_eq_false (by omega)
  have hq2 : decide ((c : Int) > 24) = false := decide_eq_false (by omega)
  clear hi hz0 hz1 hz2 is hN
  go_enter Try.func31, Try.ntmps31
  go_wp2_with (at_make; refine wpList_make_full _ rfl _ _ 27 rfl w.heap.size 57 ti (.agg ZC) 4 Try.underlying27 HI.out HZ0.out HZ1.out _ _ _ _ N rfl rfl HN2.out HN2.out hb4 hml (by simp; omega) ?_; intro v5 hown hgrow)
  rw [cells4_zero] at hown
  generalize (w.alloc (.cells #[.int .i64 a, .int .i64 b] 25)).alloc (.cells (CC 0 0 (.slice none 0 0) 0) 48) = w1 at HB0 HX HY HZ hown hgrow ⊢
  have HO0 := Lib.hid (show R4Own w.heap.size v5 (.slice (some ⟨w1.heap.size, 0, none⟩) N N) (padTo (([] : List Pb).map Pb.r4) N) by unfold R4Own; rw [List.map_nil, padTo_nil, List.length_replicate]; exact hown)
  have HB5 := Lib.hid (HB0.out.grown hgrow HB0.out.size (fun k h => by cases h))
  have hb15 := (Below.grown (Below.refl w1.heap.size w1) hgrow (Nat.le_refl _) (fun k h => by cases h))
  have HX5 := Lib.hid ((hb15.block w.heap.size (by rw [HZ.out]; omega)).trans HX.out)
  have HY5 := Lib.hid ((hb15.block (w.heap.size + 1) (by rw [HZ.out]; omega)).trans HY.out)
  have HZ5 := Lib.hid (show w.heap.size + 1 < v5.heap.size from Nat.lt_of_lt_of_le (by rw [HZ.out]; omega) hgrow.size)
  have HGF := Lib.hid (show w1.heap.size = w.heap.size + 1 + 1 from HZ.out)
  clear hown hgrow hb4 hml HI HZ0 HZ1 HB0 HX HY HZ hb15 hq1 hq2
  rw [HGF.out] at HO0
  clear HGF
  generalize hgf : w.heap.size + 1 + 1 = gf at HO0 ⊢
  have HGF := Lib.hid hgf
  clear hgf
  have HPF := Lib.hid (fun w' (G : v5.grownBy w' (some gf)) => (show w'.heap[w.heap.size]? = some (.cells #[.int .i64 a, .int .i64 b] 25) ∧ w'.heap[w.heap.size + 1]? = some (.cells (CC 0 0 (.slice none 0 0) 0) 48) from
    ⟨(G.block w.heap.size (Nat.lt_of_succ_lt HZ5.out) (fun e => by have h8 : w.heap.size = gf := Option.some.inj e; have := HGF.out; omega)).trans HX5.out, (G.block (w.heap.size + 1) HZ5.out (fun e => by have h8 : w.heap.size + 1 = gf := Option.some.inj e; have := HGF.out; omega)).trans HY5.out⟩))
  clear HX5 HY5
  have ia := int32_is a; have ib := int32_is b; have iN := int32_is (N : Int)
  go_wp2_with fail
  go_loopw [24] (fun i wr => ∃ k : Nat, k ≤ N ∧ i = .int .i64 (k : Int) ∧ Hid (v5.grownBy wr (some gf)) ∧ ∃ ts : List Pb, ts.length = k ∧ Hid (EqP ts (KS a b N S)) ∧ Hid (R4Own w.heap.size wr (.slice (some ⟨gf, 0, none⟩) N N) (padTo (ts.map Pb.r4) N))) (fun i _ => N - (intOf i).toNat)
  case atStart => exact ⟨0, Nat.zero_le _, rfl, Lib.hid (grown_refl _ _), [], rfl, Lib.hid (EqP.nil _), HO0⟩
  case round =>
    clear HO0
    obtain ⟨k, hk, rfl, HG, ts, htl, HE, HR⟩ := hrel
    by_cases hlt : k < N
    · have hl2 : (ts.map Pb.r4).length = k := by rw [List.length_map]; exact htl
      have HLT := Lib.hid (show k < (padTo (ts.map Pb.r4) N).length by rw [padTo_len (by omega)]; exact hlt)
      obtain ⟨⟨d0, d1, d2, d3⟩, ⟨f0, f1, f2, f3⟩⟩ := r4_cells HR.out HLT.out
      have HZR := Lib.hid (show (padTo (ts.map Pb.r4) N)[k]'(HLT.out) = ZR4 from by
        have := padTo_at (rs := ts.map Pb.r4) (n := N) (by omega)
        simpa only [hl2] using this)
      rw [HZR.out] at d0 d1 d2 d3
      unfold ZR4 at d0 d1 d2 d3
      dsimp only at d0 d1 d2 d3
      have hgc := (HPF.out _ HG.out).1
      have g0 : wr.cell? ⟨w.heap.size, 0, none⟩ = some (.int .i64 a) := by rw [Joins.cell_of_block hgc]; rfl
      have g1 : wr.cell? ⟨w.heap.size, 1, none⟩ = some (.int .i64 b) := by rw [Joins.cell_of_block hgc]; rfl
      have ik := int32_is (k : Int)
      have hkN : (k : Int) < (N : Int) := by omega
      have hHL := Lib.hid hl2
      have HTL := Lib.hid htl
      clear hgc hl2 htl
      have HRD := Lib.hid (fun m => (show R4Own w.heap.size (wr.drewN m) (.slice (some ⟨gf, 0, none⟩) N N) (padTo (ts.map Pb.r4) N) from HR.out))
      have HGD := Lib.hid (fun m => grown_trans HG.out (grown_below (row := some gf) (below_drewN (Below.refl wr.heap.size wr) m)))
      have HPS := Lib.hid (fun (t : Pb) => (show (padTo (ts.map Pb.r4) N).set k t.r4 = padTo ((ts ++ [t]).map Pb.r4) N from by
        have := padTo_set (rs := ts.map Pb.r4) (n := N) (by rw [hHL.out]; exact hlt) t.r4
        rw [hHL.out] at this
        rw [this, List.map_append]; rfl))
      have HEE := Lib.hid (fun (t : Pb) (ht : IsP t (KS a b N S k)) => (show EqP (ts ++ [t]) (KS a b N S) from HE.out.snoc (by rw [HTL.out]; exact ht)))
      clear HR HG HE
      rcases even_or k with ⟨he, ht⟩ | ⟨he, ht⟩
      · have hem : (k : Int) % 2 = 0 := by omega
        have HKEY := Lib.hid (show ∀ x y m, Is .f32 x (fop .mul .f32 (floatOfInt .f32 a) (fop .quo .f32 (floatOfInt .f32 (k : Int)) (floatOfInt .f32 (N : Int)))) → Is .f32 y (fop .mul .f32 1056964608 (floatOfInt .f32 b)) →
            v5.grownBy (((((wr.drewN m).setCell ⟨gf, k * 4, none⟩ (.complex .f32 x y)).setCell ⟨gf, k * 4 + 1, none⟩ (.complex .f32 s 0)).setCell ⟨gf, k * 4 + 2, none⟩ (.float .f32 3212836864)).setCell ⟨gf, k * 4 + 3, none⟩ (.float .f32 1065353216)) (some gf) ∧ ∃ us : List Pb, us.length = k + 1 ∧ EqP us (KS a b N S) ∧
              R4Own w.heap.size (((((wr.drewN m).setCell ⟨gf, k * 4, none⟩ (.complex .f32 x y)).setCell ⟨gf, k * 4 + 1, none⟩ (.complex .f32 s 0)).setCell ⟨gf, k * 4 + 2, none⟩ (.float .f32 3212836864)).setCell ⟨gf, k * 4 + 3, none⟩ (.float .f32 1065353216)) (.slice (some ⟨gf, 0, none⟩) N N) (padTo (us.map Pb.r4) N) from fun x y m hx hy => by
          obtain ⟨h1, h2⟩ := r4_set (HRD.out m) HLT.out (⟨x, y, s, 0⟩ : Pb).r4
          rw [HPS.out] at h1
          exact ⟨grown_trans (HGD.out m) h2, ts ++ [(⟨x, y, s, 0⟩ : Pb)], by simp [HTL.out], HEE.out (⟨x, y, s, 0⟩ : Pb) ⟨hx, hy, by unfold KS; dsimp only; rw [if_pos he]; exact HIS.out, is_zero⟩, h1⟩)
        clear he
        go_wp2_with (apply wpList_farith; rfl; rfl; rfl; rfl; (first | with_reducible assumption | exact Is.const rfl); (first | with_reducible assumption | exact Is.const rfl); intro r n hr)
        obtain ⟨G9, us, hu1, hu2, hu3⟩ := HKEY.out _ _ _ (by assumption) (by assumption)
        go_roundw
        case rel => exact ⟨k + 1, by omega, by go_num, Lib.hid G9, us, hu1, Lib.hid hu2, Lib.hid hu3⟩
        case measure => simp [intOf]; omega
      · have hem : (k : Int) % 2 = 1 := by omega
        have HKEY := Lib.hid (show ∀ x y m, Is .f32 x (fop .mul .f32 (floatOfInt .f32 a) (fop .quo .f32 (floatOfInt .f32 (k : Int)) (floatOfInt .f32 (N : Int)))) → Is .f32 y (fop .mul .f32 1056964608 (floatOfInt .f32 b)) →
            v5.grownBy ((((((wr.drewN m).setCell ⟨gf, k * 4, none⟩ (.complex .f32 x y)).setCell ⟨gf, k * 4 + 1, none⟩ (.complex .f32 s 0)).setCell ⟨gf, k * 4 + 2, none⟩ (.float .f32 3212836864)).setCell ⟨gf, k * 4 + 3, none⟩ (.float .f32 1065353216)).setCell ⟨gf, k * 4 + 1, none⟩ (.complex .f32 (Op.negFloat .f32 s) 0)) (some gf) ∧ ∃ us : List Pb, us.length = k + 1 ∧ EqP us (KS a b N S) ∧
              R4Own w.heap.size ((((((wr.drewN m).setCell ⟨gf, k * 4, none⟩ (.complex .f32 x y)).setCell ⟨gf, k * 4 + 1, none⟩ (.complex .f32 s 0)).setCell ⟨gf, k * 4 + 2, none⟩ (.float .f32 3212836864)).setCell ⟨gf, k * 4 + 3, none⟩ (.float .f32 1065353216)).setCell ⟨gf, k * 4 + 1, none⟩ (.complex .f32 (Op.negFloat .f32 s) 0)) (.slice (some ⟨gf, 0, none⟩) N N) (padTo (us.map Pb.r4) N) from fun x y m hx hy => by
          obtain ⟨h1, h2⟩ := r4_set (HRD.out m) HLT.out (⟨x, y, s, 0⟩ : Pb).r4
          obtain ⟨h3, h4⟩ := r4_set1 h1 (k := k) (by rw [List.length_set]; exact HLT.out) (.complex .f32 (Op.negFloat .f32 s) 0)
          rw [List.getElem_set_self, List.set_set, show ({ (⟨x, y, s, 0⟩ : Pb).r4 with v1 := Value.complex .f32 (Op.negFloat .f32 s) 0 } : R4) = (⟨x, y, Op.negFloat .f32 s, 0⟩ : Pb).r4 from rfl, HPS.out] at h3
          exact ⟨grown_trans (grown_trans (HGD.out m) h2) h4, ts ++ [(⟨x, y, Op.negFloat .f32 s, 0⟩ : Pb)], by simp [HTL.out], HEE.out (⟨x, y, Op.negFloat .f32 s, 0⟩ : Pb) ⟨hx, hy, by unfold KS; dsimp only; rw [if_neg (by omega)]; exact HIS.out.neg32, is_zero⟩, h3⟩)
        clear he
        go_wp2_with (apply wpList_farith; rfl; rfl; rfl; rfl; (first | with_reducible assumption | exact Is.const rfl); (first | with_reducible assumption | exact Is.const rfl); intro r n hr)
        obtain ⟨G9, us, hu1, hu2, hu3⟩ := HKEY.out _ _ _ (by assumption) (by assumption)
        go_roundw
        case rel => exact ⟨k + 1, by omega, by go_num, Lib.hid G9, us, hu1, Lib.hid hu2, Lib.hid hu3⟩
        case measure => simp [intOf]; omega
    · obtain rfl : k = N := by omega
      clear hlt
      have HRB := Lib.hid (show BOwn w.heap.size wr (.slice (some ⟨gf, 0, none⟩) k k) ts from by have h1 := HR.out; rw [padTo_all (by rw [List.length_map]; exact htl)] at h1; exact h1)
      have hgc := (HPF.out _ HG.out).1
      have g0 : wr.cell? ⟨w.heap.size, 0, none⟩ = some (.int .i64 a) := by rw [Joins.cell_of_block hgc]; rfl
      have g1 : wr.cell? ⟨w.heap.size, 1, none⟩ = some (.int .i64 b) := by rw [Joins.cell_of_block hgc]; rfl
      have HTL := Lib.hid htl
      clear hgc htl HR
      go_wp2_with fail
      have hbz : w.heap.size ≤ wr.heap.size := Nat.le_trans HB5.out.size HG.out.size
      have HZR := Lib.hid (show w.heap.size + 1 < wr.heap.size from Nat.lt_of_lt_of_le HZ5.out HG.out.size)
      have HBR := Lib.hid (below_row HB5.out HB5.out.size (by have := HGF.out; omega) HG.out)
      have HGY := Lib.hid (HPF.out _ HG.out)
      have HC2 := Lib.hid (show ∀ W, Below wr.heap.size wr W → W.cell? ⟨w.heap.size, 0, none⟩ = some (.int .i64 a) ∧ W.cell? ⟨w.heap.size, 1, none⟩ = some (.int .i64 b) from fun W hW => by
        have h1 := (hW.block w.heap.size (Nat.lt_of_succ_lt HZR.out)).trans HGY.out.1
        exact ⟨by rw [Joins.cell_of_block h1]; rfl, by rw [Joins.cell_of_block h1]; rfl⟩)
      have hd := (Below.refl wr.heap.size wr).drew
      refine wp_region_noPanic ?_
      refine wp_region_held_drew (S := fun w' => w'.cell? ⟨w.heap.size, 0, none⟩ = some (.int .i64 a) ∧ w'.cell? ⟨w.heap.size, 1, none⟩ = some (.int .i64 b)) (by kernel_rfl) (HC2.out _ hd) (fun hHeld => ?_)
      ((refine wpAnyH_take (i := 0) (v := ?_) rfl (by kernel_rfl) (by kernel_rfl) (by kernel_rfl) (fun _ _ _ h => h) (Or.inl ⟨by rfl, ?_⟩) (by assumption) ?_; rotate_left; (· intro w hSw; (try dsimp only at hSw); go_simp; first | done | with_reducible rfl); (try simp only [List.getElem_toArray, List.getElem_cons_zero, List.getElem_cons_succ, Act.put, List.setIfInBounds_toArray, List.set_cons_zero, List.set_cons_succ])); (refine wpAnyH_take (i := 1) (v := ?_) rfl (by kernel_rfl) (by kernel_rfl) (by kernel_rfl) (fun _ _ _ h => h) (Or.inl ⟨by rfl, ?_⟩) (by assumption) ?_; rotate_left; (· intro w hSw; (try dsimp only at hSw); go_simp; first | done | with_reducible rfl); (try simp only [List.getElem_toArray, List.getElem_cons_zero, List.getElem_cons_succ, Act.put, List.setIfInBounds_toArray, List.set_cons_zero, List.set_cons_succ])); (refine wpAnyH_take (i := 2) (v := ?_) rfl (by kernel_rfl) (by kernel_rfl) (by kernel_rfl) (fun _ _ _ h => h) (Or.inl ⟨by rfl, ?_⟩) (by assumption) ?_; rotate_left; (· intro w hSw; (try dsimp only at hSw); go_simp; first | done | with_reducible rfl); (try simp only [List.getElem_toArray, List.getElem_cons_zero, List.getElem_cons_succ, Act.put, List.setIfInBounds_toArray, List.set_cons_zero, List.set_cons_succ])); (refine wpAnyH_take (i := 3) (v := ?_) rfl (by kernel_rfl) (by kernel_rfl) (by kernel_rfl) (fun _ _ _ h => h) (Or.inl ⟨by rfl, ?_⟩) (by assumption) ?_; rotate_left; (· intro w hSw; (try dsimp only at hSw); go_simp; first | done | with_reducible rfl); (try simp only [List.getElem_toArray, List.getElem_cons_zero, List.getElem_cons_succ, Act.put, List.setIfInBounds_toArray, List.set_cons_zero, List.set_cons_succ])); (refine wpAnyH_take (i := 4) (v := ?_) rfl (by kernel_rfl) (by kernel_rfl) (by kernel_rfl) (fun _ _ _ h => h) (Or.inl ⟨by rfl, ?_⟩) (by assumption) ?_; rotate_left; (· intro w hSw; (try dsimp only at hSw); go_simp; first | done | with_reducible rfl); (try simp only [List.getElem_toArray, List.getElem_cons_zero, List.getElem_cons_succ, Act.put, List.setIfInBounds_toArray, List.set_cons_zero, List.set_cons_succ])))
      have hoo := fun (x : Nat) => one5 a b none 0 0 0 x
      refine wpAnyH_ready (rs := [5, 9]) (by kernel_rfl) (by simp) ?_
      refine AllReadyH.cons (i := 5) rfl (fun K hK => ?_) (AllReadyH.cons (i := 9) rfl (fun K hK => ?_) AllReadyH.nil)
      · go_simp
        refine (pointsOf_any a b _).mono ?_; rintro e w5 ⟨rfl, h5⟩
        have b5 := hd.trans (h5.mono hd.size)
        have hz5 := h5.size
        clear h5
        go_wp2_with fail
        (refine hK.out _ _ (HC2.out _ b5) (fun hHeld => ?_); clear hK K; (try simp only [List.getElem_toArray, List.getElem_cons_zero, List.getElem_cons_succ, Act.put, List.setIfInBounds_toArray, List.set_cons_zero, List.set_cons_succ]))
        ((refine wpAnyH_take (i := 6) (v := ?_) rfl (by kernel_rfl) (by kernel_rfl) (by kernel_rfl) (fun _ _ _ h => h) (Or.inl ⟨by rfl, ?_⟩) (by assumption) ?_; rotate_left; (· intro w hSw; (try dsimp only at hSw); go_simp; first | done | with_reducible rfl); (try simp only [List.getElem_toArray, List.getElem_cons_zero, List.getElem_cons_succ, Act.put, List.setIfInBounds_toArray, List.set_cons_zero, List.set_cons_succ])))
        refine wpAnyH_ready (rs := [7, 9]) (by kernel_rfl) (by simp) ?_
        refine AllReadyH.cons (i := 7) rfl (fun K hK => ?_) (AllReadyH.cons (i := 9) rfl (fun K hK => ?_) AllReadyH.nil)
        · refine hstep_fa rfl .quo 32 32 _ _ rfl rfl .f32 _ _ rfl rfl (int32_is _) (int32_is _) ?_
          intro r7 n7 hr7
          have HIR := Lib.hid (show Is .f32 r7 (bkF a b k) from hr7)
          have b7 := below_drewN b5 n7
          (refine hK.out _ _ (HC2.out _ b7) (fun hHeld => ?_); clear hK K; (try simp only [List.getElem_toArray, List.getElem_cons_zero, List.getElem_cons_succ, Act.put, List.setIfInBounds_toArray, List.set_cons_zero, List.set_cons_succ]))
          ((refine wpAnyH_take (i := 8) (v := ?_) rfl (by kernel_rfl) (by kernel_rfl) (by kernel_rfl) (fun _ _ _ h => h) (Or.inl ⟨by rfl, ?_⟩) (by assumption) ?_; rotate_left; (· intro w hSw; (try dsimp only at hSw); go_simp; first | done | with_reducible rfl); (try simp only [List.getElem_toArray, List.getElem_cons_zero, List.getElem_cons_succ, Act.put, List.setIfInBounds_toArray, List.set_cons_zero, List.set_cons_succ])))
          (refine wpAnyH_ready (rs := [9]) (by kernel_rfl) (by simp) ?_; refine AllReadyH.cons (i := 9) rfl (fun K hK => ?_) AllReadyH.nil)
          go_simp
          have b9 := b7.alloc b7.size (.cells (CC 0 0 (.slice none 0 0) 0) 48)
          (refine hK.out _ _ (HC2.out _ b9) (fun hHeld => ?_); clear hK K; (try simp only [List.getElem_toArray, List.getElem_cons_zero, List.getElem_cons_succ, Act.put, List.setIfInBounds_toArray, List.set_cons_zero, List.set_cons_succ]))
          have hz9 := heap_alloc_new (w5.drewN n7) (.cells (CC 0 0 (.slice none 0 0) 0) 48)
          (refine wpAnyH_ready (rs := [10]) (by kernel_rfl) (by simp) ?_; refine AllReadyH.cons (i := 10) rfl (fun K hK => ?_) AllReadyH.nil)
          refine hstep_store rfl 48 _ _ rfl (w5.drewN n7).heap.size (CC a b (.slice none 0 0) r7) rfl rfl 48 _ hz9 info_cloud rfl (hoo _) ?_
          have b10 := below_setRow b9 b7.size (CC a b (.slice none 0 0) r7)
          (refine hK.out _ _ (HC2.out _ b10) (fun hHeld => ?_); clear hK K; (try simp only [List.getElem_toArray, List.getElem_cons_zero, List.getElem_cons_succ, Act.put, List.setIfInBounds_toArray, List.set_cons_zero, List.set_cons_succ]))
          (refine wpAnyH_done (by kernel_rfl) ?_ _; refine NoPanic.normal ?_)
          have HWB := Lib.hid (show Below wr.heap.size wr (((w5.drewN n7).alloc (.cells (CC 0 0 (.slice none 0 0) 0) 48)).setRow (w5.drewN n7).heap.size (CC a b (.slice none 0 0) r7)) from b10)
          have HWX := Lib.hid (show (((w5.drewN n7).alloc (.cells (CC 0 0 (.slice none 0 0) 0) 48)).setRow (w5.drewN n7).heap.size (CC a b (.slice none 0 0) r7)).heap[w5.heap.size]? = some (.cells (CC a b (.slice none 0 0) r7) 48) from setRow_heap _ _ _ _ _ _ hz9)
          clear hHeld
          generalize ((w5.drewN n7).alloc (.cells (CC 0 0 (.slice none 0 0) 0) 48)).setRow (w5.drewN n7).heap.size (CC a b (.slice none 0 0) r7) = W9 at HWB HWX ⊢
          generalize w5.heap.size = bl at HWX ⊢
          have HRW := Lib.hid (r4_below HRB.out HWB.out)
          have HYW := Lib.hid ((HWB.out.block (w.heap.size + 1) HZR.out).trans HGY.out.2)
          have HBW := Lib.hid (HBR.out.trans (HWB.out.mono hbz))
          clear HWB
          go_wp2_with (((with_reducible show wpList _ _ _ (Oper.mk (some 69) _ _ _ _ _ :: _) _ _); refine wpList_load_row rfl 48 _ rfl bl rfl 48 (CC a b (.slice none 0 0) r7) (0, 0) _ HWX.out Try.underlying48 rfl info_cloud ?_))
          refine (iWith_any w.heap.size a b _ ts (KS a b k S) r7 (bkF a b k) _ HRW.out HE.out (by have := HTL.out; omega) HIR.out).mono ?_
          rintro e W2 ⟨rfl, hw2⟩
          rw [HTL.out]
          have HBF := Lib.hid (HBW.out.trans (hw2.mono HBW.out.size))
          have HYF := Lib.hid ((hw2.block (w.heap.size + 1) (Array.getElem?_eq_some_iff.1 HYW.out).1).trans HYW.out)
          have HRF := Lib.hid (r4_below HRW.out hw2)
          clear hw2 HBW HYW HRW HWX
          cases hq : okWith a b (KS a b k S) k (bkF a b k) with
          | true =>
            have hr := setRow_heap W2 (w.heap.size + 1) _ (CC a b (.slice (some ⟨gf, 0, none⟩) k k) r7) _ _ HYF.out
            obtain ⟨q0, q1, q2, q3, q4⟩ := five_cells hr
            go_wp2_with (((with_reducible show wpList _ _ _ (Oper.mk none (Op.store _ (Operand.tmp 6) _) _ _ _ _ :: _) _ _); refine wpList_store_row rfl 48 _ _ rfl (w.heap.size + 1) (CC a b (.slice (some ⟨gf, 0, none⟩) k k) r7) rfl rfl 48 _ HYF.out info_cloud rfl (one5 _ _ _ _ _ _ _) ?_))
            refine bodyPost_ret (v := .tuple #[CV a b (.slice (some ⟨gf, 0, none⟩) k k) r7, .bool true]) (by simp [results, Try.results31, go_sem, q0, q1, q2, q3, q4]) rfl ?_
            exact ⟨⟨.slice (some ⟨gf, 0, none⟩) k k, ts, r7, HTL.out, World.ownsRow.kept HRF.out (grown_setRow W2 (w.heap.size + 1) _) (.inr (fun e => by have h8 : gf = w.heap.size + 1 := Option.some.inj e; have := HGF.out; omega)), HE.out, HIR.out, by rw [hq]; rfl⟩, below_setRow HBF.out (by omega) _⟩
          | false =>
            have hr := setRow_heap W2 (w.heap.size + 1) _ (CC 0 0 (.slice none 0 0) 0) _ _ HYF.out
            obtain ⟨q0, q1, q2, q3, q4⟩ := five_cells hr
            go_wp2_with (((with_reducible show wpList _ _ _ (Oper.mk none (Op.store _ (Operand.tmp 6) _) _ _ _ _ :: _) _ _); refine wpList_store_row rfl 48 _ _ rfl (w.heap.size + 1) (CC 0 0 (.slice none 0 0) 0) rfl rfl 48 _ HYF.out info_cloud rfl (one5 _ _ _ _ _ _ _) ?_))
            refine bodyPost_ret (v := .tuple #[CV 0 0 (.slice none 0 0) 0, .bool false]) (by simp [results, Try.results31, go_sem, q0, q1, q2, q3, q4]) rfl ?_
            exact ⟨⟨.slice (some ⟨gf, 0, none⟩) k k, ts, r7, HTL.out, World.ownsRow.kept HRF.out (grown_setRow W2 (w.heap.size + 1) _) (.inr (fun e => by have h8 : gf = w.heap.size + 1 := Option.some.inj e; have := HGF.out; omega)), HE.out, HIR.out, by rw [hq]; rfl⟩, below_setRow HBF.out (by omega) _⟩
        · go_simp
          have b9 := b5.alloc b5.size (.cells (CC 0 0 (.slice none 0 0) 0) 48)
          (refine hK.out _ _ (HC2.out _ b9) (fun hHeld => ?_); clear hK K; (try simp only [List.getElem_toArray, List.getElem_cons_zero, List.getElem_cons_succ, Act.put, List.setIfInBounds_toArray, List.set_cons_zero, List.set_cons_succ]))
          have hz9 := heap_alloc_new w5 (.cells (CC 0 0 (.slice none 0 0) 0) 48)
          (refine wpAnyH_ready (rs := [7]) (by kernel_rfl) (by simp) ?_; refine AllReadyH.cons (i := 7) rfl (fun K hK => ?_) AllReadyH.nil)
          refine hstep_fa rfl .quo 32 32 _ _ rfl rfl .f32 _ _ rfl rfl (int32_is _) (int32_is _) ?_
          intro r7 n7 hr7
          have HIR := Lib.hid (show Is .f32 r7 (bkF a b k) from hr7)
          have b7 := below_drewN b9 n7
          (refine hK.out _ _ (HC2.out _ b7) (fun hHeld => ?_); clear hK K; (try simp only [List.getElem_toArray, List.getElem_cons_zero, List.getElem_cons_succ, Act.put, List.setIfInBounds_toArray, List.set_cons_zero, List.set_cons_succ]))
          ((refine wpAnyH_take (i := 8) (v := ?_) rfl (by kernel_rfl) (by kernel_rfl) (by kernel_rfl) (fun _ _ _ h => h) (Or.inl ⟨by rfl, ?_⟩) (by assumption) ?_; rotate_left; (· intro w hSw; (try dsimp only at hSw); go_simp; first | done | with_reducible rfl); (try simp only [List.getElem_toArray, List.getElem_cons_zero, List.getElem_cons_succ, Act.put, List.setIfInBounds_toArray, List.set_cons_zero, List.set_cons_succ])))
          (refine wpAnyH_ready (rs := [10]) (by kernel_rfl) (by simp) ?_; refine AllReadyH.cons (i := 10) rfl (fun K hK => ?_) AllReadyH.nil)
          refine hstep_store rfl 48 _ _ rfl w5.heap.size (CC a b (.slice none 0 0) r7) rfl rfl 48 _ (show ((w5.alloc (.cells (CC 0 0 (.slice none 0 0) 0) 48)).drewN n7).heap[w5.heap.size]? = _ from hz9) info_cloud rfl (hoo _) ?_
          have b10 := below_setRow b7 b5.size (CC a b (.slice none 0 0) r7)
          (refine hK.out _ _ (HC2.out _ b10) (fun hHeld => ?_); clear hK K; (try simp only [List.getElem_toArray, List.getElem_cons_zero, List.getElem_cons_succ, Act.put, List.setIfInBounds_toArray, List.set_cons_zero, List.set_cons_succ]))
          (refine wpAnyH_done (by kernel_rfl) ?_ _; refine NoPanic.normal ?_)
          have HWB := Lib.hid (show Below wr.heap.size wr (((w5.alloc (.cells (CC 0 0 (.slice none 0 0) 0) 48)).drewN n7).setRow w5.heap.size (CC a b (.slice none 0 0) r7)) from b10)
          have HWX := Lib.hid (show (((w5.alloc (.cells (CC 0 0 (.slice none 0 0) 0) 48)).drewN n7).setRow w5.heap.size (CC a b (.slice none 0 0) r7)).heap[w5.heap.size]? = some (.cells (CC a b (.slice none 0 0) r7) 48) from setRow_heap _ _ _ _ _ _ (show ((w5.alloc (.cells (CC 0 0 (.slice none 0 0) 0) 48)).drewN n7).heap[w5.heap.size]? = _ from hz9))
          clear hHeld
          generalize ((w5.alloc (.cells (CC 0 0 (.slice none 0 0) 0) 48)).drewN n7).setRow w5.heap.size (CC a b (.slice none 0 0) r7) = W9 at HWB HWX ⊢
          generalize w5.heap.size = bl at HWX ⊢
          have HRW := Lib.hid (r4_below HRB.out HWB.out)
          have HYW := Lib.hid ((HWB.out.block (w.heap.size + 1) HZR.out).trans HGY.out.2)
          have HBW := Lib.hid (HBR.out.trans (HWB.out.mono hbz))
          clear HWB
          go_wp2_with (((with_reducible show wpList _ _ _ (Oper.mk (some 69) _ _ _ _ _ :: _) _ _); refine wpList_load_row rfl 48 _ rfl bl rfl 48 (CC a b (.slice none 0 0) r7) (0, 0) _ HWX.out Try.underlying48 rfl info_cloud ?_))
          refine (iWith_any w.heap.size a b _ ts (KS a b k S) r7 (bkF a b k) _ HRW.out HE.out (by have := HTL.out; omega) HIR.out).mono ?_
          rintro e W2 ⟨rfl, hw2⟩
          rw [HTL.out]
          have HBF := Lib.hid (HBW.out.trans (hw2.mono HBW.out.size))
          have HYF := Lib.hid ((hw2.block (w.heap.size + 1) (Array.getElem?_eq_some_iff.1 HYW.out).1).trans HYW.out)
          have HRF := Lib.hid (r4_below HRW.out hw2)
          clear hw2 HBW HYW HRW HWX
          cases hq : okWith a b (KS a b k S) k (bkF a b k) with
          | true =>
            have hr := setRow_heap W2 (w.heap.size + 1) _ (CC a b (.slice (some ⟨gf, 0, none⟩) k k) r7) _ _ HYF.out
            obtain ⟨q0, q1, q2, q3, q4⟩ := five_cells hr
            go_wp2_with (((with_reducible show wpList _ _ _ (Oper.mk none (Op.store _ (Operand.tmp 6) _) _ _ _ _ :: _) _ _); refine wpList_store_row rfl 48 _ _ rfl (w.heap.size + 1) (CC a b (.slice (some ⟨gf, 0, none⟩) k k) r7) rfl rfl 48 _ HYF.out info_cloud rfl (one5 _ _ _ _ _ _ _) ?_))
            refine bodyPost_ret (v := .tuple #[CV a b (.slice (some ⟨gf, 0, none⟩) k k) r7, .bool true]) (by simp [results, Try.results31, go_sem, q0, q1, q2, q3, q4]) rfl ?_
            exact ⟨⟨.slice (some ⟨gf, 0, none⟩) k k, ts, r7, HTL.out, World.ownsRow.kept HRF.out (grown_setRow W2 (w.heap.size + 1) _) (.inr (fun e => by have h8 : gf = w.heap.size + 1 := Option.some.inj e; have := HGF.out; omega)), HE.out, HIR.out, by rw [hq]; rfl⟩, below_setRow HBF.out (by omega) _⟩
          | false =>
            have hr := setRow_heap W2 (w.heap.size + 1) _ (CC 0 0 (.slice none 0 0) 0) _ _ HYF.out
            obtain ⟨q0, q1, q2, q3, q4⟩ := five_cells hr
            go_wp2_with (((with_reducible show wpList _ _ _ (Oper.mk none (Op.store _ (Operand.tmp 6) _) _ _ _ _ :: _) _ _); refine wpList_store_row rfl 48 _ _ rfl (w.heap.size + 1) (CC 0 0 (.slice none 0 0) 0) rfl rfl 48 _ HYF.out info_cloud rfl (one5 _ _ _ _ _ _ _) ?_))
            refine bodyPost_ret (v := .tuple #[CV 0 0 (.slice none 0 0) 0, .bool false]) (by simp [results, Try.results31, go_sem, q0, q1, q2, q3, q4]) rfl ?_
            exact ⟨⟨.slice (some ⟨gf, 0, none⟩) k k, ts, r7, HTL.out, World.ownsRow.kept HRF.out (grown_setRow W2 (w.heap.size + 1) _) (.inr (fun e => by have h8 : gf = w.heap.size + 1 := Option.some.inj e; have := HGF.out; omega)), HE.out, HIR.out, by rw [hq]; rfl⟩, below_setRow HBF.out (by omega) _⟩
      · go_simp
        have b9 := hd.alloc hd.size (.cells (CC 0 0 (.slice none 0 0) 0) 48)
        (refine hK.out _ _ (HC2.out _ b9) (fun hHeld => ?_); clear hK K; (try simp only [List.getElem_toArray, List.getElem_cons_zero, List.getElem_cons_succ, Act.put, List.setIfInBounds_toArray, List.set_cons_zero, List.set_cons_succ]))
        have hz9 := heap_alloc_new wr.drew (.cells (CC 0 0 (.slice none 0 0) 0) 48)
        have hs9 : wr.heap.size < (wr.drew.alloc (.cells (CC 0 0 (.slice none 0 0) 0) 48)).heap.size := by simp
        (refine wpAnyH_ready (rs := [5]) (by kernel_rfl) (by simp) ?_; refine AllReadyH.cons (i := 5) rfl (fun K hK => ?_) AllReadyH.nil)
        go_simp
        refine (pointsOf_any a b _).mono ?_; rintro e w5 ⟨rfl, h5⟩
        have b5 := b9.trans (h5.mono b9.size)
        have hz5 := (h5.block wr.heap.size hs9).trans hz9
        clear h5
        go_wp2_with fail
        (refine hK.out _ _ (HC2.out _ b5) (fun hHeld => ?_); clear hK K; (try simp only [List.getElem_toArray, List.getElem_cons_zero, List.getElem_cons_succ, Act.put, List.setIfInBounds_toArray, List.set_cons_zero, List.set_cons_succ]))
        ((refine wpAnyH_take (i := 6) (v := ?_) rfl (by kernel_rfl) (by kernel_rfl) (by kernel_rfl) (fun _ _ _ h => h) (Or.inl ⟨by rfl, ?_⟩) (by assumption) ?_; rotate_left; (· intro w hSw; (try dsimp only at hSw); go_simp; first | done | with_reducible rfl); (try simp only [List.getElem_toArray, List.getElem_cons_zero, List.getElem_cons_succ, Act.put, List.setIfInBounds_toArray, List.set_cons_zero, List.set_cons_succ])))
        (refine wpAnyH_ready (rs := [7]) (by kernel_rfl) (by simp) ?_; refine AllReadyH.cons (i := 7) rfl (fun K hK => ?_) AllReadyH.nil)
        refine hstep_fa rfl .quo 32 32 _ _ rfl rfl .f32 _ _ rfl rfl (int32_is _) (int32_is _) ?_
        intro r7 n7 hr7
        have HIR := Lib.hid (show Is .f32 r7 (bkF a b k) from hr7)
        have b7 := below_drewN b5 n7
        (refine hK.out _ _ (HC2.out _ b7) (fun hHeld => ?_); clear hK K; (try simp only [List.getElem_toArray, List.getElem_cons_zero, List.getElem_cons_succ, Act.put, List.setIfInBounds_toArray, List.set_cons_zero, List.set_cons_succ]))
        ((refine wpAnyH_take (i := 8) (v := ?_) rfl (by kernel_rfl) (by kernel_rfl) (by kernel_rfl) (fun _ _ _ h => h) (Or.inl ⟨by rfl, ?_⟩) (by assumption) ?_; rotate_left; (· intro w hSw; (try dsimp only at hSw); go_simp; first | done | with_reducible rfl); (try simp only [List.getElem_toArray, List.getElem_cons_zero, List.getElem_cons_succ, Act.put, List.setIfInBounds_toArray, List.set_cons_zero, List.set_cons_succ])))
        (refine wpAnyH_ready (rs := [10]) (by kernel_rfl) (by simp) ?_; refine AllReadyH.cons (i := 10) rfl (fun K hK => ?_) AllReadyH.nil)
        refine hstep_store rfl 48 _ _ rfl wr.heap.size (CC a b (.slice none 0 0) r7) rfl rfl 48 _ (show (w5.drewN n7).heap[wr.heap.size]? = _ from hz5) info_cloud rfl (hoo _) ?_
        have b10 := below_setRow b7 (Nat.le_refl _) (CC a b (.slice none 0 0) r7)
        (refine hK.out _ _ (HC2.out _ b10) (fun hHeld => ?_); clear hK K; (try simp only [List.getElem_toArray, List.getElem_cons_zero, List.getElem_cons_succ, Act.put, List.setIfInBounds_toArray, List.set_cons_zero, List.set_cons_succ]))
        (refine wpAnyH_done (by kernel_rfl) ?_ _; refine NoPanic.normal ?_)
        have HWB := Lib.hid (show Below wr.heap.size wr ((w5.drewN n7).setRow wr.heap.size (CC a b (.slice none 0 0) r7)) from b10)
        have HWX := Lib.hid (show ((w5.drewN n7).setRow wr.heap.size (CC a b (.slice none 0 0) r7)).heap[wr.heap.size]? = some (.cells (CC a b (.slice none 0 0) r7) 48) from setRow_heap _ _ _ _ _ _ (show (w5.drewN n7).heap[wr.heap.size]? = _ from hz5))
        clear hHeld
        generalize (w5.drewN n7).setRow wr.heap.size (CC a b (.slice none 0 0) r7) = W9 at HWB HWX ⊢
        generalize wr.heap.size = bl at HWX ⊢
        have HRW := Lib.hid (r4_below HRB.out HWB.out)
        have HYW := Lib.hid ((HWB.out.block (w.heap.size + 1) HZR.out).trans HGY.out.2)
        have HBW := Lib.hid (HBR.out.trans (HWB.out.mono hbz))
        clear HWB
        go_wp2_with (((with_reducible show wpList _ _ _ (Oper.mk (some 69) _ _ _ _ _ :: _) _ _); refine wpList_load_row rfl 48 _ rfl bl rfl 48 (CC a b (.slice none 0 0) r7) (0, 0) _ HWX.out Try.underlying48 rfl info_cloud ?_))
        refine (iWith_any w.heap.size a b _ ts (KS a b k S) r7 (bkF a b k) _ HRW.out HE.out (by have := HTL.out; omega) HIR.out).mono ?_
        rintro e W2 ⟨rfl, hw2⟩
        rw [HTL.out]
        have HBF := Lib.hid (HBW.out.trans (hw2.mono HBW.out.size))
        have HYF := Lib.hid ((hw2.block (w.heap.size + 1) (Array.getElem?_eq_some_iff.1 HYW.out).1).trans HYW.out)
        have HRF := Lib.hid (r4_below HRW.out hw2)
        clear hw2 HBW HYW HRW HWX
        cases hq : okWith a b (KS a b k S) k (bkF a b k) with
        | true =>
          have hr := setRow_heap W2 (w.heap.size + 1) _ (CC a b (.slice (some ⟨gf, 0, none⟩) k k) r7) _ _ HYF.out
          obtain ⟨q0, q1, q2, q3, q4⟩ := five_cells hr
          go_wp2_with (((with_reducible show wpList _ _ _ (Oper.mk none (Op.store _ (Operand.tmp 6) _) _ _ _ _ :: _) _ _); refine wpList_store_row rfl 48 _ _ rfl (w.heap.size + 1) (CC a b (.slice (some ⟨gf, 0, none⟩) k k) r7) rfl rfl 48 _ HYF.out info_cloud rfl (one5 _ _ _ _ _ _ _) ?_))
          refine bodyPost_ret (v := .tuple #[CV a b (.slice (some ⟨gf, 0, none⟩) k k) r7, .bool true]) (by simp [results, Try.results31, go_sem, q0, q1, q2, q3, q4]) rfl ?_
          exact ⟨⟨.slice (some ⟨gf, 0, none⟩) k k, ts, r7, HTL.out, World.ownsRow.kept HRF.out (grown_setRow W2 (w.heap.size + 1) _) (.inr (fun e => by have h8 : gf = w.heap.size + 1 := Option.some.inj e; have := HGF.out; omega)), HE.out, HIR.out, by rw [hq]; rfl⟩, below_setRow HBF.out (by omega) _⟩
        | false =>
          have hr := setRow_heap W2 (w.heap.size + 1) _ (CC 0 0 (.slice none 0 0) 0) _ _ HYF.out
          obtain ⟨q0, q1, q2, q3, q4⟩ := five_cells hr
          go_wp2_with (((with_reducible show wpList _ _ _ (Oper.mk none (Op.store _ (Operand.tmp 6) _) _ _ _ _ :: _) _ _); refine wpList_store_row rfl 48 _ _ rfl (w.heap.size + 1) (CC 0 0 (.slice none 0 0) 0) rfl rfl 48 _ HYF.out info_cloud rfl (one5 _ _ _ _ _ _ _) ?_))
          refine bodyPost_ret (v := .tuple #[CV 0 0 (.slice none 0 0) 0, .bool false]) (by simp [results, Try.results31, go_sem, q0, q1, q2, q3, q4]) rfl ?_
          exact ⟨⟨.slice (some ⟨gf, 0, none⟩) k k, ts, r7, HTL.out, World.ownsRow.kept HRF.out (grown_setRow W2 (w.heap.size + 1) _) (.inr (fun e => by have h8 : gf = w.heap.size + 1 := Option.some.inj e; have := HGF.out; omega)), HE.out, HIR.out, by rw [hq]; rfl⟩, below_setRow HBF.out (by omega) _⟩
end Go.Proofs.Ytnknhfhllifnhaa
