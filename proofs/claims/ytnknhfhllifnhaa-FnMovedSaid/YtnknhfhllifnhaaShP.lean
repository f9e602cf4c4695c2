/-
  Particles that are moved by whole cells.
-/
import Derived.Test.YtnknhfhllifnhaaPtT
import Derived.Test.YtnknhfhllifnhaaDepH
namespace Go.Proofs.Ytnknhfhllifnhaa
open Go.Fl Go.RowKit
set_option linter.unusedSimpArgs false
set_option linter.unusedVariables false

theorem grown_own (w : World) (b i : Nat) (v : Value) : w.grownBy (w.setCell ⟨b, i, none⟩ v) (some b) :=
  ⟨rfl, rfl, rfl, by simp, fun k hk hr => heap_setCell_other w ⟨b, i, none⟩ k v (fun e => hr (by rw [e]))⟩
theorem tab_flt : ((List.range 9).all fun k => floatOfInt .f32 ((k : Int) - 4) == E8 (8 * ((k : Int) - 4))) = true := by decide +kernel
theorem flt_e8 {x : Int} (h0 : -4 ≤ x) (h1 : x ≤ 4) : floatOfInt .f32 x = E8 (8 * x) := by
  have h := List.all_eq_true.1 tab_flt (x + 4).toNat (List.mem_range.2 (by omega))
  simp only [show (((x + 4).toNat : Nat) : Int) - 4 = x by omega, beq_iff_eq] at h
  exact h
theorem cby_e8 (P : Program) (t : TypeId) (n m x y : Int) (n0 : 0 ≤ n) (n1 : n < 64) (m0 : 0 ≤ m) (m1 : m < 64) (p0 : -4 ≤ x) (p1 : x ≤ 4) (q0 : -4 ≤ y) (q1 : y ≤ 4) (w : World) :
    (binOp .add t (.complex .f32 (E8 n) (E8 m)) (.complex .f32 (E8 (8 * x)) (E8 (8 * y)))).run P w = .ok (.complex .f32 (E8 (n + 8 * x)) (E8 (m + 8 * y))) w := by
  have d1 := (dy_e8 n (by omega) (by omega)).add32 (dy_e8 (8 * x) (by omega) (by omega)) (by decide) (by omega)
  have d2 := (dy_e8 m (by omega) (by omega)).add32 (dy_e8 (8 * y) (by omega) (by omega)) (by decide) (by omega)
  have := nan_csum P t d1.nan d2.nan w
  rw [e8_dy (by omega) (by omega) d1, e8_dy (by omega) (by omega) d2] at this
  exact this
theorem Pt.ok.mv {t : Pt} {a b x y : Int} (h : t.ok) (ha : 4 ≤ a) (ha' : a ≤ 7) (hb : 4 ≤ b) (hb' : b ≤ 7) : (t.mv a b x y).ok := by
  have t1 := between a (t.n + 8 * x) ha ha'
  have t2 := between b (t.m + 8 * y) hb hb'
  exact ⟨by show -112 ≤ (t.n + 8 * x) % (8 * a); omega, by show (t.n + 8 * x) % (8 * a) < 248; omega, by show -112 ≤ (t.m + 8 * y) % (8 * b); omega, by show (t.m + 8 * y) % (8 * b) < 248; omega, h.p0, h.p1, h.q0, h.q1, h.c0, h.c1, h.s0, h.s1, h.dx, h.dy⟩
theorem oks_mv {ts : List Pt} {a b x y : Int} (h : oks ts) (ha : 4 ≤ a) (ha' : a ≤ 7) (hb : 4 ≤ b) (hb' : b ≤ 7) : oks (ts.map (Pt.mv a b x y)) := by
  intro t ht
  obtain ⟨u, hu, rfl⟩ := List.mem_map.1 ht
  exact (h u hu).mv ha ha' hb hb'
/-- Under way: what is made by f, and rows of zeros. -/
def mapTo (f : Pt → Pt) (ts : List Pt) (k : Nat) : List R4 := (ts.take k).map (fun t => (f t).r4) ++ List.replicate (ts.length - k) ZR4
theorem mapTo_len (f : Pt → Pt) (ts : List Pt) {k : Nat} (h : k ≤ ts.length) : (mapTo f ts k).length = ts.length := by simp [mapTo]; omega
theorem mapTo_zero (f : Pt → Pt) (ts : List Pt) : mapTo f ts 0 = List.replicate ts.length ZR4 := by simp [mapTo]
theorem mapTo_all (f : Pt → Pt) (ts : List Pt) : mapTo f ts ts.length = (ts.map f).map Pt.r4 := by simp [mapTo, List.map_map]
theorem mapTo_at (f : Pt → Pt) (ts : List Pt) {k : Nat} (h : k < ts.length) : (mapTo f ts k)[k]'(by rw [mapTo_len f ts (by omega)]; exact h) = ZR4 := by
  unfold mapTo
  rw [List.getElem_append_right (by simp; exact Nat.min_le_left _ _)]
  simp
theorem mapTo_set (f : Pt → Pt) (ts : List Pt) {k : Nat} (h : k < ts.length) : (mapTo f ts k).set k (f ts[k]).r4 = mapTo f ts (k + 1) := by
  unfold mapTo
  rw [List.set_append_right _ _ (by simp; exact Nat.min_le_left _ _), List.length_map, List.length_take, Nat.min_eq_left (by omega), Nat.sub_self]
  rw [show ts.length - k = ts.length - (k + 1) + 1 by omega, List.replicate_succ, List.set_cons_zero, List.take_succ_eq_append_getElem h, List.map_append]
  simp

set_option maxHeartbeats 2000000 in
set_option maxRecDepth 100000 in
theorem iShiftP_pt (a b x y : Int) (ha : 4 ≤ a) (ha' : a ≤ 7) (hb : 4 ≤ b) (hb' : b ≤ 7) (hx : -4 ≤ x ∧ x ≤ 4) (hy : -4 ≤ y ∧ y ≤ 4) (B : Nat) (v : Value) (ts : List Pt) (w : World) (hv : POwn B w v ts) (h : oks ts) (hd : ∀ t ∈ ts, 0 ≤ t.n ∧ t.n < 64 ∧ 0 ≤ t.m ∧ t.m < 64) (hn : ts.length ≤ 64) :
    Calls Try.prog 17 #[GV a b, v, .complex .f32 (E8 (8 * x)) (E8 (8 * y))] w fun e w' => (∃ r, e = .returned (.tuple #[r, .bool true]) ∧ POwn w.heap.size w' r (ts.map (Pt.mv a b x y))) ∧ Below w.heap.size w w' := by
  obtain ⟨ti, hi, hz0, hz1, hz2⟩ := info_parts PTinfo
  obtain ⟨av, cap, rfl, hf⟩ := p_form hv
  have HV := Lib.hid hv; have HO := Lib.hid h; have HD := Lib.hid hd
  have hb4 : ti.bytes * ts.length ≤ 281474976710656 := by rw [hz2]; omega
  have hml : ts.length ≤ maxLen := by unfold maxLen; omega
  have HI := Lib.hid hi; have HZ0 := Lib.hid hz0; have HZ1 := Lib.hid hz1
  have HP := Lib.hid (gp_new w a b 25)
  have HB0 := Lib.hid ((Below.refl w.heap.size w).alloc (Nat.le_refl _) (.cells #[.int .i64 a, .int .i64 b] 25))
  have HZG := Lib.hid (show w.heap.size < (w.alloc (.cells #[.int .i64 a, .int .i64 b] 25)).heap.size by simp)
  clear hv h hi hz0 hz1 hz2 hd
  go_enter Try.func17, Try.ntmps17
  go_wp2_with fail
  generalize w.alloc (.cells #[.int .i64 a, .int .i64 b] 25) = v1 at HP HB0 HZG ⊢
  refine (iIsPlace_e8 a b (small_grid ha ha' hb hb') (8 * x) (8 * y) (by omega) (by omega) (by omega) (by omega) _).mono ?_
  rintro e v2 ⟨rfl, h2⟩
  have HB2 := Lib.hid (HB0.out.trans (h2.mono HB0.out.size)); have HP2 := Lib.hid (HP.out.below h2); have HZG2 := Lib.hid (Nat.lt_of_lt_of_le HZG.out h2.size)
  clear h2 HP HB0 HZG
  go_wp2_with fail
  refine (iAre_pt B _ ts _ (r4_below HV.out HB2.out) HO.out hn).mono ?_
  rintro e v3 ⟨rfl, h3⟩
  have HB3 := Lib.hid (HB2.out.trans (h3.mono HB2.out.size)); have HP3 := Lib.hid (HP2.out.below h3); have HZG3 := Lib.hid (Nat.lt_of_lt_of_le HZG2.out h3.size)
  clear h3 HP2 HB2 HZG2
  go_wp2_with (at_make; refine wpList_make_full _ rfl _ _ 27 rfl w.heap.size 57 ti (.agg ZC) 4 Try.underlying27 HI.out HZ0.out HZ1.out _ _ _ _ ts.length rfl rfl rfl rfl hb4 hml HB3.out.size ?_; intro v5 hown hgrow)
  rw [cells4_zero] at hown
  have HO0 := Lib.hid (show R4Own w.heap.size v5 (.slice (some ⟨v3.heap.size, 0, none⟩) ts.length ts.length) (mapTo (Pt.mv a b x y) ts 0) by unfold R4Own; rw [mapTo_zero, List.length_replicate]; exact hown)
  have HB5 := Lib.hid (HB3.out.grown hgrow HB3.out.size (fun k h => by cases h))
  have HP5 := Lib.hid (HP3.out.below (Below.grown (Below.refl v3.heap.size v3) hgrow (Nat.le_refl _) (fun k h => by cases h)))
  have HGF := Lib.hid (show w.heap.size < v3.heap.size from HZG3.out)
  clear hown hgrow hb4 hml HI HZ0 HZ1 HB3 HP3 HZG3
  generalize v3.heap.size = gf at HO0 HGF ⊢
  have HVF := Lib.hid (fun w' (G : v5.grownBy w' (some gf)) => (show POwn B w' (.slice av ts.length cap) ts from by
    have h5 := r4_below HV.out HB5.out
    refine World.ownsRow.kept h5 G ?_
    rcases hf with rfl | ⟨g, rfl, _, hg⟩
    · rcases h5.2 with ⟨h6, _⟩ | ⟨g, _, _, h6, h7, _⟩
      · exact .inl (by rw [h6]; rfl)
      · have hl := HV.out.lt
        rw [h6] at hl ⊢
        exact .inr (fun e => by have := (hl g rfl).2; have h8 : g = gf := Option.some.inj e; have := HGF.out; omega)
    · exact .inr (fun e => by have h8 : g = gf := Option.some.inj e; have := HGF.out; omega)))
  have HPF := Lib.hid (fun w' (G : v5.grownBy w' (some gf)) => (show w'.cell? ⟨w.heap.size, 0, none⟩ = some (.int .i64 a) ∧ w'.cell? ⟨w.heap.size, 1, none⟩ = some (.int .i64 b) from by
    have hx := HGF.out
    obtain ⟨e0, e1⟩ := HP5.out.cells
    exact ⟨by rw [cell_grown G (block_lt_of_cell e0) (by show w.heap.size ≠ gf; omega)]; exact e0, by rw [cell_grown G (block_lt_of_cell e1) (by show w.heap.size ≠ gf; omega)]; exact e1⟩))
  go_wp2_with fail
  go_loopw [27] (fun i wr => ∃ k : Nat, k ≤ ts.length ∧ i = .int .i64 k ∧ Hid (v5.grownBy wr (some gf)) ∧ Hid (R4Own w.heap.size wr (.slice (some ⟨gf, 0, none⟩) ts.length ts.length) (mapTo (Pt.mv a b x y) ts k))) (fun i _ => ts.length - (intOf i).toNat)
  case atStart => exact ⟨0, Nat.zero_le _, rfl, Lib.hid (grown_refl _ _), HO0⟩
  case round =>
    clear HO0
    obtain ⟨k, hk, rfl, HG, HR⟩ := hrel
    by_cases hlt : k < ts.length
    · rcases hf with hf | ⟨g, rfl, _, _⟩
      · subst hf; simp at hlt
      obtain ⟨c0, c1, c2, c3⟩ := p_cells (HVF.out _ HG.out) hlt
      have HT := Lib.hid (oks_at HO.out hlt)
      have hd1 := HD.out _ (List.getElem_mem hlt)
      have HS := Lib.hid (mapTo_set (Pt.mv a b x y) ts hlt)
      have HLT := Lib.hid (show k < (mapTo (Pt.mv a b x y) ts k).length by rw [mapTo_len _ ts (by omega)]; exact hlt)
      have HZ := Lib.hid (mapTo_at (Pt.mv a b x y) ts hlt)
      generalize ts[k] = t at c0 c1 c2 c3 HT hd1 HS
      have HG1 := Lib.hid (grown_trans HG.out (grown_below (row := some gf) ((Below.refl wr.heap.size wr).alloc (Nat.le_refl _) (.cells #[.complex .f32 (E8 t.n) (E8 t.m), .complex .f32 t.x t.y, .float .f32 (E8 t.c), .float .f32 (E8 t.s)] 57))))
      have HR1 := Lib.hid (r4_below HR.out ((Below.refl wr.heap.size wr).alloc (Nat.le_refl _) (.cells #[.complex .f32 (E8 t.n) (E8 t.m), .complex .f32 t.x t.y, .float .f32 (E8 t.c), .float .f32 (E8 t.s)] 57)))
      have HX1 := Lib.hid (heap_alloc_new wr (.cells #[.complex .f32 (E8 t.n) (E8 t.m), .complex .f32 t.x t.y, .float .f32 (E8 t.c), .float .f32 (E8 t.s)] 57))
      have HZ1 := Lib.hid (show wr.heap.size < (wr.alloc (.cells #[.complex .f32 (E8 t.n) (E8 t.m), .complex .f32 t.x t.y, .float .f32 (E8 t.c), .float .f32 (E8 t.s)] 57)).heap.size by simp)
      have HF1 := Lib.hid (show gf < wr.heap.size from (HR.out.lt gf rfl).2)
      have HGS := Lib.hid (show v5.heap.size ≤ wr.heap.size from HG.out.size)
      obtain ⟨g0, g1⟩ := HPF.out _ HG1.out
      have hcs := cby_e8 Try.prog 39 t.n t.m x y hd1.1 hd1.2.1 hd1.2.2.1 hd1.2.2.2 hx.1 hx.2 hy.1 hy.2
      go_wp2_with fail
      generalize wr.alloc (.cells #[.complex .f32 (E8 t.n) (E8 t.m), .complex .f32 t.x t.y, .float .f32 (E8 t.c), .float .f32 (E8 t.s)] 57) = w1 at HR1 HG1 HX1 HZ1 ⊢
      generalize wr.heap.size = bp at HX1 HZ1 HF1 HGS ⊢
      clear c0 c1 c2 c3 g0 g1 HR HG hcs
      refine (iWrapPlace_e8 a b ha ha' hb hb' (t.n + 8 * x) (t.m + 8 * y) (by omega) (by omega) (by omega) (by omega) _).mono ?_
      rintro e w2 ⟨rfl, h2⟩
      have HR2 := Lib.hid (r4_below HR1.out h2); have HG2 := Lib.hid (grown_trans HG1.out (grown_below (row := some gf) h2))
      have HX2 := Lib.hid ((h2.block bp HZ1.out).trans HX1.out); have HZ2 := Lib.hid (Nat.lt_of_lt_of_le HZ1.out h2.size)
      clear h2 HR1 HG1 HX1 HZ1
      obtain ⟨c0, c1, c2, c3⟩ := Four.cells HX2.out
      have f0 : w2.frozen? ⟨bp, 0, none⟩ = false := by simp [World.frozen?, HX2.out]
      have hne : gf ≠ bp := by have := HF1.out; omega
      have HR3 := Lib.hid (show R4Own w.heap.size (w2.setCell ⟨bp, 0, none⟩ (.complex .f32 (E8 ((t.n + 8 * x) % (8 * a))) (E8 ((t.m + 8 * y) % (8 * b))))) (.slice (some ⟨gf, 0, none⟩) ts.length ts.length) (mapTo (Pt.mv a b x y) ts k) from World.ownsRow.kept HR2.out (grown_own w2 bp 0 _) (.inr (fun e => hne (Option.some.inj e))))
      have HG3 := Lib.hid (grown_set HG2.out (p := ⟨bp, 0, none⟩) HGS.out (.complex .f32 (E8 ((t.n + 8 * x) % (8 * a))) (E8 ((t.m + 8 * y) % (8 * b)))))
      obtain ⟨⟨d0, d1, d2, d3⟩, ⟨f00, f1, f2, f3⟩⟩ := r4_cells HR3.out HLT.out
      rw [HZ.out] at d0 d1 d2 d3
      unfold ZR4 at d0 d1 d2 d3
      dsimp only at d0 d1 d2 d3
      have HST := Lib.hid (r4_set HR3.out HLT.out (t.mv a b x y).r4)
      go_wp2_with fail
      go_roundw
      case rel => exact ⟨k + 1, by omega, by go_num, Lib.hid (grown_trans HG3.out HST.out.2), Lib.hid (by have h1 := HST.out.1; rw [HS.out] at h1; exact h1)⟩
      case measure => simp [intOf]; omega
    · obtain rfl : k = ts.length := by omega
      clear hlt
      have HR2 := HR.out
      rw [mapTo_all] at HR2
      have HR3 := Lib.hid HR2
      clear HR2
      go_wp2
      go_ret2
      exact ⟨⟨_, rfl, HR3.out⟩, below_row HB5.out HB5.out.size (Nat.le_of_lt HGF.out) HG.out⟩
end Go.Proofs.Ytnknhfhllifnhaa
