/-
  Equations of neighbours, of the program.
-/
import Derived.Test.YtjfnecmnofcjbaaRow1
import Derived.Deep.Cut
import Derived.Deep.CutRange
namespace Go.Proofs.Ytjfnecmnofcjbaa
open Go.Fl Go.RowKit
open Go.Joins (ownsRow_le)
set_option linter.unusedSimpArgs false
set_option linter.unusedVariables false

/-- A step of a region that draws its order: a list is made. -/
theorem hstep_make {P : Program} {ops : Array Oper} {o : Oper} {a : Act} {w : World} {K : Act → World → Prop} {Q : Exit → Act → World → Prop} {E : Prop} (hgd : o.guard = none) (l c : Operand) (t : TypeId) (hop : o.op = .makeSlice t l c)
    (base : Nat) (e : TypeId) (i : TypeInfo) (z : Value) (h1 : P.underlying t = some (.slice e)) (h2 : P.info? e = some i) (h3 : i.zero = some z) (h4 : i.size = 1) (kl kc : IntKind) (n : Nat) (hl : a.eval l = .int kl (n : Int)) (hc : a.eval c = .int kc (n : Int)) (b2 : i.bytes * n ≤ 281474976710656) (b3 : n ≤ maxLen) (b4 : base ≤ w.heap.size)
    (h : ∀ w', w'.ownsRow base e 1 (.slice (some ⟨w.heap.size, 0, none⟩) n n) n (madeCells z.cells (n * 1)).toList → w.grownBy w' none → K (a.put o.dst (.slice (some ⟨w.heap.size, 0, none⟩) n n)) w') :
    if Region.wanted o (yielded ops a.tmps) = true then Oper.wp P o a w K Q else E := by
  have hw : Region.wanted o (yielded ops a.tmps) = true := by simp [Region.wanted, hgd]
  rw [if_pos hw]
  obtain ⟨w', hrun, r1, r2⟩ := run_make_full (P := P) w base t e i z 1 h1 h2 h3 h4 kl kc n b2 b3 b4
  unfold Oper.wp
  simp [execOp, hop, hl, hc, hrun, Result.andThen]
  exact h w' r1 r2

theorem made_zero (n : Nat) : (madeCells (Value.float .f32 0).cells (n * 1)).toList = (List.replicate n 0).map (Value.float .f32) := by
  rw [Nat.mul_one]
  exact (toList_madeCells_one (.float .f32 0) n).trans (by simp)

set_option maxHeartbeats 20000000 in
set_option maxRecDepth 100000 in
theorem iRow2_yes (u1 u2 u3 u4 : Value) (lo mi up ri : List Nat) (w : World) (h1 : FS .f32 w u1 lo) (h2 : FS .f32 w u2 mi) (h3 : FS .f32 w u3 up) (h4 : FS .f32 w u4 ri) (l1 : lo.length = ri.length) (l2 : mi.length = ri.length) (l3 : up.length = ri.length) (n1 : 1 ≤ ri.length) (n2 : ri.length ≤ 256) :
    Calls Try.prog 81 #[u1, u2, u3, u4] w fun e w' => (∃ v, e = .returned (.tuple #[v, .bool (triFine lo mi up ri ri.length)]) ∧ FRes w.heap.size w' v (rowN lo mi up ri) (triX lo mi up ri ri.length)) ∧ Below w.heap.size w w' := by
  obtain ⟨i0, hi, hz0, hz1, hz2⟩ := info_parts F32info
  have hb4 : i0.bytes * ri.length ≤ 281474976710656 := by rw [hz2]; omega
  have hml : ri.length ≤ maxLen := by unfold maxLen; omega
  have HI := Lib.hid hi; have HZ0 := Lib.hid hz0; have HZ1 := Lib.hid hz1
  clear hi hz0 hz1 hz2
  have H1 := Lib.hid h1; have H2 := Lib.hid h2; have H3 := Lib.hid h3; have H4 := Lib.hid h4
  obtain ⟨a1, c1, rfl, _, _, wf1, _⟩ := h1
  obtain ⟨a2, c2, rfl, _, _, wf2, _⟩ := h2
  obtain ⟨a3, c3, rfl, _, _, wf3, _⟩ := h3
  obtain ⟨a4, c4, rfl, _, _, wf4, _⟩ := h4
  have W1 := Lib.hid wf1; have W2 := Lib.hid wf2; have W3 := Lib.hid wf3; have W4 := Lib.hid wf4
  have L1 := Lib.hid l1; have L2 := Lib.hid l2; have L3 := Lib.hid l3
  rw [l1] at H1; rw [l2] at H2; rw [l3] at H3
  rw [l1, l2, l3]
  clear wf1 wf2 wf3 wf4 l1 l2 l3
  have hq1 : ¬ (ri.length : Int) < 1 := by omega
  have hq2 : ¬ (256 : Int) < (ri.length : Int) := by omega
  go_enter Try.func81, Try.ntmps81
  go_upto_region 4 with fail
  go_cut [11, 12] from 42 to 45 (fun v1 v2 wx => ∃ g g', v1 = .slice (some ⟨g, 0, none⟩) ri.length ri.length ∧ v2 = .slice (some ⟨g', 0, none⟩) ri.length ri.length ∧ Hid (g ≠ g') ∧ Hid (wx.ownsRow w.heap.size 37 1 (.slice (some ⟨g, 0, none⟩) ri.length ri.length) ri.length ((List.replicate ri.length 0).map (Value.float .f32))) ∧ Hid (wx.ownsRow w.heap.size 37 1 (.slice (some ⟨g', 0, none⟩) ri.length ri.length) ri.length ((List.replicate ri.length 0).map (Value.float .f32))) ∧ Hid (Below w.heap.size w wx))
  case first =>
    refine wp_region_noPanic ?_
    refine wp_region_held_drew (S := fun _ => True) (by kernel_rfl) trivial (fun hHeld => ?_)
    have hd0 := (Below.refl w.heap.size w).drew
    generalize w.drew = v0 at hd0 ⊢
    ((refine wpAnyH_take (i := 0) (v := ?_) rfl (by kernel_rfl) (by kernel_rfl) (by kernel_rfl) (fun _ _ _ h => h) (Or.inl ⟨by rfl, ?_⟩) (by assumption) ?_; rotate_left; (· intro w hSw; (try dsimp only at hSw); go_simp; first | done | with_reducible rfl); (try simp only [List.getElem_toArray, List.getElem_cons_zero, List.getElem_cons_succ, Act.put, List.setIfInBounds_toArray, List.set_cons_zero, List.set_cons_succ])); (refine wpAnyH_take (i := 2) (v := ?_) rfl (by kernel_rfl) (by kernel_rfl) (by kernel_rfl) (fun _ _ _ h => h) (Or.inl ⟨by rfl, ?_⟩) (by assumption) ?_; rotate_left; (· intro w hSw; (try dsimp only at hSw); go_simp; first | done | with_reducible rfl); (try simp only [List.getElem_toArray, List.getElem_cons_zero, List.getElem_cons_succ, Act.put, List.setIfInBounds_toArray, List.set_cons_zero, List.set_cons_succ])))
    refine wpAnyH_ready (rs := [1, 3]) (by kernel_rfl) (by simp) ?_
    refine AllReadyH.cons (i := 1) rfl (fun K hK => ?_) (AllReadyH.cons (i := 3) rfl (fun K hK => ?_) AllReadyH.nil)
    · refine hstep_make rfl _ _ _ rfl w.heap.size 37 i0 _ Try.underlying24 HI.out HZ0.out HZ1.out _ _ ri.length rfl rfl hb4 hml hd0.size ?_
      intro v1 ho1 hg1
      have hd1 := hd0.grown hg1 hd0.size (fun k h => by cases h)
      rw [made_zero] at ho1
      have hl1 := (ho1.lt v0.heap.size rfl).2
      generalize v0.heap.size = g0 at ho1 hl1 ⊢
      (refine hK.out _ _ (trivial) (fun hHeld => ?_); clear hK K; (try simp only [List.getElem_toArray, List.getElem_cons_zero, List.getElem_cons_succ, Act.put, List.setIfInBounds_toArray, List.set_cons_zero, List.set_cons_succ]))
      ((refine wpAnyH_take (i := 4) (v := ?_) rfl (by kernel_rfl) (by kernel_rfl) (by kernel_rfl) (fun _ _ _ h => h) (Or.inl ⟨by rfl, ?_⟩) (by assumption) ?_; rotate_left; (· intro w hSw; (try dsimp only at hSw); go_simp; first | done | with_reducible rfl); (try simp only [List.getElem_toArray, List.getElem_cons_zero, List.getElem_cons_succ, Act.put, List.setIfInBounds_toArray, List.set_cons_zero, List.set_cons_succ])))
      (refine wpAnyH_ready (rs := [3]) (by kernel_rfl) (by simp) ?_; refine AllReadyH.cons (i := 3) rfl (fun K hK => ?_) AllReadyH.nil)
      refine hstep_make rfl _ _ _ rfl w.heap.size 37 i0 _ Try.underlying24 HI.out HZ0.out HZ1.out _ _ ri.length rfl rfl hb4 hml hd1.size ?_
      intro v2 ho2 hg2
      have hd2 := hd1.grown hg2 hd1.size (fun k h => by cases h)
      rw [made_zero] at ho2
      have ho3 := World.ownsRow.kept ho1 hg2 (.inr (by simp [Value.ownBlock]))
      generalize v1.heap.size = g1 at ho2 hl1 ⊢
      (refine hK.out _ _ (trivial) (fun hHeld => ?_); clear hK K; (try simp only [List.getElem_toArray, List.getElem_cons_zero, List.getElem_cons_succ, Act.put, List.setIfInBounds_toArray, List.set_cons_zero, List.set_cons_succ]))
      ((refine wpAnyH_take (i := 5) (v := ?_) rfl (by kernel_rfl) (by kernel_rfl) (by kernel_rfl) (fun _ _ _ h => h) (Or.inl ⟨by rfl, ?_⟩) (by assumption) ?_; rotate_left; (· intro w hSw; (try dsimp only at hSw); go_simp; first | done | with_reducible rfl); (try simp only [List.getElem_toArray, List.getElem_cons_zero, List.getElem_cons_succ, Act.put, List.setIfInBounds_toArray, List.set_cons_zero, List.set_cons_succ])))
      (refine wpAnyH_done (by kernel_rfl) ?_ _; refine NoPanic.normal ?_)
      go_wp2_with fail
      go_meet
      case rel => exact ⟨g0, g1, rfl, rfl, Lib.hid (by omega), Lib.hid ho3, Lib.hid ho2, Lib.hid hd2⟩
    · refine hstep_make rfl _ _ _ rfl w.heap.size 37 i0 _ Try.underlying24 HI.out HZ0.out HZ1.out _ _ ri.length rfl rfl hb4 hml hd0.size ?_
      intro v1 ho1 hg1
      have hd1 := hd0.grown hg1 hd0.size (fun k h => by cases h)
      rw [made_zero] at ho1
      have hl1 := (ho1.lt v0.heap.size rfl).2
      generalize v0.heap.size = g0 at ho1 hl1 ⊢
      (refine hK.out _ _ (trivial) (fun hHeld => ?_); clear hK K; (try simp only [List.getElem_toArray, List.getElem_cons_zero, List.getElem_cons_succ, Act.put, List.setIfInBounds_toArray, List.set_cons_zero, List.set_cons_succ]))
      (refine wpAnyH_ready (rs := [1]) (by kernel_rfl) (by simp) ?_; refine AllReadyH.cons (i := 1) rfl (fun K hK => ?_) AllReadyH.nil)
      refine hstep_make rfl _ _ _ rfl w.heap.size 37 i0 _ Try.underlying24 HI.out HZ0.out HZ1.out _ _ ri.length rfl rfl hb4 hml hd1.size ?_
      intro v2 ho2 hg2
      have hd2 := hd1.grown hg2 hd1.size (fun k h => by cases h)
      rw [made_zero] at ho2
      have ho3 := World.ownsRow.kept ho1 hg2 (.inr (by simp [Value.ownBlock]))
      generalize v1.heap.size = g1 at ho2 hl1 ⊢
      (refine hK.out _ _ (trivial) (fun hHeld => ?_); clear hK K; (try simp only [List.getElem_toArray, List.getElem_cons_zero, List.getElem_cons_succ, Act.put, List.setIfInBounds_toArray, List.set_cons_zero, List.set_cons_succ]))
      ((refine wpAnyH_take (i := 4) (v := ?_) rfl (by kernel_rfl) (by kernel_rfl) (by kernel_rfl) (fun _ _ _ h => h) (Or.inl ⟨by rfl, ?_⟩) (by assumption) ?_; rotate_left; (· intro w hSw; (try dsimp only at hSw); go_simp; first | done | with_reducible rfl); (try simp only [List.getElem_toArray, List.getElem_cons_zero, List.getElem_cons_succ, Act.put, List.setIfInBounds_toArray, List.set_cons_zero, List.set_cons_succ])); (refine wpAnyH_take (i := 5) (v := ?_) rfl (by kernel_rfl) (by kernel_rfl) (by kernel_rfl) (fun _ _ _ h => h) (Or.inl ⟨by rfl, ?_⟩) (by assumption) ?_; rotate_left; (· intro w hSw; (try dsimp only at hSw); go_simp; first | done | with_reducible rfl); (try simp only [List.getElem_toArray, List.getElem_cons_zero, List.getElem_cons_succ, Act.put, List.setIfInBounds_toArray, List.set_cons_zero, List.set_cons_succ])))
      (refine wpAnyH_done (by kernel_rfl) ?_ _; refine NoPanic.normal ?_)
      go_wp2_with fail
      go_meet
      case rel => exact ⟨g1, g0, rfl, rfl, Lib.hid (by omega), Lib.hid ho2, Lib.hid ho3, Lib.hid hd2⟩
  case rest =>
  obtain ⟨g, g', rfl, rfl, HGG, HO1, HO2, HD0⟩ := hcut
  clear hb4 hml HI HZ0 HZ1 hq1 hq2
  go_wp2_with fail
  go_loopw [48] (fun i wr => ∃ (k : Nat) (cs ds : List Nat), i = .int .i64 (k : Int) ∧ k ≤ ri.length ∧ Hid (cs.length = ri.length) ∧ Hid (ds.length = ri.length) ∧ Hid (∀ j, j < k → triGo lo mi up ri j = false) ∧ Hid (EqOn cs (triC lo mi up ri) 0 k) ∧ Hid (EqOn ds (triD lo mi up ri) 0 k) ∧ Hid (wr.ownsRow w.heap.size 37 1 (.slice (some ⟨g, 0, none⟩) ri.length ri.length) ri.length (cs.map (Value.float .f32))) ∧ Hid (wr.ownsRow w.heap.size 37 1 (.slice (some ⟨g', 0, none⟩) ri.length ri.length) ri.length (ds.map (Value.float .f32))) ∧ Hid (Below w.heap.size w wr)) (fun i _ => ri.length - (intOf i).toNat)
  case atStart => exact ⟨0, List.replicate ri.length 0, List.replicate ri.length 0, rfl, Nat.zero_le _, Lib.hid (by simp), Lib.hid (by simp), Lib.hid (fun j h => absurd h (Nat.not_lt_zero j)), Lib.hid (EqOn.none _ _ _), Lib.hid (EqOn.none _ _ _), HO1, HO2, HD0⟩
  case round =>
    clear HO1 HO2 HD0
    obtain ⟨k, cs, ds, rfl, hk, HCL, HDL, HGO, HE1, HE2, HO1, HO2, HD⟩ := hrel
    have hcl := HCL.out
    have hdl := HDL.out
    by_cases hlt : k < ri.length
    · have ll1 : k < lo.length := by have := L1.out; omega
      have ll2 : k < mi.length := by have := L2.out; omega
      have ll3 : k < up.length := by have := L3.out; omega
      obtain ⟨b1, o1, e1, _⟩ := FS.at H1.out HD.out ll1
      obtain ⟨b2, o2, e2, x2⟩ := FS.at H2.out HD.out ll2
      obtain ⟨b3, o3, e3, _⟩ := FS.at H3.out HD.out ll3
      obtain ⟨b4, o4, e4, x4⟩ := FS.at H4.out HD.out hlt
      obtain rfl := e1; obtain rfl := e2; obtain rfl := e3; obtain rfl := e4
      have HX1 := Lib.hid (FS.ever H1.out ll1)
      have HX3 := Lib.hid (FS.ever H3.out ll3)
      have ix1 := FS.is W1.out k ll1
      have ix2 := FS.is W2.out k ll2
      have ix3 := FS.is W3.out k ll3
      have ix4 := FS.is W4.out k hlt
      have eC := triC_eq lo mi up ri k
      have eD := triD_eq lo mi up ri k
      have eG : triGo lo mi up ri k = fcmp .eql .f32 (triM lo mi up ri k) 0 := rfl
      have iL0 : (0 : Int) ≤ (k : Int) := Int.natCast_nonneg _
      have iL4 : (k : Int) < (ri.length : Int) := by omega
      have hfd := HO2.out.frozenAt k
      have xd := row_at HO2.out (k := k) (by omega) hlt
      have STD := HO2.out.stored k (.float .f32 (ri.getD k 0))
      rw [map_set] at STD
      have HSD := Lib.hid STD.1
      have HSC := Lib.hid (World.ownsRow.kept HO1.out STD.2 (.inr (fun e => HGG.out (by simpa [Value.ownBlock] using e))))
      have HB := Lib.hid (HD.out.setCell (p := ⟨g', k, none⟩) (HO2.out.lt g' rfl).1 (.float .f32 (ri.getD k 0)))
      generalize cn .f32 (up.getD k 0) = X3 at ix3 eC
      generalize hX2 : cn .f32 (mi.getD k 0) = X2 at ix2
      generalize hX4 : cn .f32 (ri.getD k 0) = X4 at ix4
      generalize up.getD k 0 = y3 at HX3 ix3
      generalize mi.getD k 0 = y2 at x2 ix2
      generalize ri.getD k 0 = y4 at x4 ix4 HSD HSC HB
      clear STD
      by_cases hk0 : k = 0
      · have hz : ¬ (0 : Int) < (k : Int) := by omega
        have eM : triM lo mi up ri k = X2 := by rw [← hX2, hk0]; rfl
        have eR : triR lo mi up ri k = X4 := by rw [← hX4, hk0]; rfl
        clear hk0 ix1 hX2 hX4
        go_upto_region 12 with fail
        clear x2 x4 xd hfd
        generalize wr.setCell ⟨g', k, none⟩ (.float .f32 y4) = w6 at HSD HSC HB ⊢
        have ixr := ix4
        have hys : (ds.set k y4).getD k 0 = y4 := by rw [getD_set ds k y4 k (by omega), if_pos rfl]
        have hyl : (ds.set k y4).length = ri.length := by rw [List.length_set]; exact hdl
        have HEY : Hid (EqOn (ds.set k y4) (triD lo mi up ri) 0 k) := Lib.hid (EqOn.set_out HE2.out (by omega) (.inr (Nat.le_refl _)))
        generalize ds.set k y4 = es at hys hyl HEY HSD
        cases hgo : triGo lo mi up ri k with
        | true =>
          have HFI := Lib.hid (triFine_not hlt hgo)
          rw [eG, eM] at hgo
          clear eM eR eC eD
          go_wp2_with (first | (apply wpList_fcmp; rfl; rfl; rfl; rfl; (first | with_reducible assumption | exact Is.const rfl); (first | with_reducible assumption | exact Is.const rfl); (first | with_reducible assumption | exact rfl)))
          go_ret2
          rw [HFI.out, rowN_no HFI.out]
          exact ⟨⟨_, rfl, fres_none _ _ _⟩, HB.out⟩
        | false =>
          have HGO2 := Lib.hid hgo
          rw [eG, eM] at hgo
          rw [eM] at eC eD
          rw [eR] at eD
          have HEC := Lib.hid eC
          have HED := Lib.hid eD
          clear eM eR eC eD eG
          have x3 := HX3.out w6 HB.out
          have hfc := HSC.out.frozenAt k
          have xc := row_at HSC.out (k := k) (by omega) hlt
          go_upto_region 15 with (first | (apply wpList_fcmp; rfl; rfl; rfl; rfl; (first | with_reducible assumption | exact Is.const rfl); (first | with_reducible assumption | exact Is.const rfl); (first | with_reducible assumption | exact rfl)) | (apply wpList_farith; rfl; rfl; rfl; rfl; (first | with_reducible assumption | exact Is.const rfl); (first | with_reducible assumption | exact Is.const rfl); intro r n hr))
          have HRC := Lib.hid hr
          clear hr
          have STC := (show (w6.drewN n).ownsRow w.heap.size 37 1 (.slice (some ⟨g, 0, none⟩) ri.length ri.length) ri.length ((cs).map (Value.float .f32)) from HSC.out).stored k (.float .f32 r)
          rw [map_set] at STC
          have HSC8 := Lib.hid STC.1
          have HSD8 := Lib.hid (World.ownsRow.kept (show (w6.drewN n).ownsRow w.heap.size 37 1 (.slice (some ⟨g', 0, none⟩) ri.length ri.length) ri.length ((es).map (Value.float .f32)) from HSD.out) STC.2 (.inr (fun e => HGG.out (by simpa [Value.ownBlock] using e.symm))))
          have HB8 := Lib.hid ((below_drewN HB.out n).setCell (p := ⟨g, k, none⟩) (HSC.out.lt g rfl).1 (.float .f32 r))
          have HX8 := Lib.hid (EqOn.set_up HE1.out (show k < cs.length by omega) (show Is .f32 r (triC lo mi up ri k) by rw [HEC.out]; exact HRC.out))
          have HL8 := Lib.hid (show (cs.set k r).length = ri.length by rw [List.length_set]; exact hcl)
          clear STC x3 hfc xc
          generalize cs.set k r = c8 at HSC8 HX8 HL8
          generalize (w6.drewN n).setCell ⟨g, k, none⟩ (.float .f32 r) = w8 at HSC8 HSD8 HB8 ⊢
          have x8 := row_at HSD8.out (k := k) (by omega) hlt
          rw [hys] at x8
          have hf8 := HSD8.out.frozenAt k
          go_wp2_with (first | (apply wpList_farith; rfl; rfl; rfl; rfl; (first | with_reducible assumption | exact Is.const rfl); (first | with_reducible assumption | exact Is.const rfl); intro r n hr))
          have HRD := Lib.hid hr
          have STD := (show (w8.drewN n).ownsRow w.heap.size 37 1 (.slice (some ⟨g', 0, none⟩) ri.length ri.length) ri.length ((es).map (Value.float .f32)) from HSD8.out).stored k (.float .f32 r)
          rw [map_set] at STD
          have HSD9 := Lib.hid STD.1
          have HSC9 := Lib.hid (World.ownsRow.kept (show (w8.drewN n).ownsRow w.heap.size 37 1 (.slice (some ⟨g, 0, none⟩) ri.length ri.length) ri.length ((c8).map (Value.float .f32)) from HSC8.out) STD.2 (.inr (fun e => HGG.out (by simpa [Value.ownBlock] using e))))
          have HB9 := Lib.hid ((below_drewN HB8.out n).setCell (p := ⟨g', k, none⟩) (HSD8.out.lt g' rfl).1 (.float .f32 r))
          have HX9 := Lib.hid (EqOn.set_up HEY.out (show k < es.length by omega) (show Is .f32 r (triD lo mi up ri k) by rw [HED.out]; exact HRD.out))
          clear STD
          go_roundw
          case rel => exact ⟨k + 1, c8, es.set k r, by go_num, by omega, HL8, Lib.hid (by rw [List.length_set]; exact hyl), Lib.hid (fun i hi => by rcases Nat.lt_or_ge i k with h | h; exact HGO.out i h; rw [show i = k by omega]; exact HGO2.out), HX8, HX9, HSC9, HSD9, HB9⟩
          case measure => simp [intOf]; omega
      · obtain ⟨j, hj⟩ : ∃ j, k = j + 1 := ⟨k - 1, by omega⟩
        have hz : (0 : Int) < (k : Int) := by omega
        have eM : triM lo mi up ri k = fop .sub .f32 X2 (fop .mul .f32 (cn .f32 (lo.getD k 0)) (triC lo mi up ri j)) := by rw [← hX2, hj]; rfl
        have eR : triR lo mi up ri k = fop .sub .f32 X4 (fop .mul .f32 (cn .f32 (lo.getD k 0)) (triD lo mi up ri j)) := by rw [← hX4, hj]; rfl
        have ix5 := HE1.out j (Nat.zero_le _) (by omega)
        have ix6 := HE2.out j (Nat.zero_le _) (by omega)
        have hw1 : IntKind.i64.wrap ((k : Int) - 1) = (j : Int) := by rw [wrap_i64, wrap64_of (by omega) (by omega)]; omega
        have iJ0 : (0 : Int) ≤ (j : Int) := Int.natCast_nonneg _
        have iJ1 : (j : Int) < (ri.length : Int) := by omega
        clear hX2 hX4
        generalize cn .f32 (lo.getD k 0) = X1 at ix1 eM eR
        generalize lo.getD k 0 = y1 at HX1 ix1
        generalize triC lo mi up ri j = X5 at ix5 eM
        generalize triD lo mi up ri j = X6 at ix6 eR
        have hjl : j < ri.length := by omega
        have HJ := Lib.hid hj
        clear hk0 hj
        go_upto_region 10 with fail
        clear x2 x4 xd hfd
        generalize wr.setCell ⟨g', k, none⟩ (.float .f32 y4) = w5 at HSD HSC HB ⊢
        have x1 := HX1.out w5 HB.out
        have x5 := row_at HSC.out (k := j) (by omega) hjl
        generalize cs.getD j 0 = y5 at x5 ix5
        go_upto_region 11 with (first | (apply wpList_farith; rfl; rfl; rfl; rfl; (first | with_reducible assumption | exact Is.const rfl); (first | with_reducible assumption | exact Is.const rfl); intro r n hr) | ((with_reducible apply Loose.wp_start); kernel_rfl; kernel_rfl) | ((with_reducible apply Loose.start_cons)) | ((with_reducible apply Loose.start_nil)) | ((with_reducible apply Loose.walk_nil); intro n) | ((with_reducible apply Loose.walk_skip); exact rfl; (go_simp; first | done | exact rfl)) | ((with_reducible apply Loose.step_fc); rfl; rfl; rfl; rfl; (first | with_reducible assumption | exact Is.const rfl); (first | with_reducible assumption | exact Is.const rfl); (first | with_reducible assumption | exact rfl); exact rfl; (go_simp; first | done | exact rfl)) | ((with_reducible apply Loose.step_fa); rfl; rfl; rfl; rfl; (first | with_reducible assumption | exact Is.const rfl); (first | with_reducible assumption | exact Is.const rfl); exact rfl; (intro r; go_simp; first | done | exact rfl); intro r hr) | ((with_reducible apply Loose.step_wid); rfl; rfl; (first | with_reducible assumption | exact Is.const rfl); exact U32; exact U64; exact rfl; (intro r; go_simp; first | done | exact rfl); intro r hr) | ((with_reducible apply Loose.step_nar); rfl; rfl; (first | with_reducible assumption | exact Is.const rfl); exact U64; exact U32; (with_reducible assumption); exact rfl; (intro r; go_simp; first | done | exact rfl); intro r hr) | ((with_reducible apply Loose.step_assign); rfl; rfl; (with_reducible assumption); exact rfl; (intro r; go_simp; first | done | exact rfl); intro r hr) | ((with_reducible apply Loose.step_move); rfl; rfl; (with_reducible assumption); exact rfl; (intro r; go_simp; first | done | exact rfl); intro r hr) | ((with_reducible apply Loose.step_same); rfl; rfl; exact U32; exact U32; (first | with_reducible assumption | exact Is.const rfl); exact rfl; (intro r; go_simp; first | done | exact rfl); intro r hr) | ((with_reducible apply Loose.step_same); rfl; rfl; exact U64; exact U64; (first | with_reducible assumption | exact Is.const rfl); exact rfl; (intro r; go_simp; first | done | exact rfl); intro r hr) | ((with_reducible apply Loose.step_eq); rfl; (intro n; go_simp; first | done | exact rfl); exact rfl; (go_simp; first | done | exact rfl)))
        have ixm := hr
        have HSD7 : Hid ((w5.drewN n).ownsRow w.heap.size 37 1 (.slice (some ⟨g', 0, none⟩) ri.length ri.length) ri.length ((ds.set k y4).map (Value.float .f32))) := Lib.hid HSD.out
        have HSC7 : Hid ((w5.drewN n).ownsRow w.heap.size 37 1 (.slice (some ⟨g, 0, none⟩) ri.length ri.length) ri.length (cs.map (Value.float .f32))) := Lib.hid HSC.out
        have HB7 := Lib.hid (below_drewN HB.out n)
        clear x1 x5 HSC HSD HB
        generalize w5.drewN n = w7 at HSD7 HSC7 HB7 ⊢
        have x1 := HX1.out w7 HB7.out
        have x6 := row_at HSD7.out (k := j) (by rw [List.length_set]; omega) hjl
        have xk := row_at HSD7.out (k := k) (by rw [List.length_set]; omega) hlt
        rw [getD_set ds k y4 j (by omega), if_neg (by have := HJ.out; omega)] at x6
        rw [getD_set ds k y4 k (by omega), if_pos rfl] at xk
        generalize hy6 : ds.getD j 0 = y6 at x6 ix6
        have HY6 := Lib.hid hy6
        have hf7 := HSD7.out.frozenAt k
        clear hy6
        refine wp_region_noPanic ?_
        refine wp_region_held_drew (S := fun w' => w'.cell? ⟨b1, o1 + k, none⟩ = some (.float .f32 y1) ∧ w'.cell? ⟨g', j, none⟩ = some (.float .f32 y6)) (by kernel_rfl) ⟨x1, x6⟩ (fun hHeld => ?_)
        ((refine wpAnyH_take (i := 0) (v := ?_) rfl (by kernel_rfl) (by kernel_rfl) (by kernel_rfl) (fun _ _ _ h => h) (Or.inl ⟨by rfl, ?_⟩) (by assumption) ?_; rotate_left; (· intro w hSw; (try dsimp only at hSw); go_simp; first | done | with_reducible rfl); (try simp only [List.getElem_toArray, List.getElem_cons_zero, List.getElem_cons_succ, Act.put, List.setIfInBounds_toArray, List.set_cons_zero, List.set_cons_succ])); (refine wpAnyH_take (i := 1) (v := ?_) rfl (by kernel_rfl) (by kernel_rfl) (by kernel_rfl) (fun _ _ _ h => h) (Or.inl ⟨by rfl, ?_⟩) (by assumption) ?_; rotate_left; (· intro w hSw; (try dsimp only at hSw); go_simp; first | done | with_reducible rfl); (try simp only [List.getElem_toArray, List.getElem_cons_zero, List.getElem_cons_succ, Act.put, List.setIfInBounds_toArray, List.set_cons_zero, List.set_cons_succ])); (refine wpAnyH_take (i := 2) (v := ?_) rfl (by kernel_rfl) (by kernel_rfl) (by kernel_rfl) (fun _ _ _ h => h) (Or.inl ⟨by rfl, ?_⟩) (by assumption) ?_; rotate_left; (· intro w hSw; (try dsimp only at hSw); go_simp; first | done | with_reducible rfl); (try simp only [List.getElem_toArray, List.getElem_cons_zero, List.getElem_cons_succ, Act.put, List.setIfInBounds_toArray, List.set_cons_zero, List.set_cons_succ])); (refine wpAnyH_take (i := 4) (v := ?_) rfl (by kernel_rfl) (by kernel_rfl) (by kernel_rfl) (fun _ _ _ h => h) (Or.inl ⟨by rfl, ?_⟩) (by assumption) ?_; rotate_left; (· intro w hSw; (try dsimp only at hSw); go_simp; first | done | with_reducible rfl); (try simp only [List.getElem_toArray, List.getElem_cons_zero, List.getElem_cons_succ, Act.put, List.setIfInBounds_toArray, List.set_cons_zero, List.set_cons_succ])); (refine wpAnyH_take (i := 5) (v := ?_) rfl (by kernel_rfl) (by kernel_rfl) (by kernel_rfl) (fun _ _ _ h => h) (Or.inl ⟨by rfl, ?_⟩) (by assumption) ?_; rotate_left; (· intro w hSw; (try dsimp only at hSw); go_simp; first | done | with_reducible rfl); (try simp only [List.getElem_toArray, List.getElem_cons_zero, List.getElem_cons_succ, Act.put, List.setIfInBounds_toArray, List.set_cons_zero, List.set_cons_succ])); (refine wpAnyH_take (i := 6) (v := ?_) rfl (by kernel_rfl) (by kernel_rfl) (by kernel_rfl) (fun _ _ _ h => h) (Or.inl ⟨by rfl, ?_⟩) (by assumption) ?_; rotate_left; (· intro w hSw; (try dsimp only at hSw); go_simp; first | done | with_reducible rfl); (try simp only [List.getElem_toArray, List.getElem_cons_zero, List.getElem_cons_succ, Act.put, List.setIfInBounds_toArray, List.set_cons_zero, List.set_cons_succ])); (refine wpAnyH_take (i := 7) (v := ?_) rfl (by kernel_rfl) (by kernel_rfl) (by kernel_rfl) (fun _ _ _ h => h) (Or.inl ⟨by rfl, ?_⟩) (by assumption) ?_; rotate_left; (· intro w hSw; (try dsimp only at hSw); go_simp; first | done | with_reducible rfl); (try simp only [List.getElem_toArray, List.getElem_cons_zero, List.getElem_cons_succ, Act.put, List.setIfInBounds_toArray, List.set_cons_zero, List.set_cons_succ])); (refine wpAnyH_take (i := 8) (v := ?_) rfl (by kernel_rfl) (by kernel_rfl) (by kernel_rfl) (fun _ _ _ h => h) (Or.inl ⟨by rfl, ?_⟩) (by assumption) ?_; rotate_left; (· intro w hSw; (try dsimp only at hSw); go_simp; first | done | with_reducible rfl); (try simp only [List.getElem_toArray, List.getElem_cons_zero, List.getElem_cons_succ, Act.put, List.setIfInBounds_toArray, List.set_cons_zero, List.set_cons_succ])); (refine wpAnyH_take (i := 9) (v := ?_) rfl (by kernel_rfl) (by kernel_rfl) (by kernel_rfl) (fun _ _ _ h => h) (Or.inl ⟨by rfl, ?_⟩) (by assumption) ?_; rotate_left; (· intro w hSw; (try dsimp only at hSw); go_simp; first | done | with_reducible rfl); (try simp only [List.getElem_toArray, List.getElem_cons_zero, List.getElem_cons_succ, Act.put, List.setIfInBounds_toArray, List.set_cons_zero, List.set_cons_succ])); (refine wpAnyH_take (i := 10) (v := ?_) rfl (by kernel_rfl) (by kernel_rfl) (by kernel_rfl) (fun _ _ _ h => h) (Or.inl ⟨by rfl, ?_⟩) (by assumption) ?_; rotate_left; (· intro w hSw; (try dsimp only at hSw); go_simp; first | done | with_reducible rfl); (try simp only [List.getElem_toArray, List.getElem_cons_zero, List.getElem_cons_succ, Act.put, List.setIfInBounds_toArray, List.set_cons_zero, List.set_cons_succ])); (refine wpAnyH_take (i := 11) (v := ?_) rfl (by kernel_rfl) (by kernel_rfl) (by kernel_rfl) (fun _ _ _ h => h) (Or.inl ⟨by rfl, ?_⟩) (by assumption) ?_; rotate_left; (· intro w hSw; (try dsimp only at hSw); go_simp; first | done | with_reducible rfl); (try simp only [List.getElem_toArray, List.getElem_cons_zero, List.getElem_cons_succ, Act.put, List.setIfInBounds_toArray, List.set_cons_zero, List.set_cons_succ])); (refine wpAnyH_take (i := 12) (v := ?_) rfl (by kernel_rfl) (by kernel_rfl) (by kernel_rfl) (fun _ _ _ h => h) (Or.inl ⟨by rfl, ?_⟩) (by assumption) ?_; rotate_left; (· intro w hSw; (try dsimp only at hSw); go_simp; first | done | with_reducible rfl); (try simp only [List.getElem_toArray, List.getElem_cons_zero, List.getElem_cons_succ, Act.put, List.setIfInBounds_toArray, List.set_cons_zero, List.set_cons_succ])))
        refine wpAnyH_ready (rs := [3, 13]) (by kernel_rfl) (by simp) ?_
        refine AllReadyH.cons (i := 3) rfl (fun K hK => ?_) (AllReadyH.cons (i := 13) rfl (fun K hK => ?_) AllReadyH.nil)
        · go_simp
          (refine hK.out _ _ (by go_keep) (fun hHeld => ?_); clear hK K; (try simp only [List.getElem_toArray, List.getElem_cons_zero, List.getElem_cons_succ, Act.put, List.setIfInBounds_toArray, List.set_cons_zero, List.set_cons_succ]))
          (refine wpAnyH_ready (rs := [13]) (by kernel_rfl) (by simp) ?_; refine AllReadyH.cons (i := 13) rfl (fun K hK => ?_) AllReadyH.nil)
          refine hstep_fa rfl .mul 37 37 _ _ rfl rfl .f32 y1 y6 rfl rfl ix1 ix6 ?_
          intro r1 n1 hr1
          (refine hK.out _ _ (by go_keep) (fun hHeld => ?_); clear hK K; (try simp only [List.getElem_toArray, List.getElem_cons_zero, List.getElem_cons_succ, Act.put, List.setIfInBounds_toArray, List.set_cons_zero, List.set_cons_succ]))
          (refine wpAnyH_ready (rs := [14]) (by kernel_rfl) (by simp) ?_; refine AllReadyH.cons (i := 14) rfl (fun K hK => ?_) AllReadyH.nil)
          refine hstep_fa rfl .sub 37 37 _ _ rfl rfl .f32 y4 r1 rfl rfl ix4 hr1 ?_
          intro r2 n2 hr2
          (refine hK.out _ _ (by go_keep) (fun hHeld => ?_); clear hK K; (try simp only [List.getElem_toArray, List.getElem_cons_zero, List.getElem_cons_succ, Act.put, List.setIfInBounds_toArray, List.set_cons_zero, List.set_cons_succ]))
          have HX5 : Hid ((w7.drewN (1 + n1 + n2)).ownsRow w.heap.size 37 1 (.slice (some ⟨g', 0, none⟩) ri.length ri.length) ri.length ((ds.set k y4).map (Value.float .f32))) := Lib.hid HSD7.out
          have ST := HX5.out.stored k (.float .f32 r2)
          rw [map_set] at ST
          have HSD := Lib.hid ST.1
          have HSC := Lib.hid (World.ownsRow.kept (show (w7.drewN (1 + n1 + n2)).ownsRow w.heap.size 37 1 (.slice (some ⟨g, 0, none⟩) ri.length ri.length) ri.length (cs.map (Value.float .f32)) from HSC7.out) ST.2 (.inr (fun e => HGG.out (by simpa [Value.ownBlock] using e))))
          have HB := Lib.hid ((below_drewN HB7.out (1 + n1 + n2)).setCell (p := ⟨g', k, none⟩) (HX5.out.lt g' rfl).1 (.float .f32 r2))
          have c3' := row_at HSD.out (k := j) (by rw [List.length_set, List.length_set]; omega) hjl
          rw [getD_set _ k r2 j (by rw [List.length_set]; omega), if_neg (by have := HJ.out; omega), getD_set ds k y4 j (by omega), if_neg (by have := HJ.out; omega), HY6.out] at c3'
          have c2' := HX1.out _ HB.out
          clear ST
          ((refine wpAnyH_take (i := 15) (v := ?_) rfl (by kernel_rfl) (by kernel_rfl) (by kernel_rfl) (fun _ _ _ h => h) (Or.inl ⟨by rfl, ?_⟩) (by assumption) ?_; rotate_left; (· intro w hSw; (try dsimp only at hSw); go_simp; first | done | with_reducible rfl); (try simp only [List.getElem_toArray, List.getElem_cons_zero, List.getElem_cons_succ, Act.put, List.setIfInBounds_toArray, List.set_cons_zero, List.set_cons_succ])))
          (refine wpAnyH_ready (rs := [16]) (by kernel_rfl) (by simp) ?_; refine AllReadyH.cons (i := 16) rfl (fun K hK => ?_) AllReadyH.nil)
          go_simp
          (refine hK.out _ _ (⟨c2', c3'⟩) (fun hHeld => ?_); clear hK K; (try simp only [List.getElem_toArray, List.getElem_cons_zero, List.getElem_cons_succ, Act.put, List.setIfInBounds_toArray, List.set_cons_zero, List.set_cons_succ]))
          (refine wpAnyH_done (by kernel_rfl) ?_ _; refine NoPanic.normal ?_)
          clear hHeld xk x1 x6 hf7 c2' c3' HX5 ix6 ix1 iJ0 iJ1 hw1 hz HSD7 HSC7 HB7 HX1 HY6
          generalize (w7.drewN (1 + n1 + n2)).setCell ⟨g', k, none⟩ (.float .f32 r2) = w6 at HSD HSC HB ⊢
          have ixr := hr2
          have hys : ((ds.set k y4).set k r2).getD k 0 = r2 := by rw [getD_set _ k r2 k (by rw [List.length_set]; omega), if_pos rfl]
          have hyl : ((ds.set k y4).set k r2).length = ri.length := by rw [List.length_set, List.length_set]; exact hdl
          have HEY : Hid (EqOn ((ds.set k y4).set k r2) (triD lo mi up ri) 0 k) := Lib.hid (EqOn.set_out (EqOn.set_out HE2.out (by omega) (.inr (Nat.le_refl _))) (by rw [List.length_set]; omega) (.inr (Nat.le_refl _)))
          generalize (ds.set k y4).set k r2 = es at hys hyl HEY HSD
          cases hgo : triGo lo mi up ri k with
          | true =>
            have HFI := Lib.hid (triFine_not hlt hgo)
            rw [eG, eM] at hgo
            clear eM eR eC eD
            go_wp2_with (first | (apply wpList_fcmp; rfl; rfl; rfl; rfl; (first | with_reducible assumption | exact Is.const rfl); (first | with_reducible assumption | exact Is.const rfl); (first | with_reducible assumption | exact rfl)))
            go_ret2
            rw [HFI.out, rowN_no HFI.out]
            exact ⟨⟨_, rfl, fres_none _ _ _⟩, HB.out⟩
          | false =>
            have HGO2 := Lib.hid hgo
            rw [eG, eM] at hgo
            rw [eM] at eC eD
            rw [eR] at eD
            have HEC := Lib.hid eC
            have HED := Lib.hid eD
            clear eM eR eC eD eG
            have x3 := HX3.out w6 HB.out
            have hfc := HSC.out.frozenAt k
            have xc := row_at HSC.out (k := k) (by omega) hlt
            go_upto_region 15 with (first | (apply wpList_fcmp; rfl; rfl; rfl; rfl; (first | with_reducible assumption | exact Is.const rfl); (first | with_reducible assumption | exact Is.const rfl); (first | with_reducible assumption | exact rfl)) | (apply wpList_farith; rfl; rfl; rfl; rfl; (first | with_reducible assumption | exact Is.const rfl); (first | with_reducible assumption | exact Is.const rfl); intro r n hr))
            have HRC := Lib.hid hr
            clear hr
            have STC := (show (w6.drewN n).ownsRow w.heap.size 37 1 (.slice (some ⟨g, 0, none⟩) ri.length ri.length) ri.length ((cs).map (Value.float .f32)) from HSC.out).stored k (.float .f32 r)
            rw [map_set] at STC
            have HSC8 := Lib.hid STC.1
            have HSD8 := Lib.hid (World.ownsRow.kept (show (w6.drewN n).ownsRow w.heap.size 37 1 (.slice (some ⟨g', 0, none⟩) ri.length ri.length) ri.length ((es).map (Value.float .f32)) from HSD.out) STC.2 (.inr (fun e => HGG.out (by simpa [Value.ownBlock] using e.symm))))
            have HB8 := Lib.hid ((below_drewN HB.out n).setCell (p := ⟨g, k, none⟩) (HSC.out.lt g rfl).1 (.float .f32 r))
            have HX8 := Lib.hid (EqOn.set_up HE1.out (show k < cs.length by omega) (show Is .f32 r (triC lo mi up ri k) by rw [HEC.out]; exact HRC.out))
            have HL8 := Lib.hid (show (cs.set k r).length = ri.length by rw [List.length_set]; exact hcl)
            clear STC x3 hfc xc
            generalize cs.set k r = c8 at HSC8 HX8 HL8
            generalize (w6.drewN n).setCell ⟨g, k, none⟩ (.float .f32 r) = w8 at HSC8 HSD8 HB8 ⊢
            have x8 := row_at HSD8.out (k := k) (by omega) hlt
            rw [hys] at x8
            have hf8 := HSD8.out.frozenAt k
            go_wp2_with (first | (apply wpList_farith; rfl; rfl; rfl; rfl; (first | with_reducible assumption | exact Is.const rfl); (first | with_reducible assumption | exact Is.const rfl); intro r n hr))
            have HRD := Lib.hid hr
            have STD := (show (w8.drewN n).ownsRow w.heap.size 37 1 (.slice (some ⟨g', 0, none⟩) ri.length ri.length) ri.length ((es).map (Value.float .f32)) from HSD8.out).stored k (.float .f32 r)
            rw [map_set] at STD
            have HSD9 := Lib.hid STD.1
            have HSC9 := Lib.hid (World.ownsRow.kept (show (w8.drewN n).ownsRow w.heap.size 37 1 (.slice (some ⟨g, 0, none⟩) ri.length ri.length) ri.length ((c8).map (Value.float .f32)) from HSC8.out) STD.2 (.inr (fun e => HGG.out (by simpa [Value.ownBlock] using e))))
            have HB9 := Lib.hid ((below_drewN HB8.out n).setCell (p := ⟨g', k, none⟩) (HSD8.out.lt g' rfl).1 (.float .f32 r))
            have HX9 := Lib.hid (EqOn.set_up HEY.out (show k < es.length by omega) (show Is .f32 r (triD lo mi up ri k) by rw [HED.out]; exact HRD.out))
            clear STD
            go_roundw
            case rel => exact ⟨k + 1, c8, es.set k r, by go_num, by omega, HL8, Lib.hid (by rw [List.length_set]; exact hyl), Lib.hid (fun i hi => by rcases Nat.lt_or_ge i k with h | h; exact HGO.out i h; rw [show i = k by omega]; exact HGO2.out), HX8, HX9, HSC9, HSD9, HB9⟩
            case measure => simp [intOf]; omega
        · refine hstep_fa rfl .mul 37 37 _ _ rfl rfl .f32 y1 y6 rfl rfl ix1 ix6 ?_
          intro r1 n1 hr1
          (refine hK.out _ _ (by go_keep) (fun hHeld => ?_); clear hK K; (try simp only [List.getElem_toArray, List.getElem_cons_zero, List.getElem_cons_succ, Act.put, List.setIfInBounds_toArray, List.set_cons_zero, List.set_cons_succ]))
          (refine wpAnyH_ready (rs := [3]) (by kernel_rfl) (by simp) ?_; refine AllReadyH.cons (i := 3) rfl (fun K hK => ?_) AllReadyH.nil)
          go_simp
          (refine hK.out _ _ (by go_keep) (fun hHeld => ?_); clear hK K; (try simp only [List.getElem_toArray, List.getElem_cons_zero, List.getElem_cons_succ, Act.put, List.setIfInBounds_toArray, List.set_cons_zero, List.set_cons_succ]))
          (refine wpAnyH_ready (rs := [14]) (by kernel_rfl) (by simp) ?_; refine AllReadyH.cons (i := 14) rfl (fun K hK => ?_) AllReadyH.nil)
          refine hstep_fa rfl .sub 37 37 _ _ rfl rfl .f32 y4 r1 rfl rfl ix4 hr1 ?_
          intro r2 n2 hr2
          (refine hK.out _ _ (by go_keep) (fun hHeld => ?_); clear hK K; (try simp only [List.getElem_toArray, List.getElem_cons_zero, List.getElem_cons_succ, Act.put, List.setIfInBounds_toArray, List.set_cons_zero, List.set_cons_succ]))
          have HX5 : Hid ((w7.drewN (1 + n1 + n2)).ownsRow w.heap.size 37 1 (.slice (some ⟨g', 0, none⟩) ri.length ri.length) ri.length ((ds.set k y4).map (Value.float .f32))) := Lib.hid HSD7.out
          have ST := HX5.out.stored k (.float .f32 r2)
          rw [map_set] at ST
          have HSD := Lib.hid ST.1
          have HSC := Lib.hid (World.ownsRow.kept (show (w7.drewN (1 + n1 + n2)).ownsRow w.heap.size 37 1 (.slice (some ⟨g, 0, none⟩) ri.length ri.length) ri.length (cs.map (Value.float .f32)) from HSC7.out) ST.2 (.inr (fun e => HGG.out (by simpa [Value.ownBlock] using e))))
          have HB := Lib.hid ((below_drewN HB7.out (1 + n1 + n2)).setCell (p := ⟨g', k, none⟩) (HX5.out.lt g' rfl).1 (.float .f32 r2))
          have c3' := row_at HSD.out (k := j) (by rw [List.length_set, List.length_set]; omega) hjl
          rw [getD_set _ k r2 j (by rw [List.length_set]; omega), if_neg (by have := HJ.out; omega), getD_set ds k y4 j (by omega), if_neg (by have := HJ.out; omega), HY6.out] at c3'
          have c2' := HX1.out _ HB.out
          clear ST
          ((refine wpAnyH_take (i := 15) (v := ?_) rfl (by kernel_rfl) (by kernel_rfl) (by kernel_rfl) (fun _ _ _ h => h) (Or.inl ⟨by rfl, ?_⟩) (by assumption) ?_; rotate_left; (· intro w hSw; (try dsimp only at hSw); go_simp; first | done | with_reducible rfl); (try simp only [List.getElem_toArray, List.getElem_cons_zero, List.getElem_cons_succ, Act.put, List.setIfInBounds_toArray, List.set_cons_zero, List.set_cons_succ])))
          (refine wpAnyH_ready (rs := [16]) (by kernel_rfl) (by simp) ?_; refine AllReadyH.cons (i := 16) rfl (fun K hK => ?_) AllReadyH.nil)
          go_simp
          (refine hK.out _ _ (⟨c2', c3'⟩) (fun hHeld => ?_); clear hK K; (try simp only [List.getElem_toArray, List.getElem_cons_zero, List.getElem_cons_succ, Act.put, List.setIfInBounds_toArray, List.set_cons_zero, List.set_cons_succ]))
          (refine wpAnyH_done (by kernel_rfl) ?_ _; refine NoPanic.normal ?_)
          clear hHeld xk x1 x6 hf7 c2' c3' HX5 ix6 ix1 iJ0 iJ1 hw1 hz HSD7 HSC7 HB7 HX1 HY6
          generalize (w7.drewN (1 + n1 + n2)).setCell ⟨g', k, none⟩ (.float .f32 r2) = w6 at HSD HSC HB ⊢
          have ixr := hr2
          have hys : ((ds.set k y4).set k r2).getD k 0 = r2 := by rw [getD_set _ k r2 k (by rw [List.length_set]; omega), if_pos rfl]
          have hyl : ((ds.set k y4).set k r2).length = ri.length := by rw [List.length_set, List.length_set]; exact hdl
          have HEY : Hid (EqOn ((ds.set k y4).set k r2) (triD lo mi up ri) 0 k) := Lib.hid (EqOn.set_out (EqOn.set_out HE2.out (by omega) (.inr (Nat.le_refl _))) (by rw [List.length_set]; omega) (.inr (Nat.le_refl _)))
          generalize (ds.set k y4).set k r2 = es at hys hyl HEY HSD
          cases hgo : triGo lo mi up ri k with
          | true =>
            have HFI := Lib.hid (triFine_not hlt hgo)
            rw [eG, eM] at hgo
            clear eM eR eC eD
            go_wp2_with (first | (apply wpList_fcmp; rfl; rfl; rfl; rfl; (first | with_reducible assumption | exact Is.const rfl); (first | with_reducible assumption | exact Is.const rfl); (first | with_reducible assumption | exact rfl)))
            go_ret2
            rw [HFI.out, rowN_no HFI.out]
            exact ⟨⟨_, rfl, fres_none _ _ _⟩, HB.out⟩
          | false =>
            have HGO2 := Lib.hid hgo
            rw [eG, eM] at hgo
            rw [eM] at eC eD
            rw [eR] at eD
            have HEC := Lib.hid eC
            have HED := Lib.hid eD
            clear eM eR eC eD eG
            have x3 := HX3.out w6 HB.out
            have hfc := HSC.out.frozenAt k
            have xc := row_at HSC.out (k := k) (by omega) hlt
            go_upto_region 15 with (first | (apply wpList_fcmp; rfl; rfl; rfl; rfl; (first | with_reducible assumption | exact Is.const rfl); (first | with_reducible assumption | exact Is.const rfl); (first | with_reducible assumption | exact rfl)) | (apply wpList_farith; rfl; rfl; rfl; rfl; (first | with_reducible assumption | exact Is.const rfl); (first | with_reducible assumption | exact Is.const rfl); intro r n hr))
            have HRC := Lib.hid hr
            clear hr
            have STC := (show (w6.drewN n).ownsRow w.heap.size 37 1 (.slice (some ⟨g, 0, none⟩) ri.length ri.length) ri.length ((cs).map (Value.float .f32)) from HSC.out).stored k (.float .f32 r)
            rw [map_set] at STC
            have HSC8 := Lib.hid STC.1
            have HSD8 := Lib.hid (World.ownsRow.kept (show (w6.drewN n).ownsRow w.heap.size 37 1 (.slice (some ⟨g', 0, none⟩) ri.length ri.length) ri.length ((es).map (Value.float .f32)) from HSD.out) STC.2 (.inr (fun e => HGG.out (by simpa [Value.ownBlock] using e.symm))))
            have HB8 := Lib.hid ((below_drewN HB.out n).setCell (p := ⟨g, k, none⟩) (HSC.out.lt g rfl).1 (.float .f32 r))
            have HX8 := Lib.hid (EqOn.set_up HE1.out (show k < cs.length by omega) (show Is .f32 r (triC lo mi up ri k) by rw [HEC.out]; exact HRC.out))
            have HL8 := Lib.hid (show (cs.set k r).length = ri.length by rw [List.length_set]; exact hcl)
            clear STC x3 hfc xc
            generalize cs.set k r = c8 at HSC8 HX8 HL8
            generalize (w6.drewN n).setCell ⟨g, k, none⟩ (.float .f32 r) = w8 at HSC8 HSD8 HB8 ⊢
            have x8 := row_at HSD8.out (k := k) (by omega) hlt
            rw [hys] at x8
            have hf8 := HSD8.out.frozenAt k
            go_wp2_with (first | (apply wpList_farith; rfl; rfl; rfl; rfl; (first | with_reducible assumption | exact Is.const rfl); (first | with_reducible assumption | exact Is.const rfl); intro r n hr))
            have HRD := Lib.hid hr
            have STD := (show (w8.drewN n).ownsRow w.heap.size 37 1 (.slice (some ⟨g', 0, none⟩) ri.length ri.length) ri.length ((es).map (Value.float .f32)) from HSD8.out).stored k (.float .f32 r)
            rw [map_set] at STD
            have HSD9 := Lib.hid STD.1
            have HSC9 := Lib.hid (World.ownsRow.kept (show (w8.drewN n).ownsRow w.heap.size 37 1 (.slice (some ⟨g, 0, none⟩) ri.length ri.length) ri.length ((c8).map (Value.float .f32)) from HSC8.out) STD.2 (.inr (fun e => HGG.out (by simpa [Value.ownBlock] using e))))
            have HB9 := Lib.hid ((below_drewN HB8.out n).setCell (p := ⟨g', k, none⟩) (HSD8.out.lt g' rfl).1 (.float .f32 r))
            have HX9 := Lib.hid (EqOn.set_up HEY.out (show k < es.length by omega) (show Is .f32 r (triD lo mi up ri k) by rw [HED.out]; exact HRD.out))
            clear STD
            go_roundw
            case rel => exact ⟨k + 1, c8, es.set k r, by go_num, by omega, HL8, Lib.hid (by rw [List.length_set]; exact hyl), Lib.hid (fun i hi => by rcases Nat.lt_or_ge i k with h | h; exact HGO.out i h; rw [show i = k by omega]; exact HGO2.out), HX8, HX9, HSC9, HSD9, HB9⟩
            case measure => simp [intOf]; omega
    · have hk2 : k = ri.length := by omega
      have HFI := Lib.hid (show triFine lo mi up ri ri.length = true from triFine_all (fun j hj => HGO.out j (by omega)))
      have hwn : wrap64 ((ri.length : Int) - 2) = (ri.length : Int) - 2 := wrap64_of (by omega) (by omega)
      subst hk2
      have HDX : Hid (EqOn ds (triX lo mi up ri ri.length) (ri.length - 1) ri.length) := Lib.hid (fun q h1 h2 => by rw [show q = ri.length - 1 by omega, triX_last]; exact HE2.out (ri.length - 1) (Nat.zero_le _) (by omega))
      go_upto_region 18 with fail
      go_loopw [15] (fun i wr => ∃ (j : Int) (t : Nat) (xs : List Nat), i = .int .i64 j ∧ Hid (j + 1 = (t : Int)) ∧ t + 1 ≤ ri.length ∧ Hid (xs.length = ri.length) ∧ Hid (EqOn xs (triX lo mi up ri ri.length) t ri.length) ∧ Hid (EqOn xs (triD lo mi up ri) 0 t) ∧ Hid (wr.ownsRow w.heap.size 37 1 (.slice (some ⟨g, 0, none⟩) ri.length ri.length) ri.length (cs.map (Value.float .f32))) ∧ Hid (wr.ownsRow w.heap.size 37 1 (.slice (some ⟨g', 0, none⟩) ri.length ri.length) ri.length (xs.map (Value.float .f32))) ∧ Hid (Below w.heap.size w wr)) (fun i _ => (intOf i + 1).toNat)
      case atStart => exact ⟨(ri.length : Int) - 2, ri.length - 1, ds, rfl, Lib.hid (by omega), by omega, HDL, HDX, Lib.hid (fun q h1 h2 => HE2.out q h1 (by omega)), HO1, HO2, HD⟩
      case round =>
        clear HDX HO1 HO2 HD HE2 HDL hdl
        obtain ⟨j, t, xs, rfl, HJ, ht, HXL, HX, HE2, HO1, HO2, HD⟩ := hrel
        have hxl := HXL.out
        rcases t with _ | k
        · obtain rfl : j = -1 := by have := HJ.out; omega
          go_wp2_with fail
          go_ret2
          rw [HFI.out, rowN_yes HFI.out]
          exact ⟨⟨_, rfl, xs, HXL.out, EqOn.eqs HX.out HXL.out, by unfold FOwn; rw [HXL.out]; exact HO2.out⟩, HD.out⟩
        · obtain rfl : j = (k : Int) := by have := HJ.out; omega
          have hkl : k < ri.length := by omega
          have iK0 : (0 : Int) ≤ (k : Int) := Int.natCast_nonneg _
          have iK2 : (k : Int) < (ri.length : Int) := by omega
          have iK3 : (k : Int) + 1 < (ri.length : Int) := by omega
          have iK4 : (0 : Int) ≤ (k : Int) + 1 := by omega
          have hwk : wrap64 ((k : Int) - 1) = (k : Int) - 1 := wrap64_of (by omega) (by omega)
          have hwk1 : IntKind.i64.wrap ((k : Int) + 1) = (k : Int) + 1 := by rw [wrap_i64, wrap64_of (by omega) (by omega)]
          have xk := row_at HO2.out (k := k) (by omega) hkl
          have x6 := row_at HO2.out (k := k + 1) (by omega) (by omega)
          have x1 := row_at HO1.out (k := k) (by omega) hkl
          have hf7 := HO2.out.frozenAt k
          have ix1 := HE1.out k (Nat.zero_le _) hkl
          have ix4 := HE2.out k (Nat.zero_le _) (Nat.lt_succ_self k)
          have ix6 := HX.out (k + 1) (Nat.le_refl _) (by omega)
          have HEQ := Lib.hid (triX_step lo mi up ri (n := ri.length) (k := k) (by omega))
          generalize triC lo mi up ri k = XC at ix1 HEQ
          generalize triD lo mi up ri k = XD at ix4 HEQ
          generalize triX lo mi up ri ri.length (k + 1) = X1 at ix6 HEQ
          generalize hy1 : cs.getD k 0 = y1 at x1 ix1
          generalize hy4 : xs.getD k 0 = y4 at xk ix4
          generalize hy6 : xs.getD (k + 1) 0 = y6 at x6 ix6
          have HY1 := Lib.hid hy1
          have HY6 := Lib.hid hy6
          clear hy1 hy4 hy6
          go_wp2_with fail
          refine wp_region_noPanic ?_
          refine wp_region_held_drew (S := fun w' => w'.cell? ⟨g, k, none⟩ = some (.float .f32 y1) ∧ w'.cell? ⟨g', k + 1, none⟩ = some (.float .f32 y6)) (by kernel_rfl) ⟨x1, x6⟩ (fun hHeld => ?_)
          ((refine wpAnyH_take (i := 0) (v := ?_) rfl (by kernel_rfl) (by kernel_rfl) (by kernel_rfl) (fun _ _ _ h => h) (Or.inl ⟨by rfl, ?_⟩) (by assumption) ?_; rotate_left; (· intro w hSw; (try dsimp only at hSw); go_simp; first | done | with_reducible rfl); (try simp only [List.getElem_toArray, List.getElem_cons_zero, List.getElem_cons_succ, Act.put, List.setIfInBounds_toArray, List.set_cons_zero, List.set_cons_succ])); (refine wpAnyH_take (i := 1) (v := ?_) rfl (by kernel_rfl) (by kernel_rfl) (by kernel_rfl) (fun _ _ _ h => h) (Or.inl ⟨by rfl, ?_⟩) (by assumption) ?_; rotate_left; (· intro w hSw; (try dsimp only at hSw); go_simp; first | done | with_reducible rfl); (try simp only [List.getElem_toArray, List.getElem_cons_zero, List.getElem_cons_succ, Act.put, List.setIfInBounds_toArray, List.set_cons_zero, List.set_cons_succ])); (refine wpAnyH_take (i := 2) (v := ?_) rfl (by kernel_rfl) (by kernel_rfl) (by kernel_rfl) (fun _ _ _ h => h) (Or.inl ⟨by rfl, ?_⟩) (by assumption) ?_; rotate_left; (· intro w hSw; (try dsimp only at hSw); go_simp; first | done | with_reducible rfl); (try simp only [List.getElem_toArray, List.getElem_cons_zero, List.getElem_cons_succ, Act.put, List.setIfInBounds_toArray, List.set_cons_zero, List.set_cons_succ])); (refine wpAnyH_take (i := 4) (v := ?_) rfl (by kernel_rfl) (by kernel_rfl) (by kernel_rfl) (fun _ _ _ h => h) (Or.inl ⟨by rfl, ?_⟩) (by assumption) ?_; rotate_left; (· intro w hSw; (try dsimp only at hSw); go_simp; first | done | with_reducible rfl); (try simp only [List.getElem_toArray, List.getElem_cons_zero, List.getElem_cons_succ, Act.put, List.setIfInBounds_toArray, List.set_cons_zero, List.set_cons_succ])); (refine wpAnyH_take (i := 5) (v := ?_) rfl (by kernel_rfl) (by kernel_rfl) (by kernel_rfl) (fun _ _ _ h => h) (Or.inl ⟨by rfl, ?_⟩) (by assumption) ?_; rotate_left; (· intro w hSw; (try dsimp only at hSw); go_simp; first | done | with_reducible rfl); (try simp only [List.getElem_toArray, List.getElem_cons_zero, List.getElem_cons_succ, Act.put, List.setIfInBounds_toArray, List.set_cons_zero, List.set_cons_succ])); (refine wpAnyH_take (i := 6) (v := ?_) rfl (by kernel_rfl) (by kernel_rfl) (by kernel_rfl) (fun _ _ _ h => h) (Or.inl ⟨by rfl, ?_⟩) (by assumption) ?_; rotate_left; (· intro w hSw; (try dsimp only at hSw); go_simp; first | done | with_reducible rfl); (try simp only [List.getElem_toArray, List.getElem_cons_zero, List.getElem_cons_succ, Act.put, List.setIfInBounds_toArray, List.set_cons_zero, List.set_cons_succ])); (refine wpAnyH_take (i := 7) (v := ?_) rfl (by kernel_rfl) (by kernel_rfl) (by kernel_rfl) (fun _ _ _ h => h) (Or.inl ⟨by rfl, ?_⟩) (by assumption) ?_; rotate_left; (· intro w hSw; (try dsimp only at hSw); go_simp; first | done | with_reducible rfl); (try simp only [List.getElem_toArray, List.getElem_cons_zero, List.getElem_cons_succ, Act.put, List.setIfInBounds_toArray, List.set_cons_zero, List.set_cons_succ])); (refine wpAnyH_take (i := 8) (v := ?_) rfl (by kernel_rfl) (by kernel_rfl) (by kernel_rfl) (fun _ _ _ h => h) (Or.inl ⟨by rfl, ?_⟩) (by assumption) ?_; rotate_left; (· intro w hSw; (try dsimp only at hSw); go_simp; first | done | with_reducible rfl); (try simp only [List.getElem_toArray, List.getElem_cons_zero, List.getElem_cons_succ, Act.put, List.setIfInBounds_toArray, List.set_cons_zero, List.set_cons_succ])); (refine wpAnyH_take (i := 9) (v := ?_) rfl (by kernel_rfl) (by kernel_rfl) (by kernel_rfl) (fun _ _ _ h => h) (Or.inl ⟨by rfl, ?_⟩) (by assumption) ?_; rotate_left; (· intro w hSw; (try dsimp only at hSw); go_simp; first | done | with_reducible rfl); (try simp only [List.getElem_toArray, List.getElem_cons_zero, List.getElem_cons_succ, Act.put, List.setIfInBounds_toArray, List.set_cons_zero, List.set_cons_succ])); (refine wpAnyH_take (i := 10) (v := ?_) rfl (by kernel_rfl) (by kernel_rfl) (by kernel_rfl) (fun _ _ _ h => h) (Or.inl ⟨by rfl, ?_⟩) (by assumption) ?_; rotate_left; (· intro w hSw; (try dsimp only at hSw); go_simp; first | done | with_reducible rfl); (try simp only [List.getElem_toArray, List.getElem_cons_zero, List.getElem_cons_succ, Act.put, List.setIfInBounds_toArray, List.set_cons_zero, List.set_cons_succ])); (refine wpAnyH_take (i := 11) (v := ?_) rfl (by kernel_rfl) (by kernel_rfl) (by kernel_rfl) (fun _ _ _ h => h) (Or.inl ⟨by rfl, ?_⟩) (by assumption) ?_; rotate_left; (· intro w hSw; (try dsimp only at hSw); go_simp; first | done | with_reducible rfl); (try simp only [List.getElem_toArray, List.getElem_cons_zero, List.getElem_cons_succ, Act.put, List.setIfInBounds_toArray, List.set_cons_zero, List.set_cons_succ])); (refine wpAnyH_take (i := 12) (v := ?_) rfl (by kernel_rfl) (by kernel_rfl) (by kernel_rfl) (fun _ _ _ h => h) (Or.inl ⟨by rfl, ?_⟩) (by assumption) ?_; rotate_left; (· intro w hSw; (try dsimp only at hSw); go_simp; first | done | with_reducible rfl); (try simp only [List.getElem_toArray, List.getElem_cons_zero, List.getElem_cons_succ, Act.put, List.setIfInBounds_toArray, List.set_cons_zero, List.set_cons_succ])))
          refine wpAnyH_ready (rs := [3, 13]) (by kernel_rfl) (by simp) ?_
          refine AllReadyH.cons (i := 3) rfl (fun K hK => ?_) (AllReadyH.cons (i := 13) rfl (fun K hK => ?_) AllReadyH.nil)
          · go_simp
            (refine hK.out _ _ (by go_keep) (fun hHeld => ?_); clear hK K; (try simp only [List.getElem_toArray, List.getElem_cons_zero, List.getElem_cons_succ, Act.put, List.setIfInBounds_toArray, List.set_cons_zero, List.set_cons_succ]))
            (refine wpAnyH_ready (rs := [13]) (by kernel_rfl) (by simp) ?_; refine AllReadyH.cons (i := 13) rfl (fun K hK => ?_) AllReadyH.nil)
            refine hstep_fa rfl .mul 37 37 _ _ rfl rfl .f32 y1 y6 rfl rfl ix1 ix6 ?_
            intro r1 n1 hr1
            (refine hK.out _ _ (by go_keep) (fun hHeld => ?_); clear hK K; (try simp only [List.getElem_toArray, List.getElem_cons_zero, List.getElem_cons_succ, Act.put, List.setIfInBounds_toArray, List.set_cons_zero, List.set_cons_succ]))
            (refine wpAnyH_ready (rs := [14]) (by kernel_rfl) (by simp) ?_; refine AllReadyH.cons (i := 14) rfl (fun K hK => ?_) AllReadyH.nil)
            refine hstep_fa rfl .sub 37 37 _ _ rfl rfl .f32 y4 r1 rfl rfl ix4 hr1 ?_
            intro r2 n2 hr2
            (refine hK.out _ _ (by go_keep) (fun hHeld => ?_); clear hK K; (try simp only [List.getElem_toArray, List.getElem_cons_zero, List.getElem_cons_succ, Act.put, List.setIfInBounds_toArray, List.set_cons_zero, List.set_cons_succ]))
            have hr3 : Is .f32 r2 (triX lo mi up ri ri.length k) := by rw [HEQ.out]; exact hr2
            have HX5 : Hid ((wr.drewN (1 + n1 + n2)).ownsRow w.heap.size 37 1 (.slice (some ⟨g', 0, none⟩) ri.length ri.length) ri.length (xs.map (Value.float .f32))) := Lib.hid HO2.out
            have ST := HX5.out.stored k (.float .f32 r2)
            rw [map_set] at ST
            have HSD := Lib.hid ST.1
            have HSC := Lib.hid (World.ownsRow.kept (show (wr.drewN (1 + n1 + n2)).ownsRow w.heap.size 37 1 (.slice (some ⟨g, 0, none⟩) ri.length ri.length) ri.length (cs.map (Value.float .f32)) from HO1.out) ST.2 (.inr (fun e => HGG.out (by simpa [Value.ownBlock] using e))))
            have HB := Lib.hid ((below_drewN HD.out (1 + n1 + n2)).setCell (p := ⟨g', k, none⟩) (HX5.out.lt g' rfl).1 (.float .f32 r2))
            have c3' := row_at HSD.out (k := k + 1) (by rw [List.length_set]; omega) (by omega)
            rw [getD_set _ k r2 (k + 1) (by omega), if_neg (by omega), HY6.out] at c3'
            have c2' := row_at HSC.out (k := k) (by omega) hkl
            rw [HY1.out] at c2'
            clear ST
            ((refine wpAnyH_take (i := 15) (v := ?_) rfl (by kernel_rfl) (by kernel_rfl) (by kernel_rfl) (fun _ _ _ h => h) (Or.inl ⟨by rfl, ?_⟩) (by assumption) ?_; rotate_left; (· intro w hSw; (try dsimp only at hSw); go_simp; first | done | with_reducible rfl); (try simp only [List.getElem_toArray, List.getElem_cons_zero, List.getElem_cons_succ, Act.put, List.setIfInBounds_toArray, List.set_cons_zero, List.set_cons_succ])))
            (refine wpAnyH_ready (rs := [16]) (by kernel_rfl) (by simp) ?_; refine AllReadyH.cons (i := 16) rfl (fun K hK => ?_) AllReadyH.nil)
            go_simp
            (refine hK.out _ _ (⟨c2', c3'⟩) (fun hHeld => ?_); clear hK K; (try simp only [List.getElem_toArray, List.getElem_cons_zero, List.getElem_cons_succ, Act.put, List.setIfInBounds_toArray, List.set_cons_zero, List.set_cons_succ]))
            (refine wpAnyH_done (by kernel_rfl) ?_ _; refine NoPanic.normal ?_)
            clear hHeld xk x1 x6 hf7 c2' c3' HX5
            go_wp2_with fail
            go_roundw
            case rel => exact ⟨(k : Int) - 1, k, xs.set k r2, rfl, Lib.hid (by omega), by omega, Lib.hid (by rw [List.length_set]; exact hxl), Lib.hid (EqOn.set_down HX.out (by omega) hr3), Lib.hid (EqOn.set_out (fun q h1 h2 => HE2.out q h1 (by omega)) (by omega) (.inr (Nat.le_refl _))), HSC, HSD, HB⟩
            case measure => simp [intOf]
          · refine hstep_fa rfl .mul 37 37 _ _ rfl rfl .f32 y1 y6 rfl rfl ix1 ix6 ?_
            intro r1 n1 hr1
            (refine hK.out _ _ (by go_keep) (fun hHeld => ?_); clear hK K; (try simp only [List.getElem_toArray, List.getElem_cons_zero, List.getElem_cons_succ, Act.put, List.setIfInBounds_toArray, List.set_cons_zero, List.set_cons_succ]))
            (refine wpAnyH_ready (rs := [3]) (by kernel_rfl) (by simp) ?_; refine AllReadyH.cons (i := 3) rfl (fun K hK => ?_) AllReadyH.nil)
            go_simp
            (refine hK.out _ _ (by go_keep) (fun hHeld => ?_); clear hK K; (try simp only [List.getElem_toArray, List.getElem_cons_zero, List.getElem_cons_succ, Act.put, List.setIfInBounds_toArray, List.set_cons_zero, List.set_cons_succ]))
            (refine wpAnyH_ready (rs := [14]) (by kernel_rfl) (by simp) ?_; refine AllReadyH.cons (i := 14) rfl (fun K hK => ?_) AllReadyH.nil)
            refine hstep_fa rfl .sub 37 37 _ _ rfl rfl .f32 y4 r1 rfl rfl ix4 hr1 ?_
            intro r2 n2 hr2
            (refine hK.out _ _ (by go_keep) (fun hHeld => ?_); clear hK K; (try simp only [List.getElem_toArray, List.getElem_cons_zero, List.getElem_cons_succ, Act.put, List.setIfInBounds_toArray, List.set_cons_zero, List.set_cons_succ]))
            have hr3 : Is .f32 r2 (triX lo mi up ri ri.length k) := by rw [HEQ.out]; exact hr2
            have HX5 : Hid ((wr.drewN (1 + n1 + n2)).ownsRow w.heap.size 37 1 (.slice (some ⟨g', 0, none⟩) ri.length ri.length) ri.length (xs.map (Value.float .f32))) := Lib.hid HO2.out
            have ST := HX5.out.stored k (.float .f32 r2)
            rw [map_set] at ST
            have HSD := Lib.hid ST.1
            have HSC := Lib.hid (World.ownsRow.kept (show (wr.drewN (1 + n1 + n2)).ownsRow w.heap.size 37 1 (.slice (some ⟨g, 0, none⟩) ri.length ri.length) ri.length (cs.map (Value.float .f32)) from HO1.out) ST.2 (.inr (fun e => HGG.out (by simpa [Value.ownBlock] using e))))
            have HB := Lib.hid ((below_drewN HD.out (1 + n1 + n2)).setCell (p := ⟨g', k, none⟩) (HX5.out.lt g' rfl).1 (.float .f32 r2))
            have c3' := row_at HSD.out (k := k + 1) (by rw [List.length_set]; omega) (by omega)
            rw [getD_set _ k r2 (k + 1) (by omega), if_neg (by omega), HY6.out] at c3'
            have c2' := row_at HSC.out (k := k) (by omega) hkl
            rw [HY1.out] at c2'
            clear ST
            ((refine wpAnyH_take (i := 15) (v := ?_) rfl (by kernel_rfl) (by kernel_rfl) (by kernel_rfl) (fun _ _ _ h => h) (Or.inl ⟨by rfl, ?_⟩) (by assumption) ?_; rotate_left; (· intro w hSw; (try dsimp only at hSw); go_simp; first | done | with_reducible rfl); (try simp only [List.getElem_toArray, List.getElem_cons_zero, List.getElem_cons_succ, Act.put, List.setIfInBounds_toArray, List.set_cons_zero, List.set_cons_succ])))
            (refine wpAnyH_ready (rs := [16]) (by kernel_rfl) (by simp) ?_; refine AllReadyH.cons (i := 16) rfl (fun K hK => ?_) AllReadyH.nil)
            go_simp
            (refine hK.out _ _ (⟨c2', c3'⟩) (fun hHeld => ?_); clear hK K; (try simp only [List.getElem_toArray, List.getElem_cons_zero, List.getElem_cons_succ, Act.put, List.setIfInBounds_toArray, List.set_cons_zero, List.set_cons_succ]))
            (refine wpAnyH_done (by kernel_rfl) ?_ _; refine NoPanic.normal ?_)
            clear hHeld xk x1 x6 hf7 c2' c3' HX5
            go_wp2_with fail
            go_roundw
            case rel => exact ⟨(k : Int) - 1, k, xs.set k r2, rfl, Lib.hid (by omega), by omega, Lib.hid (by rw [List.length_set]; exact hxl), Lib.hid (EqOn.set_down HX.out (by omega) hr3), Lib.hid (EqOn.set_out (fun q h1 h2 => HE2.out q h1 (by omega)) (by omega) (.inr (Nat.le_refl _))), HSC, HSD, HB⟩
            case measure => simp [intOf]
end Go.Proofs.Ytjfnecmnofcjbaa
