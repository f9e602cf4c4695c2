/-
  Two grids: the coarse correction of the program.
-/
import Derived.Test.YtjfnecmnofcjbaaTwoM
import Derived.Test.YtjfnecmnofcjbaaSlv
namespace Go.Proofs.Ytjfnecmnofcjbaa
open Go.Fl Go.RowKit
open Go.Joins (ownsRow_le)
set_option linter.unusedSimpArgs false
set_option linter.unusedVariables false

theorem fourS {w : World} {k : Nat} {v0 v1 v2 v3 : Value} {t : TypeId} (h : w.heap[k]? = some (.cells #[v0, v1, v2, v3] t)) : w.cell? ⟨k, 0, none⟩ = some v0 ∧ w.cell? ⟨k, 1, none⟩ = some v1 ∧ w.cell? ⟨k, 2, none⟩ = some v2 ∧ w.cell? ⟨k, 3, none⟩ = some v3 :=
  ⟨(four_cells h).1, (four_cells h).2.1, (four_cells h).2.2.1, (four_cells h).2.2.2.1⟩
theorem okC_yes {a b : Int} {rs : List Nat} (h1 : fieldOk a b rs.length = true) (h2 : halvesB a b = true) : wiCoarseField a b rs = a / 2 ∧ hiCoarseField a b rs = b / 2 ∧ okCoarseField a b rs = true ∧ lenCoarseField a b rs = (a / 2 * (b / 2)).toNat := by
  have e : okCoarseField a b rs = true := by unfold okCoarseField; rw [h1, h2]; rfl
  exact ⟨by unfold wiCoarseField; rw [if_pos e], by unfold hiCoarseField; rw [if_pos e], e, by unfold lenCoarseField; rw [if_pos e]⟩
theorem okF_yes {a b : Int} {rs : List Nat} (h1 : fieldOk a b rs.length = true) (h2 : 2 * a ≤ 16) (h3 : 2 * b ≤ 16) : wiFineField a b rs = 2 * a ∧ hiFineField a b rs = 2 * b ∧ okFineField a b rs = true ∧ lenFineField a b rs = (2 * a * (2 * b)).toNat := by
  have e : okFineField a b rs = true := by unfold okFineField; rw [h1, decide_eq_true h2, decide_eq_true h3]; rfl
  exact ⟨by unfold wiFineField; rw [if_pos e], by unfold hiFineField; rw [if_pos e], e, by unfold lenFineField; rw [if_pos e]⟩

set_option maxHeartbeats 4000000 in
set_option maxRecDepth 100000 in
theorem correct_any (a b : Int) (gv capv gl capl : Nat) (es ls : List Nat) (B : Nat) (w : World) (hv : RW B w gv capv es) (hl : RW B w gl capl ls) (hne : gv ≠ gl) (h1 : fieldOk a b es.length = true) (h3 : halvesB a b = true) (hll : ls.length = es.length) (hwx : ∀ x ∈ es, x < 2 ^ FloatKind.f32.format.width) (hwl : ∀ x ∈ ls, x < 2 ^ FloatKind.f32.format.width) :
    Calls Try.prog 105 #[BV a b (.slice (some ⟨gv, 0, none⟩) es.length capv) (.slice (some ⟨gl, 0, none⟩) es.length capl)] w fun e w' => (∃ bs, e = .returned (.tuple #[]) ∧ bs.length = es.length ∧ (∀ x ∈ bs, x < 2 ^ FloatKind.f32.format.width) ∧ EqOn bs (corrF a b es (fun j => cn .f32 (ls.getD j 0))) 0 es.length ∧ RW B w' gv capv bs ∧ RW B w' gl capl ls) ∧ w.grownBy w' (some gv) := by
  have HX := Lib.hid (heap_alloc_new w (.cells #[.int .i64 a, .int .i64 b, .slice (some ⟨gv, 0, none⟩) es.length capv, .slice (some ⟨gl, 0, none⟩) es.length capl] 108))
  have hb0 := (Below.refl w.heap.size w).alloc (Nat.le_refl _) (.cells #[.int .i64 a, .int .i64 b, .slice (some ⟨gv, 0, none⟩) es.length capv, .slice (some ⟨gl, 0, none⟩) es.length capl] 108)
  have HV := Lib.hid (hv.still hb0); have HL := Lib.hid (hl.still hb0); have HB0 := Lib.hid hb0
  have HXS := Lib.hid (show w.heap.size < (w.alloc (.cells #[.int .i64 a, .int .i64 b, .slice (some ⟨gv, 0, none⟩) es.length capv, .slice (some ⟨gl, 0, none⟩) es.length capl] 108)).heap.size by simp)
  have HS1 := Lib.hid (show (w.alloc (.cells #[.int .i64 a, .int .i64 b, .slice (some ⟨gv, 0, none⟩) es.length capv, .slice (some ⟨gl, 0, none⟩) es.length capl] 108)).heap.size = w.heap.size + 1 by simp)
  have H1 := Lib.hid h1; have H3 := Lib.hid h3; have HLL := Lib.hid hll; have HWX := Lib.hid hwx; have HWL := Lib.hid hwl; have HNE := Lib.hid hne
  have HA := Lib.hid (fieldOk_true h1)
  have HGVW := Lib.hid (hv.lt gv rfl)
  have HN := Lib.hid (show es.length ≤ 1048576 by have := HA.out; omega)
  obtain ⟨m, hm⟩ : ∃ m, (a / 2 * (b / 2)).toNat = m := ⟨_, rfl⟩
  have HM := Lib.hid hm
  have HF := Lib.hid (half_facts h1 (halvesB_true h3))
  rw [hm] at HF
  have hpos : 0 < es.length := by
    have := HA.out; have h4 : 4 * 4 ≤ a * b := Int.mul_le_mul this.1 this.2.2.1 (by omega) (by omega); omega
  have hposm : 0 < m := by
    have hB := fieldOk_true HF.out.1; have h4 : 4 * 4 ≤ (a / 2) * (b / 2) := Int.mul_le_mul hB.1 hB.2.2.1 (by omega) (by omega); omega
  clear hb0 hv hl h1 h3 hll hwx hwl hne hm
  go_enter Try.func105, Try.ntmps105
  go_upto_region 1 with fail
  generalize w.alloc (.cells #[.int .i64 a, .int .i64 b, .slice (some ⟨gv, 0, none⟩) es.length capv, .slice (some ⟨gl, 0, none⟩) es.length capl] 108) = w1 at HX HV HL HB0 HXS HS1 ⊢
  go_cut [2, 3, 4] from 13 to 21 (fun p q _ wx => ∃ (kh gr capr : Nat) (rs cs : List Nat), p = .pointer (some ⟨kh, 0, none⟩) ∧ q = .slice (some ⟨gr, 0, none⟩) m capr ∧ Hid (rs.length = es.length) ∧ Hid (EqOn rs (restV a b es (fun j => cn .f32 (ls.getD j 0))) 0 es.length) ∧ Hid (cs.length = m) ∧ Hid (EqOn cs (csF a rs) 0 m) ∧ Hid (gv ≠ kh) ∧ Hid (gl ≠ kh) ∧ Hid (gr ≠ kh) ∧ Hid (gr ≠ gv) ∧ Hid (gr ≠ gl) ∧ Hid (w.heap.size < gr) ∧ Hid (RW B wx gv capv es) ∧ Hid (RW B wx gl capl ls) ∧ Hid (RW 0 wx gr capr cs) ∧ Hid (wx.heap[kh]? = some (.cells #[.int .i64 (a / 2), .int .i64 (b / 2)] 27)) ∧ Hid (wx.heap[w.heap.size]? = some (.cells #[.int .i64 a, .int .i64 b, .slice (some ⟨gv, 0, none⟩) es.length capv, .slice (some ⟨gl, 0, none⟩) es.length capl] 108)) ∧ Hid (Below w1.heap.size w1 wx))
  case first =>
    refine wp_region_noPanic ?_
    refine wp_region_held_drew (S := fun w' => w'.cell? ⟨w.heap.size, 0, none⟩ = some (.int .i64 a) ∧ w'.cell? ⟨w.heap.size, 1, none⟩ = some (.int .i64 b) ∧ w'.cell? ⟨w.heap.size, 2, none⟩ = some (.slice (some ⟨gv, 0, none⟩) es.length capv) ∧ w'.cell? ⟨w.heap.size, 3, none⟩ = some (.slice (some ⟨gl, 0, none⟩) es.length capl)) (by kernel_rfl) (fourS HX.out) (fun hHeld => ?_)
    have hd := (Below.refl w1.heap.size w1).drew
    have HE0 := Lib.hid hd
    have HX0 := Lib.hid ((hd.block w.heap.size HXS.out).trans HX.out)
    have HV0 := Lib.hid (HV.out.still hd); have HL0 := Lib.hid (HL.out.still hd)
    clear hd
    generalize w1.drew = v0 at HE0 HX0 HV0 HL0 hHeld ⊢
    ((refine wpAnyH_take (i := 0) (v := ?_) rfl (by kernel_rfl) (by kernel_rfl) (by kernel_rfl) (fun _ _ _ h => h) (Or.inl ⟨by rfl, ?_⟩) (by assumption) ?_; rotate_left; (· intro w hSw; (try dsimp only at hSw); go_simp; first | done | with_reducible rfl); (try simp only [List.getElem_toArray, List.getElem_cons_zero, List.getElem_cons_succ, Act.put, List.setIfInBounds_toArray, List.set_cons_zero, List.set_cons_succ])); (refine wpAnyH_take (i := 1) (v := ?_) rfl (by kernel_rfl) (by kernel_rfl) (by kernel_rfl) (fun _ _ _ h => h) (Or.inl ⟨by rfl, ?_⟩) (by assumption) ?_; rotate_left; (· intro w hSw; (try dsimp only at hSw); go_simp; first | done | with_reducible rfl); (try simp only [List.getElem_toArray, List.getElem_cons_zero, List.getElem_cons_succ, Act.put, List.setIfInBounds_toArray, List.set_cons_zero, List.set_cons_succ])); (refine wpAnyH_take (i := 2) (v := ?_) rfl (by kernel_rfl) (by kernel_rfl) (by kernel_rfl) (fun _ _ _ h => h) (Or.inl ⟨by rfl, ?_⟩) (by assumption) ?_; rotate_left; (· intro w hSw; (try dsimp only at hSw); go_simp; first | done | with_reducible rfl); (try simp only [List.getElem_toArray, List.getElem_cons_zero, List.getElem_cons_succ, Act.put, List.setIfInBounds_toArray, List.set_cons_zero, List.set_cons_succ])))
    refine wpAnyH_ready (rs := [3, 9]) (by kernel_rfl) (by simp) ?_
    refine (AllReadyH.cons (i := 3) rfl (fun K hK => ?_) (AllReadyH.cons (i := 9) rfl (fun K hK => ?_) AllReadyH.nil))
    · skip
      go_simp
      have f1 := HV0.out.fs HWX.out
      have f2 := HL0.out.fs HWL.out
      rw [HLL.out] at f2
      refine (unsolved_any a b _ _ es ls _ f1 f2 H1.out HLL.out).mono ?_; rintro e v1 ⟨⟨q, rfl, hq⟩, hb⟩
      obtain ⟨rs, hrl, hre, hro⟩ := hq
      obtain ⟨ar, cr, rfl, _⟩ := fown_form hro
      have HRL := Lib.hid hrl; have HRE := Lib.hid (Eqs.on hre hrl); have HRF := Lib.hid (fown_FS hro hre.lt)
      have HE1 := Lib.hid (HE0.out.trans (hb.mono HE0.out.size))
      have HX1 := Lib.hid ((hb.block w.heap.size (Array.getElem?_eq_some_iff.1 HX0.out).1).trans HX0.out)
      have HV1 := Lib.hid (HV0.out.still hb); have HL1 := Lib.hid (HL0.out.still hb)
      clear f1 f2 hrl hre hro hb
      go_wp2_with fail
      (refine hK.out _ _ ((fourS HX1.out)) (fun hHeld => ?_); clear hK K; (try simp only [List.getElem_toArray, List.getElem_cons_zero, List.getElem_cons_succ, Act.put, List.setIfInBounds_toArray, List.set_cons_zero, List.set_cons_succ]))
      refine wpAnyH_ready (rs := [4, 9]) (by kernel_rfl) (by simp) ?_
      refine (AllReadyH.cons (i := 4) rfl (fun K hK => ?_) (AllReadyH.cons (i := 9) rfl (fun K hK => ?_) AllReadyH.nil))
      · skip
        go_simp
        refine (iCoarseField_any a b _ rs _ HRF.out (by rw [HRL.out]; exact HN.out)).mono ?_; rintro e v2 ⟨⟨q, rfl, hq⟩, hb⟩
        have hco := okC_yes (show fieldOk a b rs.length = true by rw [HRL.out]; exact H1.out) H3.out
        rw [hco.1, hco.2.1, hco.2.2.1]
        rw [hco.2.2.2, HM.out] at hq
        obtain ⟨gr, capr, cs, rfl, hcsl, hcse, hcso⟩ := fres_row hq hposm
        have hrr : RW v1.heap.size v2 gr capr cs := by show v2.ownsRow _ _ _ (.slice _ cs.length _) cs.length _; rw [hcsl]; exact hcso
        have HCL := Lib.hid hcsl; have HCE := Lib.hid hcse
        have HGV := Lib.hid (show gr ≠ gv from by have := (hrr.lt gr rfl).1; have := (HV1.out.lt gv rfl).2; omega)
        have HGL := Lib.hid (show gr ≠ gl from by have := (hrr.lt gr rfl).1; have := (HL1.out.lt gl rfl).2; omega)
        have HKW := Lib.hid (show w.heap.size < gr from by have := (hrr.lt gr rfl).1; have := (Array.getElem?_eq_some_iff.1 HX1.out).1; omega)
        have HC2 := Lib.hid (hrr.le (Nat.zero_le _) : RW 0 v2 gr capr cs)
        have HE2 := Lib.hid (HE1.out.trans (hb.mono HE1.out.size))
        have HX2 := Lib.hid ((hb.block w.heap.size (Array.getElem?_eq_some_iff.1 HX1.out).1).trans HX1.out)
        have HV2 := Lib.hid (HV1.out.still hb); have HL2 := Lib.hid (HL1.out.still hb)
        clear hq hcsl hcse hcso hrr hb hco
        go_wp2_with fail
        (refine hK.out _ _ ((fourS HX2.out)) (fun hHeld => ?_); clear hK K; (try simp only [List.getElem_toArray, List.getElem_cons_zero, List.getElem_cons_succ, Act.put, List.setIfInBounds_toArray, List.set_cons_zero, List.set_cons_succ]))
        ((refine wpAnyH_take (i := 5) (v := ?_) rfl (by kernel_rfl) (by kernel_rfl) (by kernel_rfl) (fun _ _ _ h => h) (Or.inl ⟨by rfl, ?_⟩) (by assumption) ?_; rotate_left; (· intro w hSw; (try dsimp only at hSw); go_simp; first | done | with_reducible rfl); (try simp only [List.getElem_toArray, List.getElem_cons_zero, List.getElem_cons_succ, Act.put, List.setIfInBounds_toArray, List.set_cons_zero, List.set_cons_succ])); (refine wpAnyH_take (i := 6) (v := ?_) rfl (by kernel_rfl) (by kernel_rfl) (by kernel_rfl) (fun _ _ _ h => h) (Or.inl ⟨by rfl, ?_⟩) (by assumption) ?_; rotate_left; (· intro w hSw; (try dsimp only at hSw); go_simp; first | done | with_reducible rfl); (try simp only [List.getElem_toArray, List.getElem_cons_zero, List.getElem_cons_succ, Act.put, List.setIfInBounds_toArray, List.set_cons_zero, List.set_cons_succ])); (refine wpAnyH_take (i := 7) (v := ?_) rfl (by kernel_rfl) (by kernel_rfl) (by kernel_rfl) (fun _ _ _ h => h) (Or.inl ⟨by rfl, ?_⟩) (by assumption) ?_; rotate_left; (· intro w hSw; (try dsimp only at hSw); go_simp; first | done | with_reducible rfl); (try simp only [List.getElem_toArray, List.getElem_cons_zero, List.getElem_cons_succ, Act.put, List.setIfInBounds_toArray, List.set_cons_zero, List.set_cons_succ])); (refine wpAnyH_take (i := 8) (v := ?_) rfl (by kernel_rfl) (by kernel_rfl) (by kernel_rfl) (fun _ _ _ h => h) (Or.inl ⟨by rfl, ?_⟩) (by assumption) ?_; rotate_left; (· intro w hSw; (try dsimp only at hSw); go_simp; first | done | with_reducible rfl); (try simp only [List.getElem_toArray, List.getElem_cons_zero, List.getElem_cons_succ, Act.put, List.setIfInBounds_toArray, List.set_cons_zero, List.set_cons_succ])))
        refine wpAnyH_ready (rs := [9]) (by kernel_rfl) (by simp) ?_
        refine (AllReadyH.cons (i := 9) rfl (fun K hK => ?_) AllReadyH.nil)
        go_simp
        go_wp2_with fail
        have hb := (Below.refl v2.heap.size v2).alloc (Nat.le_refl _) (.cells #[.int .i64 0, .int .i64 0] 27)
        have HA3 := Lib.hid (And.intro (heap_alloc_new v2 (.cells #[.int .i64 0, .int .i64 0] 27)) (And.intro HE2.out.size (show v2.heap.size < (v2.alloc (.cells #[.int .i64 0, .int .i64 0] 27)).heap.size by simp)))
        have HNV := Lib.hid (show gv ≠ v2.heap.size by have := (HV2.out.lt gv rfl).2; omega); have HNL := Lib.hid (show gl ≠ v2.heap.size by have := (HL2.out.lt gl rfl).2; omega)
        have HNC := Lib.hid (show gr ≠ v2.heap.size by have := (HC2.out.lt gr rfl).2; omega)
        have HE3 := Lib.hid (HE2.out.trans (hb.mono HE2.out.size))
        have HX3 := Lib.hid ((hb.block w.heap.size (Array.getElem?_eq_some_iff.1 HX2.out).1).trans HX2.out)
        have HV3 := Lib.hid (HV2.out.still hb); have HL3 := Lib.hid (HL2.out.still hb)
        have HC3 := Lib.hid (HC2.out.still hb)
        clear hb
        generalize v2.alloc (.cells #[.int .i64 0, .int .i64 0] 27) = v3 at HE3 HA3 HX3 HV3 HL3 HC3 ⊢
        generalize v2.heap.size = kh at HA3 HNV HNL HNC ⊢
        (refine hK.out _ _ ((fourS HX3.out)) (fun hHeld => ?_); clear hK K; (try simp only [List.getElem_toArray, List.getElem_cons_zero, List.getElem_cons_succ, Act.put, List.setIfInBounds_toArray, List.set_cons_zero, List.set_cons_succ]))
        have yy := pair_cells HA3.out.1
        have y0 := yy.1; have y1 := yy.2.1; have f0 := yy.2.2.1; have f1 := yy.2.2.2
        clear yy
        have HK9 := Lib.hid (show ((v3.setCell ⟨kh, 0, none⟩ (.int .i64 (a / 2))).setCell ⟨kh, 1, none⟩ (.int .i64 (b / 2))).heap[kh]? = some (.cells #[.int .i64 (a / 2), .int .i64 (b / 2)] 27) from heap_setCell_same _ kh 1 _ _ _ (heap_setCell_same v3 kh 0 _ _ _ HA3.out.1))
        have GG9 := Lib.hid (show v3.grownBy ((v3.setCell ⟨kh, 0, none⟩ (.int .i64 (a / 2))).setCell ⟨kh, 1, none⟩ (.int .i64 (b / 2))) (some kh) from grown_trans (grown_cell v3 ⟨kh, 0, none⟩ _) (grown_cell _ ⟨kh, 1, none⟩ _))
        have HE9 := Lib.hid (HE3.out.grown GG9.out HE3.out.size (fun q e => by cases e; exact HA3.out.2.1))
        have HV9 := Lib.hid (HV3.out.other GG9.out HNV.out); have HL9 := Lib.hid (HL3.out.other GG9.out HNL.out); have HC9 := Lib.hid (HC3.out.other GG9.out HNC.out)
        have HX9 := Lib.hid ((GG9.out.block w.heap.size (Array.getElem?_eq_some_iff.1 HX3.out).1 (fun e => by have h1 := HA3.out.2.1; have h2 := HXS.out; have h3 := Option.some.inj e; omega)).trans HX3.out)
        (refine wpAnyH_ready (rs := [10]) (by kernel_rfl) (by simp) ?_; refine AllReadyH.cons (i := 10) rfl (fun K hK => ?_) AllReadyH.nil)
        go_simp
        generalize ((v3.setCell ⟨kh, 0, none⟩ (.int .i64 (a / 2))).setCell ⟨kh, 1, none⟩ (.int .i64 (b / 2))) = w9 at HK9 GG9 HE9 HV9 HL9 HC9 HX9 ⊢
        clear y0 y1 f0 f1
        (refine hK.out _ _ ((fourS HX9.out)) (fun hHeld => ?_); clear hK K; (try simp only [List.getElem_toArray, List.getElem_cons_zero, List.getElem_cons_succ, Act.put, List.setIfInBounds_toArray, List.set_cons_zero, List.set_cons_succ]))
        ((refine wpAnyH_take (i := 11) (v := ?_) rfl (by kernel_rfl) (by kernel_rfl) (by kernel_rfl) (fun _ _ _ h => h) (Or.inl ⟨by rfl, ?_⟩) (by assumption) ?_; rotate_left; (· intro w hSw; (try dsimp only at hSw); go_simp; first | done | with_reducible rfl); (try simp only [List.getElem_toArray, List.getElem_cons_zero, List.getElem_cons_succ, Act.put, List.setIfInBounds_toArray, List.set_cons_zero, List.set_cons_succ])); (refine wpAnyH_take (i := 12) (v := ?_) rfl (by kernel_rfl) (by kernel_rfl) (by kernel_rfl) (fun _ _ _ h => h) (Or.inl ⟨by rfl, ?_⟩) (by assumption) ?_; rotate_left; (· intro w hSw; (try dsimp only at hSw); go_simp; first | done | with_reducible rfl); (try simp only [List.getElem_toArray, List.getElem_cons_zero, List.getElem_cons_succ, Act.put, List.setIfInBounds_toArray, List.set_cons_zero, List.set_cons_succ])))
        (refine wpAnyH_done (by kernel_rfl) ?_ _; refine NoPanic.normal ?_)
        clear hHeld
        go_wp2_with fail
        go_meet
        case rel => exact ⟨kh, gr, capr, rs, cs, rfl, rfl, HRL, HRE, HCL, HCE, HNV, HNL, HNC, HGV, HGL, HKW, HV9, HL9, HC9, HK9, HX9, HE9⟩
      · skip
        go_simp
        go_wp2_with fail
        have hb := (Below.refl v1.heap.size v1).alloc (Nat.le_refl _) (.cells #[.int .i64 0, .int .i64 0] 27)
        have HA2 := Lib.hid (And.intro (heap_alloc_new v1 (.cells #[.int .i64 0, .int .i64 0] 27)) (And.intro HE1.out.size (show v1.heap.size < (v1.alloc (.cells #[.int .i64 0, .int .i64 0] 27)).heap.size by simp)))
        have HNV := Lib.hid (show gv ≠ v1.heap.size by have := (HV1.out.lt gv rfl).2; omega); have HNL := Lib.hid (show gl ≠ v1.heap.size by have := (HL1.out.lt gl rfl).2; omega)
        have HRF := Lib.hid (HRF.out.below hb)
        have HE2 := Lib.hid (HE1.out.trans (hb.mono HE1.out.size))
        have HX2 := Lib.hid ((hb.block w.heap.size (Array.getElem?_eq_some_iff.1 HX1.out).1).trans HX1.out)
        have HV2 := Lib.hid (HV1.out.still hb); have HL2 := Lib.hid (HL1.out.still hb)
        clear hb
        generalize v1.alloc (.cells #[.int .i64 0, .int .i64 0] 27) = v2 at HE2 HA2 HX2 HV2 HL2 HRF ⊢
        generalize v1.heap.size = kh at HA2 HNV HNL ⊢
        (refine hK.out _ _ ((fourS HX2.out)) (fun hHeld => ?_); clear hK K; (try simp only [List.getElem_toArray, List.getElem_cons_zero, List.getElem_cons_succ, Act.put, List.setIfInBounds_toArray, List.set_cons_zero, List.set_cons_succ]))
        refine wpAnyH_ready (rs := [4]) (by kernel_rfl) (by simp) ?_
        refine (AllReadyH.cons (i := 4) rfl (fun K hK => ?_) AllReadyH.nil)
        go_simp
        refine (iCoarseField_any a b _ rs _ HRF.out (by rw [HRL.out]; exact HN.out)).mono ?_; rintro e v3 ⟨⟨q, rfl, hq⟩, hb⟩
        have hco := okC_yes (show fieldOk a b rs.length = true by rw [HRL.out]; exact H1.out) H3.out
        rw [hco.1, hco.2.1, hco.2.2.1]
        rw [hco.2.2.2, HM.out] at hq
        obtain ⟨gr, capr, cs, rfl, hcsl, hcse, hcso⟩ := fres_row hq hposm
        have hrr : RW v2.heap.size v3 gr capr cs := by show v3.ownsRow _ _ _ (.slice _ cs.length _) cs.length _; rw [hcsl]; exact hcso
        have HCL := Lib.hid hcsl; have HCE := Lib.hid hcse
        have HGV := Lib.hid (show gr ≠ gv from by have := (hrr.lt gr rfl).1; have := (HV2.out.lt gv rfl).2; omega)
        have HGL := Lib.hid (show gr ≠ gl from by have := (hrr.lt gr rfl).1; have := (HL2.out.lt gl rfl).2; omega)
        have HKW := Lib.hid (show w.heap.size < gr from by have := (hrr.lt gr rfl).1; have := (Array.getElem?_eq_some_iff.1 HX2.out).1; omega)
        have HNC := Lib.hid (show gr ≠ kh by have := (hrr.lt gr rfl).1; have := HA2.out.2.2; omega)
        have HC3 := Lib.hid (hrr.le (Nat.zero_le _) : RW 0 v3 gr capr cs)
        have HE3 := Lib.hid (HE2.out.trans (hb.mono HE2.out.size))
        have HX3 := Lib.hid ((hb.block w.heap.size (Array.getElem?_eq_some_iff.1 HX2.out).1).trans HX2.out)
        have HV3 := Lib.hid (HV2.out.still hb); have HL3 := Lib.hid (HL2.out.still hb)
        have HA3 := Lib.hid (And.intro ((hb.block kh HA2.out.2.2).trans HA2.out.1) (And.intro HA2.out.2.1 (Nat.lt_of_lt_of_le HA2.out.2.2 hb.size)))
        clear hq hcsl hcse hcso hrr hb hco
        go_wp2_with fail
        (refine hK.out _ _ ((fourS HX3.out)) (fun hHeld => ?_); clear hK K; (try simp only [List.getElem_toArray, List.getElem_cons_zero, List.getElem_cons_succ, Act.put, List.setIfInBounds_toArray, List.set_cons_zero, List.set_cons_succ]))
        ((refine wpAnyH_take (i := 5) (v := ?_) rfl (by kernel_rfl) (by kernel_rfl) (by kernel_rfl) (fun _ _ _ h => h) (Or.inl ⟨by rfl, ?_⟩) (by assumption) ?_; rotate_left; (· intro w hSw; (try dsimp only at hSw); go_simp; first | done | with_reducible rfl); (try simp only [List.getElem_toArray, List.getElem_cons_zero, List.getElem_cons_succ, Act.put, List.setIfInBounds_toArray, List.set_cons_zero, List.set_cons_succ])); (refine wpAnyH_take (i := 6) (v := ?_) rfl (by kernel_rfl) (by kernel_rfl) (by kernel_rfl) (fun _ _ _ h => h) (Or.inl ⟨by rfl, ?_⟩) (by assumption) ?_; rotate_left; (· intro w hSw; (try dsimp only at hSw); go_simp; first | done | with_reducible rfl); (try simp only [List.getElem_toArray, List.getElem_cons_zero, List.getElem_cons_succ, Act.put, List.setIfInBounds_toArray, List.set_cons_zero, List.set_cons_succ])); (refine wpAnyH_take (i := 7) (v := ?_) rfl (by kernel_rfl) (by kernel_rfl) (by kernel_rfl) (fun _ _ _ h => h) (Or.inl ⟨by rfl, ?_⟩) (by assumption) ?_; rotate_left; (· intro w hSw; (try dsimp only at hSw); go_simp; first | done | with_reducible rfl); (try simp only [List.getElem_toArray, List.getElem_cons_zero, List.getElem_cons_succ, Act.put, List.setIfInBounds_toArray, List.set_cons_zero, List.set_cons_succ])); (refine wpAnyH_take (i := 8) (v := ?_) rfl (by kernel_rfl) (by kernel_rfl) (by kernel_rfl) (fun _ _ _ h => h) (Or.inl ⟨by rfl, ?_⟩) (by assumption) ?_; rotate_left; (· intro w hSw; (try dsimp only at hSw); go_simp; first | done | with_reducible rfl); (try simp only [List.getElem_toArray, List.getElem_cons_zero, List.getElem_cons_succ, Act.put, List.setIfInBounds_toArray, List.set_cons_zero, List.set_cons_succ])))
        have yy := pair_cells HA3.out.1
        have y0 := yy.1; have y1 := yy.2.1; have f0 := yy.2.2.1; have f1 := yy.2.2.2
        clear yy
        have HK9 := Lib.hid (show ((v3.setCell ⟨kh, 0, none⟩ (.int .i64 (a / 2))).setCell ⟨kh, 1, none⟩ (.int .i64 (b / 2))).heap[kh]? = some (.cells #[.int .i64 (a / 2), .int .i64 (b / 2)] 27) from heap_setCell_same _ kh 1 _ _ _ (heap_setCell_same v3 kh 0 _ _ _ HA3.out.1))
        have GG9 := Lib.hid (show v3.grownBy ((v3.setCell ⟨kh, 0, none⟩ (.int .i64 (a / 2))).setCell ⟨kh, 1, none⟩ (.int .i64 (b / 2))) (some kh) from grown_trans (grown_cell v3 ⟨kh, 0, none⟩ _) (grown_cell _ ⟨kh, 1, none⟩ _))
        have HE9 := Lib.hid (HE3.out.grown GG9.out HE3.out.size (fun q e => by cases e; exact HA3.out.2.1))
        have HV9 := Lib.hid (HV3.out.other GG9.out HNV.out); have HL9 := Lib.hid (HL3.out.other GG9.out HNL.out); have HC9 := Lib.hid (HC3.out.other GG9.out HNC.out)
        have HX9 := Lib.hid ((GG9.out.block w.heap.size (Array.getElem?_eq_some_iff.1 HX3.out).1 (fun e => by have h1 := HA3.out.2.1; have h2 := HXS.out; have h3 := Option.some.inj e; omega)).trans HX3.out)
        (refine wpAnyH_ready (rs := [10]) (by kernel_rfl) (by simp) ?_; refine AllReadyH.cons (i := 10) rfl (fun K hK => ?_) AllReadyH.nil)
        go_simp
        generalize ((v3.setCell ⟨kh, 0, none⟩ (.int .i64 (a / 2))).setCell ⟨kh, 1, none⟩ (.int .i64 (b / 2))) = w9 at HK9 GG9 HE9 HV9 HL9 HC9 HX9 ⊢
        clear y0 y1 f0 f1
        (refine hK.out _ _ ((fourS HX9.out)) (fun hHeld => ?_); clear hK K; (try simp only [List.getElem_toArray, List.getElem_cons_zero, List.getElem_cons_succ, Act.put, List.setIfInBounds_toArray, List.set_cons_zero, List.set_cons_succ]))
        ((refine wpAnyH_take (i := 11) (v := ?_) rfl (by kernel_rfl) (by kernel_rfl) (by kernel_rfl) (fun _ _ _ h => h) (Or.inl ⟨by rfl, ?_⟩) (by assumption) ?_; rotate_left; (· intro w hSw; (try dsimp only at hSw); go_simp; first | done | with_reducible rfl); (try simp only [List.getElem_toArray, List.getElem_cons_zero, List.getElem_cons_succ, Act.put, List.setIfInBounds_toArray, List.set_cons_zero, List.set_cons_succ])); (refine wpAnyH_take (i := 12) (v := ?_) rfl (by kernel_rfl) (by kernel_rfl) (by kernel_rfl) (fun _ _ _ h => h) (Or.inl ⟨by rfl, ?_⟩) (by assumption) ?_; rotate_left; (· intro w hSw; (try dsimp only at hSw); go_simp; first | done | with_reducible rfl); (try simp only [List.getElem_toArray, List.getElem_cons_zero, List.getElem_cons_succ, Act.put, List.setIfInBounds_toArray, List.set_cons_zero, List.set_cons_succ])))
        (refine wpAnyH_done (by kernel_rfl) ?_ _; refine NoPanic.normal ?_)
        clear hHeld
        go_wp2_with fail
        go_meet
        case rel => exact ⟨kh, gr, capr, rs, cs, rfl, rfl, HRL, HRE, HCL, HCE, HNV, HNL, HNC, HGV, HGL, HKW, HV9, HL9, HC9, HK9, HX9, HE9⟩
    · skip
      go_simp
      go_wp2_with fail
      have hb := (Below.refl v0.heap.size v0).alloc (Nat.le_refl _) (.cells #[.int .i64 0, .int .i64 0] 27)
      have HA1 := Lib.hid (And.intro (heap_alloc_new v0 (.cells #[.int .i64 0, .int .i64 0] 27)) (And.intro HE0.out.size (show v0.heap.size < (v0.alloc (.cells #[.int .i64 0, .int .i64 0] 27)).heap.size by simp)))
      have HNV := Lib.hid (show gv ≠ v0.heap.size by have := (HV0.out.lt gv rfl).2; omega); have HNL := Lib.hid (show gl ≠ v0.heap.size by have := (HL0.out.lt gl rfl).2; omega)
      have HE1 := Lib.hid (HE0.out.trans (hb.mono HE0.out.size))
      have HX1 := Lib.hid ((hb.block w.heap.size (Array.getElem?_eq_some_iff.1 HX0.out).1).trans HX0.out)
      have HV1 := Lib.hid (HV0.out.still hb); have HL1 := Lib.hid (HL0.out.still hb)
      clear hb
      generalize v0.alloc (.cells #[.int .i64 0, .int .i64 0] 27) = v1 at HE1 HA1 HX1 HV1 HL1 ⊢
      generalize v0.heap.size = kh at HA1 HNV HNL ⊢
      (refine hK.out _ _ ((fourS HX1.out)) (fun hHeld => ?_); clear hK K; (try simp only [List.getElem_toArray, List.getElem_cons_zero, List.getElem_cons_succ, Act.put, List.setIfInBounds_toArray, List.set_cons_zero, List.set_cons_succ]))
      refine wpAnyH_ready (rs := [3]) (by kernel_rfl) (by simp) ?_
      refine (AllReadyH.cons (i := 3) rfl (fun K hK => ?_) AllReadyH.nil)
      go_simp
      have f1 := HV1.out.fs HWX.out
      have f2 := HL1.out.fs HWL.out
      rw [HLL.out] at f2
      refine (unsolved_any a b _ _ es ls _ f1 f2 H1.out HLL.out).mono ?_; rintro e v2 ⟨⟨q, rfl, hq⟩, hb⟩
      obtain ⟨rs, hrl, hre, hro⟩ := hq
      obtain ⟨ar, cr, rfl, _⟩ := fown_form hro
      have HRL := Lib.hid hrl; have HRE := Lib.hid (Eqs.on hre hrl); have HRF := Lib.hid (fown_FS hro hre.lt)
      have HE2 := Lib.hid (HE1.out.trans (hb.mono HE1.out.size))
      have HX2 := Lib.hid ((hb.block w.heap.size (Array.getElem?_eq_some_iff.1 HX1.out).1).trans HX1.out)
      have HV2 := Lib.hid (HV1.out.still hb); have HL2 := Lib.hid (HL1.out.still hb)
      have HA2 := Lib.hid (And.intro ((hb.block kh HA1.out.2.2).trans HA1.out.1) (And.intro HA1.out.2.1 (Nat.lt_of_lt_of_le HA1.out.2.2 hb.size)))
      clear f1 f2 hrl hre hro hb
      go_wp2_with fail
      (refine hK.out _ _ ((fourS HX2.out)) (fun hHeld => ?_); clear hK K; (try simp only [List.getElem_toArray, List.getElem_cons_zero, List.getElem_cons_succ, Act.put, List.setIfInBounds_toArray, List.set_cons_zero, List.set_cons_succ]))
      refine wpAnyH_ready (rs := [4]) (by kernel_rfl) (by simp) ?_
      refine (AllReadyH.cons (i := 4) rfl (fun K hK => ?_) AllReadyH.nil)
      go_simp
      refine (iCoarseField_any a b _ rs _ HRF.out (by rw [HRL.out]; exact HN.out)).mono ?_; rintro e v3 ⟨⟨q, rfl, hq⟩, hb⟩
      have hco := okC_yes (show fieldOk a b rs.length = true by rw [HRL.out]; exact H1.out) H3.out
      rw [hco.1, hco.2.1, hco.2.2.1]
      rw [hco.2.2.2, HM.out] at hq
      obtain ⟨gr, capr, cs, rfl, hcsl, hcse, hcso⟩ := fres_row hq hposm
      have hrr : RW v2.heap.size v3 gr capr cs := by show v3.ownsRow _ _ _ (.slice _ cs.length _) cs.length _; rw [hcsl]; exact hcso
      have HCL := Lib.hid hcsl; have HCE := Lib.hid hcse
      have HGV := Lib.hid (show gr ≠ gv from by have := (hrr.lt gr rfl).1; have := (HV2.out.lt gv rfl).2; omega)
      have HGL := Lib.hid (show gr ≠ gl from by have := (hrr.lt gr rfl).1; have := (HL2.out.lt gl rfl).2; omega)
      have HKW := Lib.hid (show w.heap.size < gr from by have := (hrr.lt gr rfl).1; have := (Array.getElem?_eq_some_iff.1 HX2.out).1; omega)
      have HNC := Lib.hid (show gr ≠ kh by have := (hrr.lt gr rfl).1; have := HA2.out.2.2; omega)
      have HC3 := Lib.hid (hrr.le (Nat.zero_le _) : RW 0 v3 gr capr cs)
      have HE3 := Lib.hid (HE2.out.trans (hb.mono HE2.out.size))
      have HX3 := Lib.hid ((hb.block w.heap.size (Array.getElem?_eq_some_iff.1 HX2.out).1).trans HX2.out)
      have HV3 := Lib.hid (HV2.out.still hb); have HL3 := Lib.hid (HL2.out.still hb)
      have HA3 := Lib.hid (And.intro ((hb.block kh HA2.out.2.2).trans HA2.out.1) (And.intro HA2.out.2.1 (Nat.lt_of_lt_of_le HA2.out.2.2 hb.size)))
      clear hq hcsl hcse hcso hrr hb hco
      go_wp2_with fail
      (refine hK.out _ _ ((fourS HX3.out)) (fun hHeld => ?_); clear hK K; (try simp only [List.getElem_toArray, List.getElem_cons_zero, List.getElem_cons_succ, Act.put, List.setIfInBounds_toArray, List.set_cons_zero, List.set_cons_succ]))
      ((refine wpAnyH_take (i := 5) (v := ?_) rfl (by kernel_rfl) (by kernel_rfl) (by kernel_rfl) (fun _ _ _ h => h) (Or.inl ⟨by rfl, ?_⟩) (by assumption) ?_; rotate_left; (· intro w hSw; (try dsimp only at hSw); go_simp; first | done | with_reducible rfl); (try simp only [List.getElem_toArray, List.getElem_cons_zero, List.getElem_cons_succ, Act.put, List.setIfInBounds_toArray, List.set_cons_zero, List.set_cons_succ])); (refine wpAnyH_take (i := 6) (v := ?_) rfl (by kernel_rfl) (by kernel_rfl) (by kernel_rfl) (fun _ _ _ h => h) (Or.inl ⟨by rfl, ?_⟩) (by assumption) ?_; rotate_left; (· intro w hSw; (try dsimp only at hSw); go_simp; first | done | with_reducible rfl); (try simp only [List.getElem_toArray, List.getElem_cons_zero, List.getElem_cons_succ, Act.put, List.setIfInBounds_toArray, List.set_cons_zero, List.set_cons_succ])); (refine wpAnyH_take (i := 7) (v := ?_) rfl (by kernel_rfl) (by kernel_rfl) (by kernel_rfl) (fun _ _ _ h => h) (Or.inl ⟨by rfl, ?_⟩) (by assumption) ?_; rotate_left; (· intro w hSw; (try dsimp only at hSw); go_simp; first | done | with_reducible rfl); (try simp only [List.getElem_toArray, List.getElem_cons_zero, List.getElem_cons_succ, Act.put, List.setIfInBounds_toArray, List.set_cons_zero, List.set_cons_succ])); (refine wpAnyH_take (i := 8) (v := ?_) rfl (by kernel_rfl) (by kernel_rfl) (by kernel_rfl) (fun _ _ _ h => h) (Or.inl ⟨by rfl, ?_⟩) (by assumption) ?_; rotate_left; (· intro w hSw; (try dsimp only at hSw); go_simp; first | done | with_reducible rfl); (try simp only [List.getElem_toArray, List.getElem_cons_zero, List.getElem_cons_succ, Act.put, List.setIfInBounds_toArray, List.set_cons_zero, List.set_cons_succ])))
      have yy := pair_cells HA3.out.1
      have y0 := yy.1; have y1 := yy.2.1; have f0 := yy.2.2.1; have f1 := yy.2.2.2
      clear yy
      have HK9 := Lib.hid (show ((v3.setCell ⟨kh, 0, none⟩ (.int .i64 (a / 2))).setCell ⟨kh, 1, none⟩ (.int .i64 (b / 2))).heap[kh]? = some (.cells #[.int .i64 (a / 2), .int .i64 (b / 2)] 27) from heap_setCell_same _ kh 1 _ _ _ (heap_setCell_same v3 kh 0 _ _ _ HA3.out.1))
      have GG9 := Lib.hid (show v3.grownBy ((v3.setCell ⟨kh, 0, none⟩ (.int .i64 (a / 2))).setCell ⟨kh, 1, none⟩ (.int .i64 (b / 2))) (some kh) from grown_trans (grown_cell v3 ⟨kh, 0, none⟩ _) (grown_cell _ ⟨kh, 1, none⟩ _))
      have HE9 := Lib.hid (HE3.out.grown GG9.out HE3.out.size (fun q e => by cases e; exact HA3.out.2.1))
      have HV9 := Lib.hid (HV3.out.other GG9.out HNV.out); have HL9 := Lib.hid (HL3.out.other GG9.out HNL.out); have HC9 := Lib.hid (HC3.out.other GG9.out HNC.out)
      have HX9 := Lib.hid ((GG9.out.block w.heap.size (Array.getElem?_eq_some_iff.1 HX3.out).1 (fun e => by have h1 := HA3.out.2.1; have h2 := HXS.out; have h3 := Option.some.inj e; omega)).trans HX3.out)
      (refine wpAnyH_ready (rs := [10]) (by kernel_rfl) (by simp) ?_; refine AllReadyH.cons (i := 10) rfl (fun K hK => ?_) AllReadyH.nil)
      go_simp
      generalize ((v3.setCell ⟨kh, 0, none⟩ (.int .i64 (a / 2))).setCell ⟨kh, 1, none⟩ (.int .i64 (b / 2))) = w9 at HK9 GG9 HE9 HV9 HL9 HC9 HX9 ⊢
      clear y0 y1 f0 f1
      (refine hK.out _ _ ((fourS HX9.out)) (fun hHeld => ?_); clear hK K; (try simp only [List.getElem_toArray, List.getElem_cons_zero, List.getElem_cons_succ, Act.put, List.setIfInBounds_toArray, List.set_cons_zero, List.set_cons_succ]))
      ((refine wpAnyH_take (i := 11) (v := ?_) rfl (by kernel_rfl) (by kernel_rfl) (by kernel_rfl) (fun _ _ _ h => h) (Or.inl ⟨by rfl, ?_⟩) (by assumption) ?_; rotate_left; (· intro w hSw; (try dsimp only at hSw); go_simp; first | done | with_reducible rfl); (try simp only [List.getElem_toArray, List.getElem_cons_zero, List.getElem_cons_succ, Act.put, List.setIfInBounds_toArray, List.set_cons_zero, List.set_cons_succ])); (refine wpAnyH_take (i := 12) (v := ?_) rfl (by kernel_rfl) (by kernel_rfl) (by kernel_rfl) (fun _ _ _ h => h) (Or.inl ⟨by rfl, ?_⟩) (by assumption) ?_; rotate_left; (· intro w hSw; (try dsimp only at hSw); go_simp; first | done | with_reducible rfl); (try simp only [List.getElem_toArray, List.getElem_cons_zero, List.getElem_cons_succ, Act.put, List.setIfInBounds_toArray, List.set_cons_zero, List.set_cons_succ])))
      (refine wpAnyH_done (by kernel_rfl) ?_ _; refine NoPanic.normal ?_)
      clear hHeld
      go_wp2_with fail
      go_meet
      case rel => exact ⟨kh, gr, capr, rs, cs, rfl, rfl, HRL, HRE, HCL, HCE, HNV, HNL, HNC, HGV, HGL, HKW, HV9, HL9, HC9, HK9, HX9, HE9⟩
  case rest =>
  obtain ⟨kh, gr, capr, rs, cs, rfl, rfl, HRL, HRE, HCL, HCE, HNV, HNL, HNC, HGV, HGL, HKW, HV9, HL9, HC9, HK9, HX9, HE9⟩ := hcut
  clear HV HL HX
  have hm256 : m ≤ 256 := (fieldOk_true HF.out.1).2.2.2.2.2
  go_wp2_with fail
  go_loopw [24] (fun i wr => ∃ (k : Nat) (ks : List Nat), i = .int .i64 (k : Int) ∧ k ≤ m ∧ Hid (ks.length = m) ∧ Hid (EqOn ks (fun j => fop .mul .f32 1082130432 (csF a rs j)) 0 k) ∧ Hid (EqOn ks (csF a rs) k m) ∧ Hid (RW 0 wr gr capr ks) ∧ Hid (RW B wr gv capv es) ∧ Hid (RW B wr gl capl ls) ∧ Hid (wr.heap[kh]? = some (.cells #[.int .i64 (a / 2), .int .i64 (b / 2)] 27)) ∧ Hid (wr.heap[w.heap.size]? = some (.cells #[.int .i64 a, .int .i64 b, .slice (some ⟨gv, 0, none⟩) es.length capv, .slice (some ⟨gl, 0, none⟩) es.length capl] 108)) ∧ Hid (Below w1.heap.size w1 wr)) (fun i _ => m - (intOf i).toNat)
  case atStart => exact ⟨0, cs, rfl, Nat.zero_le _, HCL, Lib.hid (EqOn.none _ _ _), HCE, HC9, HV9, HL9, HK9, HX9, HE9⟩
  case round =>
    clear HC9 HV9 HL9 HK9 HX9 HE9 HCL HCE
    obtain ⟨k, ks, rfl, hk, HKL, HK1, HK2, HRR, HVE, HVL, HKH, HX, HB⟩ := hrel
    have hkl := HKL.out
    by_cases hlt : k < m
    · have xk := HRR.out.at (show k < ks.length by rw [hkl]; exact hlt)
      have hf := HRR.out.frozenAt k
      have ixk := HK2.out k (Nat.le_refl _) hlt
      have HFQ := Lib.hid (show (fun j => fop .mul .f32 1082130432 (csF a rs j)) k = fop .mul .f32 (csF a rs k) 1082130432 from mul_swap _ _)
      generalize csF a rs k = Y at ixk HFQ
      generalize ks.getD k 0 = y at xk ixk
      have iK0 : (0 : Int) ≤ (k : Int) := Int.natCast_nonneg _
      have iK1 : (k : Int) < (m : Int) := by omega
      go_wp2_with (first | (apply wpList_farith; rfl; rfl; rfl; rfl; (first | with_reducible assumption | exact Is.const rfl); (first | with_reducible assumption | exact Is.const rfl); intro r n hr))
      have PT := RW.put (show RW 0 (wr.drewN n) gr capr ks from HRR.out) k r
      have HRR2 := Lib.hid PT.1
      have HVE2 := Lib.hid (RW.other (show RW B (wr.drewN n) gv capv es from HVE.out) PT.2 (fun e => HGV.out e.symm))
      have HVL2 := Lib.hid (RW.other (show RW B (wr.drewN n) gl capl ls from HVL.out) PT.2 (fun e => HGL.out e.symm))
      have HKH2 := Lib.hid ((PT.2.block kh (Array.getElem?_eq_some_iff.1 HKH.out).1 (fun e => HNC.out (Option.some.inj e).symm)).trans (show (wr.drewN n).heap[kh]? = _ from HKH.out))
      have HX2 := Lib.hid ((PT.2.block w.heap.size (Array.getElem?_eq_some_iff.1 HX.out).1 (fun e => by have h1 := Option.some.inj e; have h2 := HKW.out; omega)).trans (show (wr.drewN n).heap[w.heap.size]? = _ from HX.out))
      have HB2 := Lib.hid ((below_drewN HB.out n).setCell (p := ⟨gr, k, none⟩) (by have h1 := HKW.out; have h2 := HS1.out; show w1.heap.size ≤ gr; omega) (.float .f32 r))
      have HR := Lib.hid (show Is .f32 r ((fun j => fop .mul .f32 1082130432 (csF a rs j)) k) by rw [HFQ.out]; exact hr)
      clear PT xk hf hr
      go_roundw
      case rel => exact ⟨k + 1, ks.set k r, by go_num, by omega, Lib.hid (by rw [List.length_set]; exact hkl), Lib.hid (EqOn.set_up HK1.out (by rw [hkl]; exact hlt) HR.out), Lib.hid (EqOn.set_out (fun q h1 h2 => HK2.out q (by omega) h2) (by rw [hkl]; exact hlt) (.inl (Nat.lt_succ_self k))), HRR2, HVE2, HVL2, HKH2, HX2, HB2⟩
      case measure => simp [intOf]; omega
    · have hk2 : k = m := by omega
      have HQE := Lib.hid (show EqOn ks (fun j => fop .mul .f32 1082130432 (csF a rs j)) 0 m by have := HK1.out; rw [hk2] at this; exact this)
      have HWQ := Lib.hid (show ∀ x ∈ ks, x < 2 ^ FloatKind.f32.format.width from (EqOn.eqs HQE.out hkl).lt)
      clear hk2 HK1 HK2
      have c0 := (pair_cells HKH.out).1; have c1 := (pair_cells HKH.out).2.1
      go_wp2_with fail
      clear c0 c1
      have hfs := HRR.out.fs HWQ.out
      have hsk : fieldOk (a / 2) (b / 2) ks.length = true := by rw [hkl]; exact HF.out.1
      have hh := iSolvePotential_any (a / 2) (b / 2) _ ks 20 wr hfs (by rw [hkl]; omega) (by omega)
      rw [(okSlv_yes hsk (by decide)).1, (okSlv_yes hsk (by decide)).2, hkl] at hh
      refine hh.mono ?_; clear hh hsk hfs; rintro e w9 ⟨⟨q, rfl, hq⟩, hb9⟩
      obtain ⟨gs, caps, ss, rfl, hsl, hse, hso⟩ := fres_row hq hposm
      have hrs : RW wr.heap.size w9 gs caps ss := by show w9.ownsRow _ _ _ (.slice _ ss.length _) ss.length _; rw [hsl]; exact hso
      have HSL := Lib.hid hsl; have HSE := Lib.hid (show EqOn ss (solveF (a / 2) (b / 2) ks 20) 0 m from hse)
      have HSF := Lib.hid (hrs.fs (EqOn.eqs hse hsl).lt)
      have HVE9 := Lib.hid (HVE.out.still hb9); have HVL9 := Lib.hid (HVL.out.still hb9)
      have HKH9 := Lib.hid ((hb9.block kh (Array.getElem?_eq_some_iff.1 HKH.out).1).trans HKH.out)
      have HX9 := Lib.hid ((hb9.block w.heap.size (Array.getElem?_eq_some_iff.1 HX.out).1).trans HX.out)
      have HB9 := Lib.hid (HB.out.trans (hb9.mono HB.out.size))
      clear hq hsl hse hso hrs hb9 HRR HVE HVL HKH HX HB
      have HCO := Lib.hid (corr_of (a := a) (b := b) (es := es) (rs := rs) (qs := ks) (ss := ss) (L := fun j => cn .f32 (ls.getD j 0)) H1.out HRL.out HRE.out (by rw [HM.out]; exact hkl) (by rw [HM.out]; exact HQE.out) (by rw [HM.out]; exact HSL.out) (by rw [HM.out]; exact HSE.out))
      have c0 := (pair_cells HKH9.out).1; have c1 := (pair_cells HKH9.out).2.1
      go_wp2_with fail
      clear c0 c1
      have hff := okF_yes (show fieldOk (a / 2) (b / 2) ss.length = true by rw [HSL.out]; exact HF.out.1) HF.out.2.2.2.2.1 HF.out.2.2.2.2.2
      have hh := iFineField_any (a / 2) (b / 2) _ ss w9 HSF.out (by rw [HSL.out]; omega)
      rw [hff.1, hff.2.1, hff.2.2.1, hff.2.2.2, HF.out.2.1, HSL.out] at hh
      refine hh.mono ?_; clear hh hff; rintro e w10 ⟨⟨q, rfl, hq⟩, hb10⟩
      obtain ⟨gm, capm, ms, rfl, hml, hme, hmo⟩ := fres_row hq hpos
      have hrm : RW w9.heap.size w10 gm capm ms := by show w10.ownsRow _ _ _ (.slice _ ms.length _) ms.length _; rw [hml]; exact hmo
      have HVE10 := Lib.hid (HVE9.out.still hb10); have HVL10 := Lib.hid (HVL9.out.still hb10)
      have HX10 := Lib.hid ((hb10.block w.heap.size (Array.getElem?_eq_some_iff.1 HX9.out).1).trans HX9.out)
      have HB10 := Lib.hid (HB9.out.trans (hb10.mono HB9.out.size))
      have HGMV := Lib.hid (show gm ≠ gv from by have := (hrm.lt gm rfl).1; have := (HVE9.out.lt gv rfl).2; omega)
      have HRM := Lib.hid (hrm.le (Nat.zero_le _) : RW 0 w10 gm capm ms); have HML := Lib.hid hml; have HME := Lib.hid hme
      clear hq hml hme hmo hrm hb10 HVE9 HVL9 HX9 HKH9 HB9
      go_wp2_with fail
      have hal := (Below.refl w10.heap.size w10).alloc (Nat.le_refl _) (.cells #[.int .i64 (2 * (a / 2)), .int .i64 (2 * (b / 2))] 27)
      have HVE11 := Lib.hid (HVE10.out.still hal); have HVL11 := Lib.hid (HVL10.out.still hal); have HRM11 := Lib.hid (HRM.out.still hal)
      have HX11 := Lib.hid ((hal.block w.heap.size (Array.getElem?_eq_some_iff.1 HX10.out).1).trans HX10.out)
      have HB11 := Lib.hid (grown_below (row := some gv) (HB0.out.trans ((HB10.out.trans (hal.mono HB10.out.size)).mono HB0.out.size)))
      clear hal HVE10 HVL10 HRM HX10 HB10
      generalize w10.alloc (.cells #[.int .i64 (2 * (a / 2)), .int .i64 (2 * (b / 2))] 27) = w11 at HVE11 HVL11 HRM11 HX11 HB11 ⊢
      generalize w10.heap.size = kx
      have hn256 : es.length ≤ 256 := HA.out.2.2.2.2.2
      go_loopw [49] (fun i wr => ∃ (k : Nat) (bs : List Nat), i = .int .i64 (k : Int) ∧ k ≤ es.length ∧ Hid (bs.length = es.length) ∧ Hid (EqOn bs (corrF a b es (fun j => cn .f32 (ls.getD j 0))) 0 k) ∧ Hid (∀ j, k ≤ j → bs.getD j 0 = es.getD j 0) ∧ Hid (RW B wr gv capv bs) ∧ Hid (RW 0 wr gm capm ms) ∧ Hid (RW B wr gl capl ls) ∧ Hid (wr.heap[w.heap.size]? = some (.cells #[.int .i64 a, .int .i64 b, .slice (some ⟨gv, 0, none⟩) es.length capv, .slice (some ⟨gl, 0, none⟩) es.length capl] 108)) ∧ Hid (w.grownBy wr (some gv))) (fun i _ => es.length - (intOf i).toNat)
      case atStart => exact ⟨0, es, rfl, Nat.zero_le _, Lib.hid rfl, Lib.hid (EqOn.none _ _ _), Lib.hid (fun _ _ => rfl), HVE11, HRM11, HVL11, HX11, HB11⟩
      case round =>
        clear HVE11 HRM11 HVL11 HX11 HB11
        obtain ⟨k, bs, rfl, hk, HBL, HB1, HB2, HVE, HRM, HVL, HX, HB⟩ := hrel
        have hbl := HBL.out
        by_cases hlt : k < es.length
        · have xk := HVE.out.at (show k < bs.length by rw [hbl]; exact hlt)
          have xm := HRM.out.at (show k < ms.length by rw [HML.out]; exact hlt)
          have hf := HVE.out.frozenAt k
          have ixk := FS.is HWX.out k hlt
          have ixm := HME.out k (Nat.zero_le _) hlt
          rw [HB2.out k (Nat.le_refl _)] at xk
          have HFC := Lib.hid (HCO.out k)
          have c2 := (four_cells HX.out).2.2.1
          generalize cn .f32 (es.getD k 0) = X at ixk HFC
          generalize fnF (a / 2) ss k = Y at ixm HFC
          generalize es.getD k 0 = y at xk ixk
          generalize ms.getD k 0 = z at xm ixm
          have HLT := Lib.hid hlt
          have iK0 : (0 : Int) ≤ (k : Int) := Int.natCast_nonneg _
          have iK1 : (k : Int) < (es.length : Int) := by omega
          go_wp2_with (first | (apply wpList_farith; rfl; rfl; rfl; rfl; (first | with_reducible assumption | exact Is.const rfl); (first | with_reducible assumption | exact Is.const rfl); intro r n hr))
          have PT := RW.put (show RW B (wr.drewN n) gv capv bs from HVE.out) k r
          have HVE5 := Lib.hid PT.1
          have HRM5 := Lib.hid (RW.other (show RW 0 (wr.drewN n) gm capm ms from HRM.out) PT.2 HGMV.out)
          have HVL5 := Lib.hid (RW.other (show RW B (wr.drewN n) gl capl ls from HVL.out) PT.2 (fun e => HNE.out e.symm))
          have HX5 := Lib.hid ((PT.2.block w.heap.size (Array.getElem?_eq_some_iff.1 HX.out).1 (fun e => by have h1 := Option.some.inj e; have h2 := HGVW.out.2; omega)).trans (show (wr.drewN n).heap[w.heap.size]? = _ from HX.out))
          have HB5 := Lib.hid (grown_trans (grown_drewN HB.out n) PT.2)
          have HR5 := Lib.hid (show Is .f32 r (corrF a b es (fun j => cn .f32 (ls.getD j 0)) k) by rw [← HFC.out]; exact hr)
          clear PT xk xm hf hr c2
          go_roundw
          case rel => exact ⟨k + 1, bs.set k r, by go_num, by omega, Lib.hid (by rw [List.length_set]; exact hbl), Lib.hid (EqOn.set_up HB1.out (by rw [hbl]; exact hlt) HR5.out), Lib.hid (fun j hj => by rw [getD_set _ _ _ _ (by rw [hbl]; exact HLT.out), if_neg (by omega)]; exact HB2.out j (by omega)), HVE5, HRM5, HVL5, HX5, HB5⟩
          case measure => simp [intOf]; omega
        · have hk2 : k = es.length := by omega
          have HBE := Lib.hid (show EqOn bs (corrF a b es (fun j => cn .f32 (ls.getD j 0))) 0 es.length by have := HB1.out; rw [hk2] at this; exact this)
          have HWB := Lib.hid (show ∀ x ∈ bs, x < 2 ^ FloatKind.f32.format.width from (EqOn.eqs HBE.out hbl).lt)
          clear hk2 HB1 HB2
          go_wp2_with fail
          go_end0
          exact ⟨⟨bs, rfl, hbl, HWB.out, HBE.out, HVE.out, HVL.out⟩, HB.out⟩
end Go.Proofs.Ytjfnecmnofcjbaa
