/-
  Equations of a row that is cut open, of the program.
-/
import Derived.Test.YtjfnecmnofcjbaaRep
namespace Go.Proofs.Ytjfnecmnofcjbaa
open Go.Fl Go.RowKit
open Go.Joins (ownsRow_le)
set_option linter.unusedSimpArgs false
set_option linter.unusedVariables false

set_option maxHeartbeats 4000000 in
set_option maxRecDepth 100000 in
theorem cutRing_any (u : Value) (ri : List Nat) (w : World) (h : FS .f32 w u ri) (n1 : 3 ≤ ri.length) (n2 : ri.length ≤ 256) :
    Calls Try.prog 169 #[u] w fun e w' => (∃ v, e = .returned (.tuple #[v, .bool true]) ∧ FRes w.heap.size w' v ri.length (triX (sideL ri.length) (midL ri.length) (sideL ri.length) ri ri.length)) ∧ Below w.heap.size w w' := by
  have HU := Lib.hid h
  obtain ⟨a1, c1, rfl, _, _, wf1, _⟩ := h
  clear wf1
  obtain ⟨m, hm⟩ : ∃ m, ri.length = m + 1 := ⟨ri.length - 1, by omega⟩
  have hw : wrap64 ((ri.length : Int) - 1) = (m : Int) := by rw [wrap64_of (by omega) (by omega)]; omega
  have HMM := Lib.hid (show ri.length - 1 = m by omega)
  have iM0 : (0 : Int) ≤ (m : Int) := Int.natCast_nonneg _
  have iM1 : (m : Int) < (ri.length : Int) := by omega
  have iN0 : (0 : Int) < (ri.length : Int) := by omega
  have hm1 : m < ri.length := by omega
  have hm0 : 0 < ri.length := by omega
  have hmz : ¬ 0 = m := by omega
  have N1 := Lib.hid n1; have N2 := Lib.hid n2
  clear hm n1 n2
  go_enter Try.func169, Try.ntmps169
  go_wp2_with fail
  have x1 : (w.alloc (.cells #[.float .f32 3212836864] 37)).cell? ⟨w.heap.size, 0, none⟩ = some (.float .f32 3212836864) := by rw [Go.Joins.cell_of_block (heap_alloc_new w _)]; rfl
  have HB1 := Lib.hid ((Below.refl w.heap.size w).alloc (Nat.le_refl _) (.cells #[.float .f32 3212836864] 37))
  generalize w.alloc (.cells #[.float .f32 3212836864] 37) = w1 at x1 HB1 ⊢
  refine (repeat_any _ _ _ _ ri.length _ x1 (by omega) N2.out).mono ?_; rintro e w2 ⟨⟨g, rfl, hg⟩, hb2⟩
  have HG := Lib.hid (show RW w.heap.size w2 g ri.length (sideL ri.length) by show w2.ownsRow _ _ _ (.slice _ (sideL ri.length).length _) (sideL ri.length).length _; rw [sideL_len]; exact ownsRow_le hg HB1.out.size)
  have HB2 := Lib.hid (HB1.out.trans (hb2.mono HB1.out.size))
  clear hg hb2 x1 HB1
  go_wp2_with fail
  have x2 : (w2.alloc (.cells #[.float .f32 1082130432] 37)).cell? ⟨w2.heap.size, 0, none⟩ = some (.float .f32 1082130432) := by rw [Go.Joins.cell_of_block (heap_alloc_new w2 _)]; rfl
  have hb3 := (Below.refl w2.heap.size w2).alloc (Nat.le_refl _) (.cells #[.float .f32 1082130432] 37)
  have HB3 := Lib.hid (HB2.out.trans (hb3.mono HB2.out.size))
  have HG3 := Lib.hid (HG.out.still hb3)
  clear hb3 HG HB2
  generalize w2.alloc (.cells #[.float .f32 1082130432] 37) = w3 at x2 HB3 HG3 ⊢
  refine (repeat_any _ _ _ _ ri.length _ x2 (by omega) N2.out).mono ?_; rintro e w4 ⟨⟨g', rfl, hg⟩, hb4⟩
  have HM := Lib.hid (show RW w.heap.size w4 g' ri.length (List.replicate ri.length 1082130432) by show w4.ownsRow _ _ _ (.slice _ (List.replicate ri.length 1082130432).length _) (List.replicate ri.length 1082130432).length _; rw [List.length_replicate]; exact ownsRow_le hg HB3.out.size)
  have HGG := Lib.hid (show g ≠ g' by have h1 := (HG3.out.lt g rfl).2; have h2 := (hg.lt g' rfl).1; omega)
  have HG := Lib.hid (HG3.out.still hb4)
  have HB := Lib.hid (HB3.out.trans (hb4.mono HB3.out.size))
  clear hg hb4 x2 HB3 HG3
  have y0 := HM.out.at (k := 0) (by simp; omega)
  have f0 := HM.out.frozenAt 0
  have PT := HM.out.put 0 1090519040
  have HM2 := Lib.hid PT.1
  have HG2 := Lib.hid (HG.out.other PT.2 HGG.out)
  have HB2 := Lib.hid (HB.out.setCell (p := ⟨g', 0, none⟩) (HM.out.lt g' rfl).1 (.float .f32 1090519040))
  have y1 := HM2.out.at (k := m) (by simp; omega)
  have f1 := HM2.out.frozenAt m
  have PT2 := HM2.out.put m 1082654720
  have HM3 := Lib.hid PT2.1
  have HG3 := Lib.hid (HG2.out.other PT2.2 HGG.out)
  have HB3 := Lib.hid (HB2.out.setCell (p := ⟨g', m, none⟩) (HM2.out.lt g' rfl).1 (.float .f32 1082654720))
  clear PT PT2 HM HG HB HM2 HG2 HB2
  go_wp2_with fail
  clear y0 f0 y1 f1
  generalize (w4.setCell ⟨g', 0, none⟩ (.float .f32 1090519040)).setCell ⟨g', m, none⟩ (.float .f32 1082654720) = w6 at HM3 HG3 HB3 ⊢
  have HMF := Lib.hid (show FS .f32 w6 (.slice (some ⟨g', 0, none⟩) ri.length ri.length) (midL ri.length) by
    have e : ((List.replicate ri.length 1082130432).set 0 1090519040).set m 1082654720 = midL ri.length := by unfold midL; rw [HMM.out]
    have := HM3.out; rw [e] at this; have h2 := this.fs (mid_lt _); rw [midL_len] at h2; exact h2)
  have HSF := Lib.hid (show FS .f32 w6 (.slice (some ⟨g, 0, none⟩) ri.length ri.length) (sideL ri.length) by have h2 := HG3.out.fs (side_lt _); rw [sideL_len] at h2; exact h2)
  refine (iRow2_yes _ _ _ _ (sideL ri.length) (midL ri.length) (sideL ri.length) ri _ HSF.out HMF.out HSF.out (HU.out.below HB3.out) (sideL_len _) (midL_len _) (sideL_len _) (by omega) N2.out).mono ?_; rintro e w9 ⟨⟨v, rfl, hv⟩, hb9⟩
  rw [rowN_yes (ring_fine ri N1.out)] at hv
  rw [ring_fine ri N1.out]
  go_wp2_with fail
  go_ret2
  exact ⟨⟨v, rfl, fres_le hv HB3.out.size⟩, HB3.out.trans (hb9.mono HB3.out.size)⟩
end Go.Proofs.Ytjfnecmnofcjbaa
