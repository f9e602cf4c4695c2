/-
  FineField, of the program and of the model.
-/
import Derived.Test.YtjfnecmnofcjbaaFine
namespace Go.Proofs.Ytjfnecmnofcjbaa
open Go.Fl Go.RowKit
open Go.Joins (ownsRow_le)
set_option linter.unusedSimpArgs false
set_option linter.unusedVariables false


set_option maxHeartbeats 1000000 in
theorem iFineField_any (a b : Int) (u : Value) (xs : List Nat) (w : World) (hu : FS .f32 w u xs) (_hn : xs.length ≤ 1048576) :
    Calls Try.prog 177 #[GV a b, u] w fun e w' => (∃ r, e = .returned (.tuple #[GV (wiFineField a b xs) (hiFineField a b xs), r, .bool (okFineField a b xs)]) ∧ FRes w.heap.size w' r (lenFineField a b xs) (fnF a xs)) ∧ Below w.heap.size w w' := by
  have HU := Lib.hid hu
  obtain ⟨a1, c1, rfl, hlc, hcm, hwf, hmem⟩ := hu
  obtain ⟨n1, n2, n3, n6, n4, n5⟩ := four_new w (.cells #[.int .i64 a, .int .i64 b] 27) (.cells #[.slice a1 xs.length c1] 24) (.cells #[.int .i64 0, .int .i64 0] 27) (.cells #[.int .i64 (wrap64 (2 * a)), .int .i64 (wrap64 (2 * b))] 27)
  have HG := Lib.hid n1; have HL := Lib.hid n2; have HR := Lib.hid n3; have HB := Lib.hid n4; have HS := Lib.hid n5; have HT := Lib.hid n6
  clear hmem hlc hcm hwf n1 n2 n3 n4 n5 n6
  unfold wiFineField hiFineField lenFineField
  by_cases h1 : fieldOk a b xs.length = true
  · have H1 := Lib.hid h1
    have hf := fieldOk_true h1
    have HW := Lib.hid (show wrap64 (2 * a) = 2 * a ∧ wrap64 (2 * b) = 2 * b from ⟨wrap64_of (by omega) (by omega), wrap64_of (by omega) (by omega)⟩)
    have HA := Lib.hid hf
    by_cases h2 : 2 * a ≤ 16 ∧ 2 * b ≤ 16
    · have hok : okFineField a b xs = true := by unfold okFineField; rw [H1.out]; simp [h2.1, h2.2]
      have HGR := Lib.hid (show gridOk (2 * a) (2 * b) = true from decide_eq_true (by omega))
      rw [hok]
      clear hok
      go_enter Try.func177, Try.ntmps177
      go_wp2_with fail
      simp only [HW.out.1, HW.out.2] at HG HL HR HB HS HT
      generalize (((w.alloc (.cells #[.int .i64 a, .int .i64 b] 27)).alloc (.cells #[.slice a1 xs.length c1] 24)).alloc (.cells #[.int .i64 0, .int .i64 0] 27)).alloc (.cells #[.int .i64 (2 * a), .int .i64 (2 * b)] 27) = w1 at HG HL HR HB HS HT ⊢
      refine (iIsField_any a b a1 xs.length c1 _).mono ?_; rw [H1.out]; rintro e w2 ⟨rfl, hb2⟩
      have HD2 := Lib.hid hb2
      have hs := HS.out
      have ht := pair_cells ((hb2.block (w.heap.size + 1 + 1 + 1) (by omega)).trans HT.out)
      have ht0 := ht.1; have ht1 := ht.2.1
      clear hb2 ht hf h1 hs
      go_wp2_with fail
      refine (iValidGrid_any (2 * a) (2 * b) _).mono ?_; rw [HGR.out]; rintro e w3 ⟨rfl, hb3⟩
      have HD3 := Lib.hid (HD2.out.trans (hb3.mono HD2.out.size))
      have hs := HS.out
      clear hb3 ht0 ht1
      have BR := Lib.hid ((HD3.out.block (w.heap.size + 1 + 1) (by omega)).trans HR.out)
      have y := pair_cells BR.out
      have BG := Lib.hid ((HD3.out.block w.heap.size (by omega)).trans HG.out)
      have BL := Lib.hid ((HD3.out.block (w.heap.size + 1) (by omega)).trans HL.out)
      have BT := Lib.hid ((HD3.out.block (w.heap.size + 1 + 1 + 1) (by omega)).trans HT.out)
      have u0 := (pair_cells BT.out).1
      have u1 := (pair_cells BT.out).2.1
      clear y hs
      go_wp2_with fail
      refine wp_region_noPanic ?_
      refine wp_region_held_drew (S := fun w' => w'.cell? ⟨w.heap.size + 1 + 1 + 1, 0, none⟩ = some (.int .i64 (2 * a)) ∧ w'.cell? ⟨w.heap.size + 1 + 1 + 1, 1, none⟩ = some (.int .i64 (2 * b))) (by kernel_rfl) ⟨u0, u1⟩ (fun hHeld => ?_)
      have HD4 := Lib.hid (Below.refl w3.heap.size w3).drew
      clear u0 u1
      generalize w3.drew = v0 at HD4 hHeld ⊢
      ((refine wpAnyH_take (i := 0) (v := ?_) rfl (by kernel_rfl) (by kernel_rfl) (by kernel_rfl) (fun _ _ _ h => h) (Or.inl ⟨by rfl, ?_⟩) (by assumption) ?_; rotate_left; (· intro w hSw; (try dsimp only at hSw); go_simp; first | done | with_reducible rfl); (try simp only [List.getElem_toArray, List.getElem_cons_zero, List.getElem_cons_succ, Act.put, List.setIfInBounds_toArray, List.set_cons_zero, List.set_cons_succ])); (refine wpAnyH_take (i := 1) (v := ?_) rfl (by kernel_rfl) (by kernel_rfl) (by kernel_rfl) (fun _ _ _ h => h) (Or.inl ⟨by rfl, ?_⟩) (by assumption) ?_; rotate_left; (· intro w hSw; (try dsimp only at hSw); go_simp; first | done | with_reducible rfl); (try simp only [List.getElem_toArray, List.getElem_cons_zero, List.getElem_cons_succ, Act.put, List.setIfInBounds_toArray, List.set_cons_zero, List.set_cons_succ])); (refine wpAnyH_take (i := 2) (v := ?_) rfl (by kernel_rfl) (by kernel_rfl) (by kernel_rfl) (fun _ _ _ h => h) (Or.inl ⟨by rfl, ?_⟩) (by assumption) ?_; rotate_left; (· intro w hSw; (try dsimp only at hSw); go_simp; first | done | with_reducible rfl); (try simp only [List.getElem_toArray, List.getElem_cons_zero, List.getElem_cons_succ, Act.put, List.setIfInBounds_toArray, List.set_cons_zero, List.set_cons_succ])))
      have e0 := Lib.hid (HB.out.trans ((HD3.out.trans (HD4.out.mono HD3.out.size)).mono HB.out.size))
      have CG := Lib.hid ((HD4.out.block w.heap.size (Array.getElem?_eq_some_iff.1 BG.out).1).trans BG.out)
      have CL := Lib.hid ((HD4.out.block (w.heap.size + 1) (Array.getElem?_eq_some_iff.1 BL.out).1).trans BL.out)
      have CR := Lib.hid ((HD4.out.block (w.heap.size + 1 + 1) (Array.getElem?_eq_some_iff.1 BR.out).1).trans BR.out)
      have CT := Lib.hid ((HD4.out.block (w.heap.size + 1 + 1 + 1) (Array.getElem?_eq_some_iff.1 BT.out).1).trans BT.out)
      (refine wpAnyH_ready (rs := [3]) (by kernel_rfl) (by simp) ?_; refine AllReadyH.cons (i := 3) rfl (fun K hK => ?_) AllReadyH.nil)
      go_simp
      refine (fieldBy_any (2 * a) (2 * b) (2 * a * (2 * b)).toNat _ _ _ (fnF a xs) _ HGR.out (Int.toNat_of_nonneg (Int.mul_nonneg (by have := HA.out; omega) (by have := HA.out; omega))) (fine1_any a b _ xs _ _ _ (HU.out.below e0.out) H1.out h2 (bx_of CL.out) (gp_of CG.out))).mono ?_; rintro e w5 ⟨⟨r, rfl, hr⟩, hb5⟩
      have HR5 := Lib.hid hr
      have DR := Lib.hid ((hb5.block (w.heap.size + 1 + 1) (Array.getElem?_eq_some_iff.1 CR.out).1).trans CR.out)
      have DT := Lib.hid ((hb5.block (w.heap.size + 1 + 1 + 1) (Array.getElem?_eq_some_iff.1 CT.out).1).trans CT.out)
      have e5 := Lib.hid (e0.out.trans (hb5.mono e0.out.size))
      have hl0 := (Array.getElem?_eq_some_iff.1 CR.out).1
      clear hr hb5
      go_wp2_with fail
      (refine hK.out _ _ (⟨And.left (pair_cells DT.out), And.left (And.right (pair_cells DT.out))⟩) (fun hHeld => ?_); clear hK K; (try simp only [List.getElem_toArray, List.getElem_cons_zero, List.getElem_cons_succ, Act.put, List.setIfInBounds_toArray, List.set_cons_zero, List.set_cons_succ]))
      have y0 := (pair_cells DR.out).1; have y1 := (pair_cells DR.out).2.1; have f0 := (pair_cells DR.out).2.2.1; have f1 := (pair_cells DR.out).2.2.2
      have hn1 : w.heap.size + 1 + 1 + 1 ≠ w.heap.size + 1 + 1 := by omega
      have x0 : ((w5.setCell ⟨w.heap.size + 1 + 1, 0, none⟩ (.int .i64 (2 * a))).setCell ⟨w.heap.size + 1 + 1, 1, none⟩ (.int .i64 (2 * b))).cell? ⟨w.heap.size + 1 + 1 + 1, 0, none⟩ = some (.int .i64 (2 * a)) := by
        rw [Joins.cell_of_block (by rw [Below.heap_setCell _ _ _ _ hn1, Below.heap_setCell _ _ _ _ hn1]; exact DT.out)]; rfl
      have x1 : ((w5.setCell ⟨w.heap.size + 1 + 1, 0, none⟩ (.int .i64 (2 * a))).setCell ⟨w.heap.size + 1 + 1, 1, none⟩ (.int .i64 (2 * b))).cell? ⟨w.heap.size + 1 + 1 + 1, 1, none⟩ = some (.int .i64 (2 * b)) := by
        rw [Joins.cell_of_block (by rw [Below.heap_setCell _ _ _ _ hn1, Below.heap_setCell _ _ _ _ hn1]; exact DT.out)]; rfl
      (refine wpAnyH_ready (rs := [4]) (by kernel_rfl) (by simp) ?_; refine AllReadyH.cons (i := 4) rfl (fun K hK => ?_) AllReadyH.nil)
      go_simp
      (refine hK.out _ _ (⟨x0, x1⟩) (fun hHeld => ?_); clear hK K; (try simp only [List.getElem_toArray, List.getElem_cons_zero, List.getElem_cons_succ, Act.put, List.setIfInBounds_toArray, List.set_cons_zero, List.set_cons_succ]))
      ((refine wpAnyH_take (i := 5) (v := ?_) rfl (by kernel_rfl) (by kernel_rfl) (by kernel_rfl) (fun _ _ _ h => h) (Or.inl ⟨by rfl, ?_⟩) (by assumption) ?_; rotate_left; (· intro w hSw; (try dsimp only at hSw); go_simp; first | done | with_reducible rfl); (try simp only [List.getElem_toArray, List.getElem_cons_zero, List.getElem_cons_succ, Act.put, List.setIfInBounds_toArray, List.set_cons_zero, List.set_cons_succ])); (refine wpAnyH_take (i := 6) (v := ?_) rfl (by kernel_rfl) (by kernel_rfl) (by kernel_rfl) (fun _ _ _ h => h) (Or.inl ⟨by rfl, ?_⟩) (by assumption) ?_; rotate_left; (· intro w hSw; (try dsimp only at hSw); go_simp; first | done | with_reducible rfl); (try simp only [List.getElem_toArray, List.getElem_cons_zero, List.getElem_cons_succ, Act.put, List.setIfInBounds_toArray, List.set_cons_zero, List.set_cons_succ])))
      (refine wpAnyH_done (by kernel_rfl) ?_ _; refine NoPanic.normal ?_)
      clear hHeld x0 x1
      have q0 : ((w5.setCell ⟨w.heap.size + 1 + 1, 0, none⟩ (.int .i64 (2 * a))).setCell ⟨w.heap.size + 1 + 1, 1, none⟩ (.int .i64 (2 * b))).cell? ⟨w.heap.size + 1 + 1, 0, none⟩ = some (.int .i64 (2 * a)) := by go_simp
      have q1 : ((w5.setCell ⟨w.heap.size + 1 + 1, 0, none⟩ (.int .i64 (2 * a))).setCell ⟨w.heap.size + 1 + 1, 1, none⟩ (.int .i64 (2 * b))).cell? ⟨w.heap.size + 1 + 1, 1, none⟩ = some (.int .i64 (2 * b)) := by go_simp
      go_wp2_with fail
      refine bodyPost_ret (v := .tuple #[GV (2 * a) (2 * b), r, .bool true]) (by simp [results, Try.results177, go_sem, q0, q1]) rfl ?_
      exact ⟨⟨_, rfl, fres_le (fres_cell (fres_cell HR5.out hl0 _) hl0 _) e0.out.size⟩, (e5.out.setCell (p := ⟨w.heap.size + 1 + 1, 0, none⟩) (by simp; omega) _).setCell (p := ⟨w.heap.size + 1 + 1, 1, none⟩) (by simp; omega) _⟩
    · have hok : okFineField a b xs = false := by
        unfold okFineField; rw [H1.out, Bool.true_and, Bool.and_eq_false_iff, decide_eq_false_iff_not, decide_eq_false_iff_not]; omega
      have HGR := Lib.hid (show gridOk (2 * a) (2 * b) = false from decide_eq_false (by omega))
      rw [hok]
      clear hok
      go_enter Try.func177, Try.ntmps177
      go_wp2_with fail
      simp only [HW.out.1, HW.out.2] at HG HL HR HB HS HT
      generalize (((w.alloc (.cells #[.int .i64 a, .int .i64 b] 27)).alloc (.cells #[.slice a1 xs.length c1] 24)).alloc (.cells #[.int .i64 0, .int .i64 0] 27)).alloc (.cells #[.int .i64 (2 * a), .int .i64 (2 * b)] 27) = w1 at HG HL HR HB HS HT ⊢
      refine (iIsField_any a b a1 xs.length c1 _).mono ?_; rw [H1.out]; rintro e w2 ⟨rfl, hb2⟩
      have HD2 := Lib.hid hb2
      have hs := HS.out
      have ht := pair_cells ((hb2.block (w.heap.size + 1 + 1 + 1) (by omega)).trans HT.out)
      have ht0 := ht.1; have ht1 := ht.2.1
      clear hb2 ht hf h1 hs
      go_wp2_with fail
      refine (iValidGrid_any (2 * a) (2 * b) _).mono ?_; rw [HGR.out]; rintro e w3 ⟨rfl, hb3⟩
      have HD3 := Lib.hid (HD2.out.trans (hb3.mono HD2.out.size))
      have hs := HS.out
      clear hb3 ht0 ht1
      have BR := Lib.hid ((HD3.out.block (w.heap.size + 1 + 1) (by omega)).trans HR.out)
      have y := pair_cells BR.out
      have y0 := y.1; have y1 := y.2.1; have f0 := y.2.2.1; have f1 := y.2.2.2
      clear y hs
      go_wp2_with fail
      refine bodyPost_ret (v := .tuple #[GV 0 0, .slice none 0 0, .bool false]) (by simp [results, Try.results177, go_sem, y0, y1]) rfl ?_
      have hbw := HB.out.trans (HD3.out.mono HB.out.size)
      exact ⟨⟨_, rfl, fres_none _ _ _⟩, (hbw.setCell (p := ⟨w.heap.size + 1 + 1, 0, none⟩) (by simp; omega) _).setCell (p := ⟨w.heap.size + 1 + 1, 1, none⟩) (by simp; omega) _⟩
  · have h1' : fieldOk a b xs.length = false := by simpa using h1
    have H1 := Lib.hid h1'
    have hok : okFineField a b xs = false := by unfold okFineField; rw [h1']; rfl
    rw [hok]
    clear h1 h1' hok
    go_enter Try.func177, Try.ntmps177
    go_wp2_with fail
    generalize (((w.alloc (.cells #[.int .i64 a, .int .i64 b] 27)).alloc (.cells #[.slice a1 xs.length c1] 24)).alloc (.cells #[.int .i64 0, .int .i64 0] 27)).alloc (.cells #[.int .i64 (wrap64 (2 * a)), .int .i64 (wrap64 (2 * b))] 27) = w1 at HG HL HR HB HS HT ⊢
    refine (iIsField_any a b a1 xs.length c1 _).mono ?_; rw [H1.out]; rintro e w2 ⟨rfl, hb2⟩
    have HD2 := Lib.hid hb2
    have hs := HS.out
    have HD3 := Lib.hid hb2
    clear hb2
    have BR := Lib.hid ((HD3.out.block (w.heap.size + 1 + 1) (by omega)).trans HR.out)
    have y := pair_cells BR.out
    have y0 := y.1; have y1 := y.2.1; have f0 := y.2.2.1; have f1 := y.2.2.2
    clear y hs
    go_wp2_with fail
    refine bodyPost_ret (v := .tuple #[GV 0 0, .slice none 0 0, .bool false]) (by simp [results, Try.results177, go_sem, y0, y1]) rfl ?_
    have hbw := HB.out.trans (HD3.out.mono HB.out.size)
    exact ⟨⟨_, rfl, fres_none _ _ _⟩, (hbw.setCell (p := ⟨w.heap.size + 1 + 1, 0, none⟩) (by simp; omega) _).setCell (p := ⟨w.heap.size + 1 + 1, 1, none⟩) (by simp; omega) _⟩
end Go.Proofs.Ytjfnecmnofcjbaa
