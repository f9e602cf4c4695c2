/-
  CoarseField, of the program and of the model: the whole functions.
-/
import Derived.Test.YtjfnecmnofcjbaaCoarB
namespace Go.Proofs.Ytjfnecmnofcjbaa
open Go.Fl Go.RowKit
open Go.Joins (ownsRow_le)
set_option linter.unusedSimpArgs false
set_option linter.unusedVariables false


set_option maxHeartbeats 1000000 in
theorem iCoarseField_any (a b : Int) (u : Value) (xs : List Nat) (w : World) (hu : FS .f32 w u xs) (_hn : xs.length ≤ 1048576) :
    Calls Try.prog 175 #[GV a b, u] w fun e w' => (∃ r, e = .returned (.tuple #[GV (wiCoarseField a b xs) (hiCoarseField a b xs), r, .bool (okCoarseField a b xs)]) ∧ FRes w.heap.size w' r (lenCoarseField a b xs) (csF a xs)) ∧ Below w.heap.size w w' := by
  have HU := Lib.hid hu
  obtain ⟨a1, c1, rfl, hlc, hcm, hwf, hmem⟩ := hu
  obtain ⟨n1, n2, n3, n4, n5⟩ := three_new w (.cells #[.int .i64 a, .int .i64 b] 27) (.cells #[.slice a1 xs.length c1] 24) (.cells #[.int .i64 0, .int .i64 0] 27)
  have HG := Lib.hid n1; have HL := Lib.hid n2; have HR := Lib.hid n3; have HB := Lib.hid n4; have HS := Lib.hid n5
  clear hmem hlc hcm hwf n1 n2 n3 n4 n5
  unfold wiCoarseField hiCoarseField lenCoarseField
  by_cases h1 : fieldOk a b xs.length = true
  · have H1 := Lib.hid h1
    have hf := fieldOk_true h1
    have HA := Lib.hid hf
    cases h2 : halvesB a b with
    | true =>
      have hok : okCoarseField a b xs = true := by unfold okCoarseField; rw [h1, h2]; rfl
      have H2 := Lib.hid h2
      have hhv := halvesB_true h2
      have HGR := Lib.hid (show gridOk (a / 2) (b / 2) = true from decide_eq_true (by have := hhv.2.2; omega))
      have HHV := Lib.hid hhv
      rw [hok]
      clear hok h1 h2 hf hhv
      go_enter Try.func175, Try.ntmps175
      go_wp2_with fail
      generalize ((w.alloc (.cells #[.int .i64 a, .int .i64 b] 27)).alloc (.cells #[.slice a1 xs.length c1] 24)).alloc (.cells #[.int .i64 0, .int .i64 0] 27) = w1 at HG HL HR HB HS ⊢
      refine (iIsField_any a b a1 xs.length c1 _).mono ?_; rw [H1.out]; rintro e w2 ⟨rfl, hb2⟩
      have z := pair_cells ((hb2.block w.heap.size (by have := HS.out; omega)).trans HG.out)
      have z0 := z.1; have z1 := z.2.1
      have HD2 := Lib.hid hb2
      clear hb2 z
      go_wp2_with fail
      refine (iHalved_any a b _ (by have := HA.out; omega) (by have := HA.out; omega)).mono ?_; rw [H2.out]; rintro e w3 ⟨rfl, hb3⟩
      have HD := Lib.hid (HD2.out.trans (hb3.mono HD2.out.size))
      clear hb3 z0 z1
      have BG0 := Lib.hid ((HD.out.block w.heap.size (by have := HS.out; omega)).trans HG.out)
      have BL0 := Lib.hid ((HD.out.block (w.heap.size + 1) (by have := HS.out; omega)).trans HL.out)
      have BR0 := Lib.hid ((HD.out.block (w.heap.size + 1 + 1) (by have := HS.out; omega)).trans HR.out)
      have z0 := (pair_cells BG0.out).1; have z1 := (pair_cells BG0.out).2.1
      have hq1 : wrap64 (a / 2) = a / 2 := by have := HA.out; exact wrap64_of (by omega) (by omega)
      have hq2 : wrap64 (b / 2) = b / 2 := by have := HA.out; exact wrap64_of (by omega) (by omega)
      have hq3 : a.tdiv 2 = a / 2 := Int.tdiv_eq_ediv_of_nonneg (by have := HA.out; omega)
      have hq4 : b.tdiv 2 = b / 2 := Int.tdiv_eq_ediv_of_nonneg (by have := HA.out; omega)
      have p1 := HA.out.1; have p2 := HA.out.2.2.1
      go_wp2_with fail
      clear z0 z1 hq1 hq2 hq3 hq4
      have BG := Lib.hid ((heap_alloc_old w3 (.cells #[.int .i64 (a / 2), .int .i64 (b / 2)] 27) (Array.getElem?_eq_some_iff.1 BG0.out).1).trans BG0.out)
      have BL := Lib.hid ((heap_alloc_old w3 (.cells #[.int .i64 (a / 2), .int .i64 (b / 2)] 27) (Array.getElem?_eq_some_iff.1 BL0.out).1).trans BL0.out)
      have BR := Lib.hid ((heap_alloc_old w3 (.cells #[.int .i64 (a / 2), .int .i64 (b / 2)] 27) (Array.getElem?_eq_some_iff.1 BR0.out).1).trans BR0.out)
      have BT := Lib.hid (heap_alloc_new w3 (.cells #[.int .i64 (a / 2), .int .i64 (b / 2)] 27))
      have KT := Lib.hid (show w.heap.size + 1 + 1 < w3.heap.size from (Array.getElem?_eq_some_iff.1 BR0.out).1)
      have e3 := Lib.hid ((HB.out.trans (HD.out.mono HB.out.size)).alloc (Nat.le_of_lt (Nat.lt_of_le_of_lt (by omega) KT.out)) (.cells #[.int .i64 (a / 2), .int .i64 (b / 2)] 27))
      generalize w3.alloc (.cells #[.int .i64 (a / 2), .int .i64 (b / 2)] 27) = w4 at BG BL BR BT e3 ⊢
      generalize w3.heap.size = k4 at BT KT ⊢
      have u0 := (pair_cells BT.out).1; have u1 := (pair_cells BT.out).2.1
      refine wp_region_noPanic ?_
      refine wp_region_held_drew (S := fun w' => w'.cell? ⟨k4, 0, none⟩ = some (.int .i64 (a / 2)) ∧ w'.cell? ⟨k4, 1, none⟩ = some (.int .i64 (b / 2))) (by kernel_rfl) ⟨u0, u1⟩ (fun hHeld => ?_)
      have HD4 := Lib.hid (Below.refl w4.heap.size w4).drew
      clear u0 u1
      generalize w4.drew = v0 at HD4 hHeld ⊢
      ((refine wpAnyH_take (i := 0) (v := ?_) rfl (by kernel_rfl) (by kernel_rfl) (by kernel_rfl) (fun _ _ _ h => h) (Or.inl ⟨by rfl, ?_⟩) (by assumption) ?_; rotate_left; (· intro w hSw; (try dsimp only at hSw); go_simp; first | done | with_reducible rfl); (try simp only [List.getElem_toArray, List.getElem_cons_zero, List.getElem_cons_succ, Act.put, List.setIfInBounds_toArray, List.set_cons_zero, List.set_cons_succ])); (refine wpAnyH_take (i := 1) (v := ?_) rfl (by kernel_rfl) (by kernel_rfl) (by kernel_rfl) (fun _ _ _ h => h) (Or.inl ⟨by rfl, ?_⟩) (by assumption) ?_; rotate_left; (· intro w hSw; (try dsimp only at hSw); go_simp; first | done | with_reducible rfl); (try simp only [List.getElem_toArray, List.getElem_cons_zero, List.getElem_cons_succ, Act.put, List.setIfInBounds_toArray, List.set_cons_zero, List.set_cons_succ])); (refine wpAnyH_take (i := 2) (v := ?_) rfl (by kernel_rfl) (by kernel_rfl) (by kernel_rfl) (fun _ _ _ h => h) (Or.inl ⟨by rfl, ?_⟩) (by assumption) ?_; rotate_left; (· intro w hSw; (try dsimp only at hSw); go_simp; first | done | with_reducible rfl); (try simp only [List.getElem_toArray, List.getElem_cons_zero, List.getElem_cons_succ, Act.put, List.setIfInBounds_toArray, List.set_cons_zero, List.set_cons_succ])))
      have e0 := Lib.hid (e3.out.trans (HD4.out.mono e3.out.size))
      have CG := Lib.hid ((HD4.out.block w.heap.size (Array.getElem?_eq_some_iff.1 BG.out).1).trans BG.out)
      have CL := Lib.hid ((HD4.out.block (w.heap.size + 1) (Array.getElem?_eq_some_iff.1 BL.out).1).trans BL.out)
      have CR := Lib.hid ((HD4.out.block (w.heap.size + 1 + 1) (Array.getElem?_eq_some_iff.1 BR.out).1).trans BR.out)
      have CT := Lib.hid ((HD4.out.block k4 (Array.getElem?_eq_some_iff.1 BT.out).1).trans BT.out)
      (refine wpAnyH_ready (rs := [3]) (by kernel_rfl) (by simp) ?_; refine AllReadyH.cons (i := 3) rfl (fun K hK => ?_) AllReadyH.nil)
      go_simp
      refine (fieldBy_any (a / 2) (b / 2) (a / 2 * (b / 2)).toNat _ _ _ (csF a xs) _ HGR.out (Int.toNat_of_nonneg (Int.mul_nonneg (by have := HA.out; omega) (by have := HA.out; omega))) (coarse1_any a b _ xs _ _ _ (HU.out.below e0.out) H1.out HHV.out (gp_of CG.out) (bx_of CL.out))).mono ?_; rintro e w5 ⟨⟨r, rfl, hr⟩, hb5⟩
      have HR5 := Lib.hid hr
      have DR := Lib.hid ((hb5.block (w.heap.size + 1 + 1) (Array.getElem?_eq_some_iff.1 CR.out).1).trans CR.out)
      have DT := Lib.hid ((hb5.block k4 (Array.getElem?_eq_some_iff.1 CT.out).1).trans CT.out)
      have e5 := Lib.hid (e0.out.trans (hb5.mono e0.out.size))
      have hl0 := (Array.getElem?_eq_some_iff.1 CR.out).1
      clear hr hb5
      go_wp2_with fail
      (refine hK.out _ _ (⟨And.left (pair_cells DT.out), And.left (And.right (pair_cells DT.out))⟩) (fun hHeld => ?_); clear hK K; (try simp only [List.getElem_toArray, List.getElem_cons_zero, List.getElem_cons_succ, Act.put, List.setIfInBounds_toArray, List.set_cons_zero, List.set_cons_succ]))
      have y0 := (pair_cells DR.out).1; have y1 := (pair_cells DR.out).2.1; have f0 := (pair_cells DR.out).2.2.1; have f1 := (pair_cells DR.out).2.2.2
      have hn1 : k4 ≠ w.heap.size + 1 + 1 := by have := KT.out; omega
      have x0 : ((w5.setCell ⟨w.heap.size + 1 + 1, 0, none⟩ (.int .i64 (a / 2))).setCell ⟨w.heap.size + 1 + 1, 1, none⟩ (.int .i64 (b / 2))).cell? ⟨k4, 0, none⟩ = some (.int .i64 (a / 2)) := by
        rw [Joins.cell_of_block (by rw [Below.heap_setCell _ _ _ _ hn1, Below.heap_setCell _ _ _ _ hn1]; exact DT.out)]; rfl
      have x1 : ((w5.setCell ⟨w.heap.size + 1 + 1, 0, none⟩ (.int .i64 (a / 2))).setCell ⟨w.heap.size + 1 + 1, 1, none⟩ (.int .i64 (b / 2))).cell? ⟨k4, 1, none⟩ = some (.int .i64 (b / 2)) := by
        rw [Joins.cell_of_block (by rw [Below.heap_setCell _ _ _ _ hn1, Below.heap_setCell _ _ _ _ hn1]; exact DT.out)]; rfl
      (refine wpAnyH_ready (rs := [4]) (by kernel_rfl) (by simp) ?_; refine AllReadyH.cons (i := 4) rfl (fun K hK => ?_) AllReadyH.nil)
      go_simp
      (refine hK.out _ _ (⟨x0, x1⟩) (fun hHeld => ?_); clear hK K; (try simp only [List.getElem_toArray, List.getElem_cons_zero, List.getElem_cons_succ, Act.put, List.setIfInBounds_toArray, List.set_cons_zero, List.set_cons_succ]))
      ((refine wpAnyH_take (i := 5) (v := ?_) rfl (by kernel_rfl) (by kernel_rfl) (by kernel_rfl) (fun _ _ _ h => h) (Or.inl ⟨by rfl, ?_⟩) (by assumption) ?_; rotate_left; (· intro w hSw; (try dsimp only at hSw); go_simp; first | done | with_reducible rfl); (try simp only [List.getElem_toArray, List.getElem_cons_zero, List.getElem_cons_succ, Act.put, List.setIfInBounds_toArray, List.set_cons_zero, List.set_cons_succ])); (refine wpAnyH_take (i := 6) (v := ?_) rfl (by kernel_rfl) (by kernel_rfl) (by kernel_rfl) (fun _ _ _ h => h) (Or.inl ⟨by rfl, ?_⟩) (by assumption) ?_; rotate_left; (· intro w hSw; (try dsimp only at hSw); go_simp; first | done | with_reducible rfl); (try simp only [List.getElem_toArray, List.getElem_cons_zero, List.getElem_cons_succ, Act.put, List.setIfInBounds_toArray, List.set_cons_zero, List.set_cons_succ])))
      (refine wpAnyH_done (by kernel_rfl) ?_ _; refine NoPanic.normal ?_)
      clear hHeld x0 x1
      have q0 : ((w5.setCell ⟨w.heap.size + 1 + 1, 0, none⟩ (.int .i64 (a / 2))).setCell ⟨w.heap.size + 1 + 1, 1, none⟩ (.int .i64 (b / 2))).cell? ⟨w.heap.size + 1 + 1, 0, none⟩ = some (.int .i64 (a / 2)) := by go_simp
      have q1 : ((w5.setCell ⟨w.heap.size + 1 + 1, 0, none⟩ (.int .i64 (a / 2))).setCell ⟨w.heap.size + 1 + 1, 1, none⟩ (.int .i64 (b / 2))).cell? ⟨w.heap.size + 1 + 1, 1, none⟩ = some (.int .i64 (b / 2)) := by go_simp
      go_wp2_with fail
      refine bodyPost_ret (v := .tuple #[GV (a / 2) (b / 2), r, .bool true]) (by simp [results, Try.results175, go_sem, q0, q1]) rfl ?_
      exact ⟨⟨_, rfl, fres_le (fres_cell (fres_cell HR5.out hl0 _) hl0 _) e0.out.size⟩, (e5.out.setCell (p := ⟨w.heap.size + 1 + 1, 0, none⟩) (by simp; omega) _).setCell (p := ⟨w.heap.size + 1 + 1, 1, none⟩) (by simp; omega) _⟩
    | false =>
      have hok : okCoarseField a b xs = false := by unfold okCoarseField; rw [h1, h2]; rfl
      have H2 := Lib.hid h2
      rw [hok]
      clear hok h1 h2 hf
      go_enter Try.func175, Try.ntmps175
      go_wp2_with fail
      generalize ((w.alloc (.cells #[.int .i64 a, .int .i64 b] 27)).alloc (.cells #[.slice a1 xs.length c1] 24)).alloc (.cells #[.int .i64 0, .int .i64 0] 27) = w1 at HG HL HR HB HS ⊢
      refine (iIsField_any a b a1 xs.length c1 _).mono ?_; rw [H1.out]; rintro e w2 ⟨rfl, hb2⟩
      have z := pair_cells ((hb2.block w.heap.size (by have := HS.out; omega)).trans HG.out)
      have z0 := z.1; have z1 := z.2.1
      have HD2 := Lib.hid hb2
      clear hb2 z
      go_wp2_with fail
      refine (iHalved_any a b _ (by have := HA.out; omega) (by have := HA.out; omega)).mono ?_; rw [H2.out]; rintro e w3 ⟨rfl, hb3⟩
      have HD := Lib.hid (HD2.out.trans (hb3.mono HD2.out.size))
      clear hb3 z0 z1
      have y := pair_cells ((HD.out.block (w.heap.size + 1 + 1) (by have := HS.out; omega)).trans HR.out)
      have y0 := y.1; have y1 := y.2.1; have f0 := y.2.2.1; have f1 := y.2.2.2
      clear y
      go_wp2_with fail
      refine bodyPost_ret (v := .tuple #[GV 0 0, .slice none 0 0, .bool false]) (by simp [results, Try.results175, go_sem, y0, y1]) rfl ?_
      have hbw := HB.out.trans (HD.out.mono HB.out.size)
      exact ⟨⟨_, rfl, fres_none _ _ _⟩, (hbw.setCell (p := ⟨w.heap.size + 1 + 1, 0, none⟩) (by simp; omega) _).setCell (p := ⟨w.heap.size + 1 + 1, 1, none⟩) (by simp; omega) _⟩
  · have h1' : fieldOk a b xs.length = false := by simpa using h1
    have H1 := Lib.hid h1'
    have hok : okCoarseField a b xs = false := by unfold okCoarseField; rw [h1']; rfl
    rw [hok]
    clear h1 h1' hok
    go_enter Try.func175, Try.ntmps175
    go_wp2_with fail
    generalize ((w.alloc (.cells #[.int .i64 a, .int .i64 b] 27)).alloc (.cells #[.slice a1 xs.length c1] 24)).alloc (.cells #[.int .i64 0, .int .i64 0] 27) = w1 at HG HL HR HB HS ⊢
    refine (iIsField_any a b a1 xs.length c1 _).mono ?_; rw [H1.out]; rintro e w2 ⟨rfl, hb2⟩
    have HD := Lib.hid hb2
    clear hb2
    have y := pair_cells ((HD.out.block (w.heap.size + 1 + 1) (by have := HS.out; omega)).trans HR.out)
    have y0 := y.1; have y1 := y.2.1; have f0 := y.2.2.1; have f1 := y.2.2.2
    clear y
    go_wp2_with fail
    refine bodyPost_ret (v := .tuple #[GV 0 0, .slice none 0 0, .bool false]) (by simp [results, Try.results175, go_sem, y0, y1]) rfl ?_
    have hbw := HB.out.trans (HD.out.mono HB.out.size)
    exact ⟨⟨_, rfl, fres_none _ _ _⟩, (hbw.setCell (p := ⟨w.heap.size + 1 + 1, 0, none⟩) (by simp; omega) _).setCell (p := ⟨w.heap.size + 1 + 1, 1, none⟩) (by simp; omega) _⟩
end Go.Proofs.Ytjfnecmnofcjbaa
