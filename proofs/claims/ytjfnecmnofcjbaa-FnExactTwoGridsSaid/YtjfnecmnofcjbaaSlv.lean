/-
  SolvePotential, of the program and of the model.
-/
import Derived.Test.YtjfnecmnofcjbaaSlvM
import Derived.Deep.Cut
namespace Go.Proofs.Ytjfnecmnofcjbaa
open Go.Fl Go.RowKit
open Go.Joins (ownsRow_le)
set_option linter.unusedSimpArgs false
set_option linter.unusedVariables false

theorem isRounds_any (n : Int) (w : World) : Calls Try.prog 97 #[.int .i64 n] w fun e w' => e = .returned (.bool (decide (0 ≤ n) && decide (n ≤ 60))) ∧ w = w' := by
  by_cases h : 0 ≤ n
  · go_enter Try.func97, Try.ntmps97
    go_wp2
    go_ret
    exact ⟨by simp [h], rfl⟩
  · go_enter Try.func97, Try.ntmps97
    go_wp2
    go_ret
    exact ⟨by simp; omega, rfl⟩

def okSolvePotential (a b : Int) (zs : List Nat) (r : Int) : Bool := fieldOk a b zs.length && (decide (0 ≤ r) && decide (r ≤ 60))
def lenSolvePotential (a b : Int) (zs : List Nat) (r : Int) : Nat := if okSolvePotential a b zs r then zs.length else 0
theorem lenSolvePotential_le (a b : Int) (zs : List Nat) (r : Int) (h : zs.length ≤ 1048576) : lenSolvePotential a b zs r ≤ 1048576 := by unfold lenSolvePotential; split <;> omega
theorem okSlv_yes {a b : Int} {zs : List Nat} {r : Int} (h1 : fieldOk a b zs.length = true) (hc : (decide (0 ≤ r) && decide (r ≤ 60)) = true) : okSolvePotential a b zs r = true ∧ lenSolvePotential a b zs r = zs.length := by
  have e : okSolvePotential a b zs r = true := by unfold okSolvePotential; rw [h1, hc]; rfl
  exact ⟨e, by unfold lenSolvePotential; rw [if_pos e]⟩
theorem okSlv_no {a b : Int} {zs : List Nat} {r : Int} (h : fieldOk a b zs.length = false ∨ (decide (0 ≤ r) && decide (r ≤ 60)) = false) : okSolvePotential a b zs r = false ∧ lenSolvePotential a b zs r = 0 := by
  have e : okSolvePotential a b zs r = false := by unfold okSolvePotential; rcases h with h | h <;> rw [h] <;> simp
  exact ⟨e, by unfold lenSolvePotential; rw [if_neg (by rw [e]; simp)]⟩

set_option maxHeartbeats 2000000 in
set_option maxRecDepth 100000 in
theorem iSolvePotential_any (a b : Int) (v : Value) (zs : List Nat) (r : Int) (w : World) (hv : FS .f32 w v zs) (hn : zs.length ≤ 1048576) (hr : -9223372036854775808 ≤ r ∧ r ≤ 9223372036854775807) :
    Calls Try.prog 23 #[GV a b, v, .int .i64 r] w fun e w' => (∃ x, e = .returned (.tuple #[x, .bool (okSolvePotential a b zs r)]) ∧ FRes w.heap.size w' x (lenSolvePotential a b zs r) (solveF a b zs r.toNat)) ∧ Below w.heap.size w w' := by
  obtain ⟨i0, hi, hz0, hz1, hz2⟩ := info_parts F32info
  have hb4 : i0.bytes * zs.length ≤ 281474976710656 := by rw [hz2]; omega
  have hml : zs.length ≤ maxLen := by unfold maxLen; omega
  have HI := Lib.hid hi; have HZ0 := Lib.hid hz0; have HZ1 := Lib.hid hz1
  have HU := Lib.hid hv
  obtain ⟨a1, c1, rfl, hlc, hcm, hwf, hmem⟩ := hv
  have HB1 := Lib.hid ((Below.refl w.heap.size w).alloc (Nat.le_refl _) (.cells #[.int .i64 a, .int .i64 b] 27))
  have HG := Lib.hid (heap_alloc_new w (.cells #[.int .i64 a, .int .i64 b] 27))
  clear hi hz0 hz1 hz2 hlc hcm hwf hmem
  obtain ⟨ok, hok⟩ : ∃ ok, okSolvePotential a b zs r = ok := ⟨_, rfl⟩
  obtain ⟨N, hN⟩ : ∃ N, lenSolvePotential a b zs r = N := ⟨_, rfl⟩
  rw [hok, hN]
  have HOK := Lib.hid hok; have HNN := Lib.hid hN
  clear hok hN
  cases h1 : fieldOk a b zs.length with
  | true =>
    have HA := Lib.hid (fieldOk_true h1)
    have hpos : 0 < zs.length := by
      have := HA.out; have h4 : 4 * 4 ≤ a * b := Int.mul_le_mul this.1 this.2.2.1 (by omega) (by omega); omega
    have H1 := Lib.hid h1
    clear h1
    go_enter Try.func23, Try.ntmps23
    go_upto_region 1 with fail
    generalize w.alloc (.cells #[.int .i64 a, .int .i64 b] 27) = w1 at HB1 HG ⊢
    have HG0 := Lib.hid (pair_cells HG.out).1; have HG1 := Lib.hid (pair_cells HG.out).2.1
    have HGS := Lib.hid (Array.getElem?_eq_some_iff.1 HG.out).1
    go_cut [8, 9, 10] from 11 to 18 (fun p o _ wx => ∃ (kb gv capv gl capl : Nat) (ls : List Nat), p = .pointer (some ⟨kb, 0, none⟩) ∧ o = .bool true ∧ Hid (gv ≠ kb) ∧ Hid (gv ≠ gl) ∧ Hid (ls.length = zs.length) ∧ Hid (EqOn ls (lvlF zs) 0 zs.length) ∧ Hid (RW w1.heap.size wx gv capv (List.replicate zs.length 0)) ∧ Hid (RW w1.heap.size wx gl capl ls) ∧ Hid (wx.heap[kb]? = some (.cells #[.int .i64 a, .int .i64 b, .slice (some ⟨gv, 0, none⟩) zs.length capv, .slice (some ⟨gl, 0, none⟩) zs.length capl] 108)) ∧ Hid (wx.heap[w.heap.size]? = some (.cells #[.int .i64 a, .int .i64 b] 27)) ∧ Hid (Below w1.heap.size w1 wx))
    case first =>
      refine wp_region_noPanic ?_
      refine wp_region_held_drew (S := fun w' => w'.cell? ⟨w.heap.size, 0, none⟩ = some (.int .i64 a) ∧ w'.cell? ⟨w.heap.size, 1, none⟩ = some (.int .i64 b)) (by kernel_rfl) ⟨HG0.out, HG1.out⟩ (fun hHeld => ?_)
      have HE0 := Lib.hid (Below.refl w1.heap.size w1).drew
      generalize w1.drew = v0 at HE0 hHeld ⊢
      ((refine wpAnyH_take (i := 0) (v := ?_) rfl (by kernel_rfl) (by kernel_rfl) (by kernel_rfl) (fun _ _ _ h => h) (Or.inl ⟨by rfl, ?_⟩) (by assumption) ?_; rotate_left; (· intro w hSw; (try dsimp only at hSw); go_simp; first | done | with_reducible rfl); (try simp only [List.getElem_toArray, List.getElem_cons_zero, List.getElem_cons_succ, Act.put, List.setIfInBounds_toArray, List.set_cons_zero, List.set_cons_succ])); (refine wpAnyH_take (i := 1) (v := ?_) rfl (by kernel_rfl) (by kernel_rfl) (by kernel_rfl) (fun _ _ _ h => h) (Or.inl ⟨by rfl, ?_⟩) (by assumption) ?_; rotate_left; (· intro w hSw; (try dsimp only at hSw); go_simp; first | done | with_reducible rfl); (try simp only [List.getElem_toArray, List.getElem_cons_zero, List.getElem_cons_succ, Act.put, List.setIfInBounds_toArray, List.set_cons_zero, List.set_cons_succ])); (refine wpAnyH_take (i := 2) (v := ?_) rfl (by kernel_rfl) (by kernel_rfl) (by kernel_rfl) (fun _ _ _ h => h) (Or.inl ⟨by rfl, ?_⟩) (by assumption) ?_; rotate_left; (· intro w hSw; (try dsimp only at hSw); go_simp; first | done | with_reducible rfl); (try simp only [List.getElem_toArray, List.getElem_cons_zero, List.getElem_cons_succ, Act.put, List.setIfInBounds_toArray, List.set_cons_zero, List.set_cons_succ])); (refine wpAnyH_take (i := 4) (v := ?_) rfl (by kernel_rfl) (by kernel_rfl) (by kernel_rfl) (fun _ _ _ h => h) (Or.inl ⟨by rfl, ?_⟩) (by assumption) ?_; rotate_left; (· intro w hSw; (try dsimp only at hSw); go_simp; first | done | with_reducible rfl); (try simp only [List.getElem_toArray, List.getElem_cons_zero, List.getElem_cons_succ, Act.put, List.setIfInBounds_toArray, List.set_cons_zero, List.set_cons_succ])))
      refine wpAnyH_ready (rs := [3, 9]) (by kernel_rfl) (by simp) ?_
      refine (AllReadyH.cons (i := 3) rfl (fun K hK => ?_) (AllReadyH.cons (i := 9) rfl (fun K hK => ?_) AllReadyH.nil))
      · skip
        refine hstep_make rfl _ _ _ rfl w1.heap.size 37 i0 _ Try.underlying24 HI.out HZ0.out HZ1.out _ _ zs.length rfl rfl hb4 hml HE0.out.size ?_
        intro v1 ho hg
        rw [made_zero] at ho
        have HZ1 := Lib.hid (show RW w1.heap.size v1 v0.heap.size zs.length (List.replicate zs.length 0) by show v1.ownsRow _ _ _ (.slice _ (List.replicate zs.length 0).length _) (List.replicate zs.length 0).length _; rw [List.length_replicate]; exact ho)
        have HE1 := Lib.hid (HE0.out.grown hg HE0.out.size (fun q e => by cases e))
        clear ho hg
        generalize v0.heap.size = gz at HZ1 ⊢
        (refine hK.out _ _ (⟨by rw [HE1.out.cell (p := ⟨w.heap.size, 0, none⟩) HGS.out]; exact HG0.out, by rw [HE1.out.cell (p := ⟨w.heap.size, 1, none⟩) HGS.out]; exact HG1.out⟩) (fun hHeld => ?_); clear hK K; (try simp only [List.getElem_toArray, List.getElem_cons_zero, List.getElem_cons_succ, Act.put, List.setIfInBounds_toArray, List.set_cons_zero, List.set_cons_succ]))
        refine wpAnyH_ready (rs := [5, 9]) (by kernel_rfl) (by simp) ?_
        refine (AllReadyH.cons (i := 5) rfl (fun K hK => ?_) (AllReadyH.cons (i := 9) rfl (fun K hK => ?_) AllReadyH.nil))
        · skip
          go_simp
          have hfs := HZ1.out.fs (zeros_lt _)
          rw [List.length_replicate] at hfs
          have hvs := (HU.out.below HB1.out).below HE1.out
          refine (newBoard_yes a b _ _ (List.replicate zs.length 0) zs _ hfs hvs (by rw [List.length_replicate]; exact H1.out) H1.out).mono ?_; rintro e v2 ⟨⟨p, q, rfl, hp, hq, hqp, hpq⟩, hb⟩
          obtain ⟨gv, capv, rfl, hrv⟩ := RW.of hp (by rw [List.length_replicate]; exact hpos)
          obtain ⟨gl, capl, ls, rfl, hlsl, hlse, hlso⟩ := fres_row hq hpos
          have hrl : RW v1.heap.size v2 gl capl ls := by show v2.ownsRow _ _ _ (.slice _ ls.length _) ls.length _; rw [hlsl]; exact hlso
          have HNE := Lib.hid (show gv ≠ gl by
            rcases hpq with h | h
            · cases h
            · exact fun e => h (by rw [e]; rfl))
          have HLS := Lib.hid hlsl; have HLE := Lib.hid hlse
          have HV2 := Lib.hid (hrv.le HE1.out.size); have HL2 := Lib.hid (hrl.le HE1.out.size)
          rw [List.length_replicate]
          have HE2 := Lib.hid (HE1.out.trans (hb.mono HE1.out.size))
          clear hfs hvs hb hp hq hqp hpq hrv hrl hlsl hlse hlso
          go_wp2_with fail
          (refine hK.out _ _ (⟨by rw [HE2.out.cell (p := ⟨w.heap.size, 0, none⟩) HGS.out]; exact HG0.out, by rw [HE2.out.cell (p := ⟨w.heap.size, 1, none⟩) HGS.out]; exact HG1.out⟩) (fun hHeld => ?_); clear hK K; (try simp only [List.getElem_toArray, List.getElem_cons_zero, List.getElem_cons_succ, Act.put, List.setIfInBounds_toArray, List.set_cons_zero, List.set_cons_succ]))
          ((refine wpAnyH_take (i := 6) (v := ?_) rfl (by kernel_rfl) (by kernel_rfl) (by kernel_rfl) (fun _ _ _ h => h) (Or.inl ⟨by rfl, ?_⟩) (by assumption) ?_; rotate_left; (· intro w hSw; (try dsimp only at hSw); go_simp; first | done | with_reducible rfl); (try simp only [List.getElem_toArray, List.getElem_cons_zero, List.getElem_cons_succ, Act.put, List.setIfInBounds_toArray, List.set_cons_zero, List.set_cons_succ])); (refine wpAnyH_take (i := 7) (v := ?_) rfl (by kernel_rfl) (by kernel_rfl) (by kernel_rfl) (fun _ _ _ h => h) (Or.inl ⟨by rfl, ?_⟩) (by assumption) ?_; rotate_left; (· intro w hSw; (try dsimp only at hSw); go_simp; first | done | with_reducible rfl); (try simp only [List.getElem_toArray, List.getElem_cons_zero, List.getElem_cons_succ, Act.put, List.setIfInBounds_toArray, List.set_cons_zero, List.set_cons_succ])); (refine wpAnyH_take (i := 8) (v := ?_) rfl (by kernel_rfl) (by kernel_rfl) (by kernel_rfl) (fun _ _ _ h => h) (Or.inl ⟨by rfl, ?_⟩) (by assumption) ?_; rotate_left; (· intro w hSw; (try dsimp only at hSw); go_simp; first | done | with_reducible rfl); (try simp only [List.getElem_toArray, List.getElem_cons_zero, List.getElem_cons_succ, Act.put, List.setIfInBounds_toArray, List.set_cons_zero, List.set_cons_succ])))
          refine wpAnyH_ready (rs := [9]) (by kernel_rfl) (by simp) ?_
          refine (AllReadyH.cons (i := 9) rfl (fun K hK => ?_) AllReadyH.nil)
          go_simp
          go_wp2_with fail
          have hb := (Below.refl v2.heap.size v2).alloc (Nat.le_refl _) (.cells #[.int .i64 0, .int .i64 0, .slice none 0 0, .slice none 0 0] 108)
          have HE3 := Lib.hid (HE2.out.trans (hb.mono HE2.out.size))
          have HA3 := Lib.hid (And.intro (heap_alloc_new v2 (.cells #[.int .i64 0, .int .i64 0, .slice none 0 0, .slice none 0 0] 108)) (And.intro HE2.out.size (show v2.heap.size < (v2.alloc (.cells #[.int .i64 0, .int .i64 0, .slice none 0 0, .slice none 0 0] 108)).heap.size by simp)))
          have HNV := Lib.hid (show gv ≠ v2.heap.size by have := (HV2.out.lt gv rfl).2; omega); have HNL := Lib.hid (show gl ≠ v2.heap.size by have := (HL2.out.lt gl rfl).2; omega)
          have HV3 := Lib.hid (HV2.out.still hb); have HL3 := Lib.hid (HL2.out.still hb)
          clear hb
          generalize v2.alloc (.cells #[.int .i64 0, .int .i64 0, .slice none 0 0, .slice none 0 0] 108) = v3 at HE3 HA3 HV3 HL3 ⊢
          generalize v2.heap.size = kb at HA3 HNV HNL ⊢
          (refine hK.out _ _ (⟨by rw [HE3.out.cell (p := ⟨w.heap.size, 0, none⟩) HGS.out]; exact HG0.out, by rw [HE3.out.cell (p := ⟨w.heap.size, 1, none⟩) HGS.out]; exact HG1.out⟩) (fun hHeld => ?_); clear hK K; (try simp only [List.getElem_toArray, List.getElem_cons_zero, List.getElem_cons_succ, Act.put, List.setIfInBounds_toArray, List.set_cons_zero, List.set_cons_succ]))
          have yy := four_cells HA3.out.1
          have y0 := yy.1; have y1 := yy.2.1; have y2 := yy.2.2.1; have y3 := yy.2.2.2.1
          have f0 := yy.2.2.2.2.1; have f1 := yy.2.2.2.2.2.1; have f2 := yy.2.2.2.2.2.2.1; have f3 := yy.2.2.2.2.2.2.2
          clear yy
          have HX9 := Lib.hid (show ((((v3.setCell ⟨kb, 0, none⟩ (.int .i64 a)).setCell ⟨kb, 1, none⟩ (.int .i64 b)).setCell ⟨kb, 2, none⟩ (.slice (some ⟨gv, 0, none⟩) zs.length capv)).setCell ⟨kb, 3, none⟩ (.slice (some ⟨gl, 0, none⟩) zs.length capl)).heap[kb]? = some (.cells #[.int .i64 a, .int .i64 b, .slice (some ⟨gv, 0, none⟩) zs.length capv, .slice (some ⟨gl, 0, none⟩) zs.length capl] 108) from heap_setCell_same _ kb 3 _ _ _ (heap_setCell_same _ kb 2 _ _ _ (heap_setCell_same _ kb 1 _ _ _ (heap_setCell_same v3 kb 0 _ _ _ HA3.out.1))))
          have GG9 := Lib.hid (show v3.grownBy ((((v3.setCell ⟨kb, 0, none⟩ (.int .i64 a)).setCell ⟨kb, 1, none⟩ (.int .i64 b)).setCell ⟨kb, 2, none⟩ (.slice (some ⟨gv, 0, none⟩) zs.length capv)).setCell ⟨kb, 3, none⟩ (.slice (some ⟨gl, 0, none⟩) zs.length capl)) (some kb) from grown_trans (grown_trans (grown_trans (grown_cell v3 ⟨kb, 0, none⟩ _) (grown_cell _ ⟨kb, 1, none⟩ _)) (grown_cell _ ⟨kb, 2, none⟩ _)) (grown_cell _ ⟨kb, 3, none⟩ _))
          have HE9 := Lib.hid (HE3.out.grown GG9.out HE3.out.size (fun q e => by cases e; exact HA3.out.2.1))
          have HV9 := Lib.hid (HV3.out.other GG9.out HNV.out); have HL9 := Lib.hid (HL3.out.other GG9.out HNL.out)
          (refine wpAnyH_ready (rs := [10]) (by kernel_rfl) (by simp) ?_; refine AllReadyH.cons (i := 10) rfl (fun K hK => ?_) AllReadyH.nil)
          go_simp
          generalize ((((v3.setCell ⟨kb, 0, none⟩ (.int .i64 a)).setCell ⟨kb, 1, none⟩ (.int .i64 b)).setCell ⟨kb, 2, none⟩ (.slice (some ⟨gv, 0, none⟩) zs.length capv)).setCell ⟨kb, 3, none⟩ (.slice (some ⟨gl, 0, none⟩) zs.length capl)) = w9 at HX9 GG9 HE9 HV9 HL9 ⊢
          clear y0 y1 y2 y3 f0 f1 f2 f3
          (refine hK.out _ _ (⟨by rw [HE9.out.cell (p := ⟨w.heap.size, 0, none⟩) HGS.out]; exact HG0.out, by rw [HE9.out.cell (p := ⟨w.heap.size, 1, none⟩) HGS.out]; exact HG1.out⟩) (fun hHeld => ?_); clear hK K; (try simp only [List.getElem_toArray, List.getElem_cons_zero, List.getElem_cons_succ, Act.put, List.setIfInBounds_toArray, List.set_cons_zero, List.set_cons_succ]))
          ((refine wpAnyH_take (i := 11) (v := ?_) rfl (by kernel_rfl) (by kernel_rfl) (by kernel_rfl) (fun _ _ _ h => h) (Or.inl ⟨by rfl, ?_⟩) (by assumption) ?_; rotate_left; (· intro w hSw; (try dsimp only at hSw); go_simp; first | done | with_reducible rfl); (try simp only [List.getElem_toArray, List.getElem_cons_zero, List.getElem_cons_succ, Act.put, List.setIfInBounds_toArray, List.set_cons_zero, List.set_cons_succ])))
          (refine wpAnyH_done (by kernel_rfl) ?_ _; refine NoPanic.normal ?_)
          clear hHeld
          go_wp2_with fail
          go_meet
          case rel => exact ⟨kb, gv, capv, gl, capl, ls, rfl, rfl, HNV, HNE, HLS, HLE, HV9, HL9, HX9, Lib.hid (show w9.heap[w.heap.size]? = _ from (HE9.out.block w.heap.size HGS.out).trans HG.out), HE9⟩
        · skip
          go_simp
          go_wp2_with fail
          have hb := (Below.refl v1.heap.size v1).alloc (Nat.le_refl _) (.cells #[.int .i64 0, .int .i64 0, .slice none 0 0, .slice none 0 0] 108)
          have HE2 := Lib.hid (HE1.out.trans (hb.mono HE1.out.size))
          have HA2 := Lib.hid (And.intro (heap_alloc_new v1 (.cells #[.int .i64 0, .int .i64 0, .slice none 0 0, .slice none 0 0] 108)) (And.intro HE1.out.size (show v1.heap.size < (v1.alloc (.cells #[.int .i64 0, .int .i64 0, .slice none 0 0, .slice none 0 0] 108)).heap.size by simp)))
          have HZ2 := Lib.hid (HZ1.out.still hb)
          clear hb
          generalize v1.alloc (.cells #[.int .i64 0, .int .i64 0, .slice none 0 0, .slice none 0 0] 108) = v2 at HE2 HA2 HZ2 ⊢
          generalize v1.heap.size = kb at HA2 ⊢
          (refine hK.out _ _ (⟨by rw [HE2.out.cell (p := ⟨w.heap.size, 0, none⟩) HGS.out]; exact HG0.out, by rw [HE2.out.cell (p := ⟨w.heap.size, 1, none⟩) HGS.out]; exact HG1.out⟩) (fun hHeld => ?_); clear hK K; (try simp only [List.getElem_toArray, List.getElem_cons_zero, List.getElem_cons_succ, Act.put, List.setIfInBounds_toArray, List.set_cons_zero, List.set_cons_succ]))
          refine wpAnyH_ready (rs := [5]) (by kernel_rfl) (by simp) ?_
          refine (AllReadyH.cons (i := 5) rfl (fun K hK => ?_) AllReadyH.nil)
          go_simp
          have hfs := HZ2.out.fs (zeros_lt _)
          rw [List.length_replicate] at hfs
          have hvs := (HU.out.below HB1.out).below HE2.out
          refine (newBoard_yes a b _ _ (List.replicate zs.length 0) zs _ hfs hvs (by rw [List.length_replicate]; exact H1.out) H1.out).mono ?_; rintro e v3 ⟨⟨p, q, rfl, hp, hq, hqp, hpq⟩, hb⟩
          obtain ⟨gv, capv, rfl, hrv⟩ := RW.of hp (by rw [List.length_replicate]; exact hpos)
          obtain ⟨gl, capl, ls, rfl, hlsl, hlse, hlso⟩ := fres_row hq hpos
          have hrl : RW v2.heap.size v3 gl capl ls := by show v3.ownsRow _ _ _ (.slice _ ls.length _) ls.length _; rw [hlsl]; exact hlso
          have HNE := Lib.hid (show gv ≠ gl by
            rcases hpq with h | h
            · cases h
            · exact fun e => h (by rw [e]; rfl))
          have HLS := Lib.hid hlsl; have HLE := Lib.hid hlse
          have HV3 := Lib.hid (hrv.le HE2.out.size); have HL3 := Lib.hid (hrl.le HE2.out.size)
          have HNV := Lib.hid (show gv ≠ kb by have := (hrv.lt gv rfl).1; have := HA2.out.2.2; omega); have HNL := Lib.hid (show gl ≠ kb by have := (hrl.lt gl rfl).1; have := HA2.out.2.2; omega)
          rw [List.length_replicate]
          have HE3 := Lib.hid (HE2.out.trans (hb.mono HE2.out.size))
          have HA3 := Lib.hid (And.intro ((hb.block kb HA2.out.2.2).trans HA2.out.1) (And.intro HA2.out.2.1 (Nat.lt_of_lt_of_le HA2.out.2.2 hb.size)))
          clear hfs hvs hb hp hq hqp hpq hrv hrl hlsl hlse hlso
          go_wp2_with fail
          (refine hK.out _ _ (⟨by rw [HE3.out.cell (p := ⟨w.heap.size, 0, none⟩) HGS.out]; exact HG0.out, by rw [HE3.out.cell (p := ⟨w.heap.size, 1, none⟩) HGS.out]; exact HG1.out⟩) (fun hHeld => ?_); clear hK K; (try simp only [List.getElem_toArray, List.getElem_cons_zero, List.getElem_cons_succ, Act.put, List.setIfInBounds_toArray, List.set_cons_zero, List.set_cons_succ]))
          ((refine wpAnyH_take (i := 6) (v := ?_) rfl (by kernel_rfl) (by kernel_rfl) (by kernel_rfl) (fun _ _ _ h => h) (Or.inl ⟨by rfl, ?_⟩) (by assumption) ?_; rotate_left; (· intro w hSw; (try dsimp only at hSw); go_simp; first | done | with_reducible rfl); (try simp only [List.getElem_toArray, List.getElem_cons_zero, List.getElem_cons_succ, Act.put, List.setIfInBounds_toArray, List.set_cons_zero, List.set_cons_succ])); (refine wpAnyH_take (i := 7) (v := ?_) rfl (by kernel_rfl) (by kernel_rfl) (by kernel_rfl) (fun _ _ _ h => h) (Or.inl ⟨by rfl, ?_⟩) (by assumption) ?_; rotate_left; (· intro w hSw; (try dsimp only at hSw); go_simp; first | done | with_reducible rfl); (try simp only [List.getElem_toArray, List.getElem_cons_zero, List.getElem_cons_succ, Act.put, List.setIfInBounds_toArray, List.set_cons_zero, List.set_cons_succ])); (refine wpAnyH_take (i := 8) (v := ?_) rfl (by kernel_rfl) (by kernel_rfl) (by kernel_rfl) (fun _ _ _ h => h) (Or.inl ⟨by rfl, ?_⟩) (by assumption) ?_; rotate_left; (· intro w hSw; (try dsimp only at hSw); go_simp; first | done | with_reducible rfl); (try simp only [List.getElem_toArray, List.getElem_cons_zero, List.getElem_cons_succ, Act.put, List.setIfInBounds_toArray, List.set_cons_zero, List.set_cons_succ])))
          have yy := four_cells HA3.out.1
          have y0 := yy.1; have y1 := yy.2.1; have y2 := yy.2.2.1; have y3 := yy.2.2.2.1
          have f0 := yy.2.2.2.2.1; have f1 := yy.2.2.2.2.2.1; have f2 := yy.2.2.2.2.2.2.1; have f3 := yy.2.2.2.2.2.2.2
          clear yy
          have HX9 := Lib.hid (show ((((v3.setCell ⟨kb, 0, none⟩ (.int .i64 a)).setCell ⟨kb, 1, none⟩ (.int .i64 b)).setCell ⟨kb, 2, none⟩ (.slice (some ⟨gv, 0, none⟩) zs.length capv)).setCell ⟨kb, 3, none⟩ (.slice (some ⟨gl, 0, none⟩) zs.length capl)).heap[kb]? = some (.cells #[.int .i64 a, .int .i64 b, .slice (some ⟨gv, 0, none⟩) zs.length capv, .slice (some ⟨gl, 0, none⟩) zs.length capl] 108) from heap_setCell_same _ kb 3 _ _ _ (heap_setCell_same _ kb 2 _ _ _ (heap_setCell_same _ kb 1 _ _ _ (heap_setCell_same v3 kb 0 _ _ _ HA3.out.1))))
          have GG9 := Lib.hid (show v3.grownBy ((((v3.setCell ⟨kb, 0, none⟩ (.int .i64 a)).setCell ⟨kb, 1, none⟩ (.int .i64 b)).setCell ⟨kb, 2, none⟩ (.slice (some ⟨gv, 0, none⟩) zs.length capv)).setCell ⟨kb, 3, none⟩ (.slice (some ⟨gl, 0, none⟩) zs.length capl)) (some kb) from grown_trans (grown_trans (grown_trans (grown_cell v3 ⟨kb, 0, none⟩ _) (grown_cell _ ⟨kb, 1, none⟩ _)) (grown_cell _ ⟨kb, 2, none⟩ _)) (grown_cell _ ⟨kb, 3, none⟩ _))
          have HE9 := Lib.hid (HE3.out.grown GG9.out HE3.out.size (fun q e => by cases e; exact HA3.out.2.1))
          have HV9 := Lib.hid (HV3.out.other GG9.out HNV.out); have HL9 := Lib.hid (HL3.out.other GG9.out HNL.out)
          (refine wpAnyH_ready (rs := [10]) (by kernel_rfl) (by simp) ?_; refine AllReadyH.cons (i := 10) rfl (fun K hK => ?_) AllReadyH.nil)
          go_simp
          generalize ((((v3.setCell ⟨kb, 0, none⟩ (.int .i64 a)).setCell ⟨kb, 1, none⟩ (.int .i64 b)).setCell ⟨kb, 2, none⟩ (.slice (some ⟨gv, 0, none⟩) zs.length capv)).setCell ⟨kb, 3, none⟩ (.slice (some ⟨gl, 0, none⟩) zs.length capl)) = w9 at HX9 GG9 HE9 HV9 HL9 ⊢
          clear y0 y1 y2 y3 f0 f1 f2 f3
          (refine hK.out _ _ (⟨by rw [HE9.out.cell (p := ⟨w.heap.size, 0, none⟩) HGS.out]; exact HG0.out, by rw [HE9.out.cell (p := ⟨w.heap.size, 1, none⟩) HGS.out]; exact HG1.out⟩) (fun hHeld => ?_); clear hK K; (try simp only [List.getElem_toArray, List.getElem_cons_zero, List.getElem_cons_succ, Act.put, List.setIfInBounds_toArray, List.set_cons_zero, List.set_cons_succ]))
          ((refine wpAnyH_take (i := 11) (v := ?_) rfl (by kernel_rfl) (by kernel_rfl) (by kernel_rfl) (fun _ _ _ h => h) (Or.inl ⟨by rfl, ?_⟩) (by assumption) ?_; rotate_left; (· intro w hSw; (try dsimp only at hSw); go_simp; first | done | with_reducible rfl); (try simp only [List.getElem_toArray, List.getElem_cons_zero, List.getElem_cons_succ, Act.put, List.setIfInBounds_toArray, List.set_cons_zero, List.set_cons_succ])))
          (refine wpAnyH_done (by kernel_rfl) ?_ _; refine NoPanic.normal ?_)
          clear hHeld
          go_wp2_with fail
          go_meet
          case rel => exact ⟨kb, gv, capv, gl, capl, ls, rfl, rfl, HNV, HNE, HLS, HLE, HV9, HL9, HX9, Lib.hid (show w9.heap[w.heap.size]? = _ from (HE9.out.block w.heap.size HGS.out).trans HG.out), HE9⟩
      · skip
        go_simp
        go_wp2_with fail
        have hb := (Below.refl v0.heap.size v0).alloc (Nat.le_refl _) (.cells #[.int .i64 0, .int .i64 0, .slice none 0 0, .slice none 0 0] 108)
        have HE1 := Lib.hid (HE0.out.trans (hb.mono HE0.out.size))
        have HA1 := Lib.hid (And.intro (heap_alloc_new v0 (.cells #[.int .i64 0, .int .i64 0, .slice none 0 0, .slice none 0 0] 108)) (And.intro HE0.out.size (show v0.heap.size < (v0.alloc (.cells #[.int .i64 0, .int .i64 0, .slice none 0 0, .slice none 0 0] 108)).heap.size by simp)))
        clear hb
        generalize v0.alloc (.cells #[.int .i64 0, .int .i64 0, .slice none 0 0, .slice none 0 0] 108) = v1 at HE1 HA1 ⊢
        generalize v0.heap.size = kb at HA1 ⊢
        (refine hK.out _ _ (⟨by rw [HE1.out.cell (p := ⟨w.heap.size, 0, none⟩) HGS.out]; exact HG0.out, by rw [HE1.out.cell (p := ⟨w.heap.size, 1, none⟩) HGS.out]; exact HG1.out⟩) (fun hHeld => ?_); clear hK K; (try simp only [List.getElem_toArray, List.getElem_cons_zero, List.getElem_cons_succ, Act.put, List.setIfInBounds_toArray, List.set_cons_zero, List.set_cons_succ]))
        refine wpAnyH_ready (rs := [3]) (by kernel_rfl) (by simp) ?_
        refine (AllReadyH.cons (i := 3) rfl (fun K hK => ?_) AllReadyH.nil)
        refine hstep_make rfl _ _ _ rfl w1.heap.size 37 i0 _ Try.underlying24 HI.out HZ0.out HZ1.out _ _ zs.length rfl rfl hb4 hml HE1.out.size ?_
        intro v2 ho hg
        rw [made_zero] at ho
        have HZ2 := Lib.hid (show RW w1.heap.size v2 v1.heap.size zs.length (List.replicate zs.length 0) by show v2.ownsRow _ _ _ (.slice _ (List.replicate zs.length 0).length _) (List.replicate zs.length 0).length _; rw [List.length_replicate]; exact ho)
        have HE2 := Lib.hid (HE1.out.grown hg HE1.out.size (fun q e => by cases e))
        have HA2 := Lib.hid (And.intro ((hg.block kb HA1.out.2.2 (by simp)).trans HA1.out.1) (And.intro HA1.out.2.1 (Nat.lt_of_lt_of_le HA1.out.2.2 hg.size)))
        clear ho hg
        generalize v1.heap.size = gz at HZ2 ⊢
        (refine hK.out _ _ (⟨by rw [HE2.out.cell (p := ⟨w.heap.size, 0, none⟩) HGS.out]; exact HG0.out, by rw [HE2.out.cell (p := ⟨w.heap.size, 1, none⟩) HGS.out]; exact HG1.out⟩) (fun hHeld => ?_); clear hK K; (try simp only [List.getElem_toArray, List.getElem_cons_zero, List.getElem_cons_succ, Act.put, List.setIfInBounds_toArray, List.set_cons_zero, List.set_cons_succ]))
        refine wpAnyH_ready (rs := [5]) (by kernel_rfl) (by simp) ?_
        refine (AllReadyH.cons (i := 5) rfl (fun K hK => ?_) AllReadyH.nil)
        go_simp
        have hfs := HZ2.out.fs (zeros_lt _)
        rw [List.length_replicate] at hfs
        have hvs := (HU.out.below HB1.out).below HE2.out
        refine (newBoard_yes a b _ _ (List.replicate zs.length 0) zs _ hfs hvs (by rw [List.length_replicate]; exact H1.out) H1.out).mono ?_; rintro e v3 ⟨⟨p, q, rfl, hp, hq, hqp, hpq⟩, hb⟩
        obtain ⟨gv, capv, rfl, hrv⟩ := RW.of hp (by rw [List.length_replicate]; exact hpos)
        obtain ⟨gl, capl, ls, rfl, hlsl, hlse, hlso⟩ := fres_row hq hpos
        have hrl : RW v2.heap.size v3 gl capl ls := by show v3.ownsRow _ _ _ (.slice _ ls.length _) ls.length _; rw [hlsl]; exact hlso
        have HNE := Lib.hid (show gv ≠ gl by
          rcases hpq with h | h
          · cases h
          · exact fun e => h (by rw [e]; rfl))
        have HLS := Lib.hid hlsl; have HLE := Lib.hid hlse
        have HV3 := Lib.hid (hrv.le HE2.out.size); have HL3 := Lib.hid (hrl.le HE2.out.size)
        have HNV := Lib.hid (show gv ≠ kb by have := (hrv.lt gv rfl).1; have := HA2.out.2.2; omega); have HNL := Lib.hid (show gl ≠ kb by have := (hrl.lt gl rfl).1; have := HA2.out.2.2; omega)
        rw [List.length_replicate]
        have HE3 := Lib.hid (HE2.out.trans (hb.mono HE2.out.size))
        have HA3 := Lib.hid (And.intro ((hb.block kb HA2.out.2.2).trans HA2.out.1) (And.intro HA2.out.2.1 (Nat.lt_of_lt_of_le HA2.out.2.2 hb.size)))
        clear hfs hvs hb hp hq hqp hpq hrv hrl hlsl hlse hlso
        go_wp2_with fail
        (refine hK.out _ _ (⟨by rw [HE3.out.cell (p := ⟨w.heap.size, 0, none⟩) HGS.out]; exact HG0.out, by rw [HE3.out.cell (p := ⟨w.heap.size, 1, none⟩) HGS.out]; exact HG1.out⟩) (fun hHeld => ?_); clear hK K; (try simp only [List.getElem_toArray, List.getElem_cons_zero, List.getElem_cons_succ, Act.put, List.setIfInBounds_toArray, List.set_cons_zero, List.set_cons_succ]))
        ((refine wpAnyH_take (i := 6) (v := ?_) rfl (by kernel_rfl) (by kernel_rfl) (by kernel_rfl) (fun _ _ _ h => h) (Or.inl ⟨by rfl, ?_⟩) (by assumption) ?_; rotate_left; (· intro w hSw; (try dsimp only at hSw); go_simp; first | done | with_reducible rfl); (try simp only [List.getElem_toArray, List.getElem_cons_zero, List.getElem_cons_succ, Act.put, List.setIfInBounds_toArray, List.set_cons_zero, List.set_cons_succ])); (refine wpAnyH_take (i := 7) (v := ?_) rfl (by kernel_rfl) (by kernel_rfl) (by kernel_rfl) (fun _ _ _ h => h) (Or.inl ⟨by rfl, ?_⟩) (by assumption) ?_; rotate_left; (· intro w hSw; (try dsimp only at hSw); go_simp; first | done | with_reducible rfl); (try simp only [List.getElem_toArray, List.getElem_cons_zero, List.getElem_cons_succ, Act.put, List.setIfInBounds_toArray, List.set_cons_zero, List.set_cons_succ])); (refine wpAnyH_take (i := 8) (v := ?_) rfl (by kernel_rfl) (by kernel_rfl) (by kernel_rfl) (fun _ _ _ h => h) (Or.inl ⟨by rfl, ?_⟩) (by assumption) ?_; rotate_left; (· intro w hSw; (try dsimp only at hSw); go_simp; first | done | with_reducible rfl); (try simp only [List.getElem_toArray, List.getElem_cons_zero, List.getElem_cons_succ, Act.put, List.setIfInBounds_toArray, List.set_cons_zero, List.set_cons_succ])))
        have yy := four_cells HA3.out.1
        have y0 := yy.1; have y1 := yy.2.1; have y2 := yy.2.2.1; have y3 := yy.2.2.2.1
        have f0 := yy.2.2.2.2.1; have f1 := yy.2.2.2.2.2.1; have f2 := yy.2.2.2.2.2.2.1; have f3 := yy.2.2.2.2.2.2.2
        clear yy
        have HX9 := Lib.hid (show ((((v3.setCell ⟨kb, 0, none⟩ (.int .i64 a)).setCell ⟨kb, 1, none⟩ (.int .i64 b)).setCell ⟨kb, 2, none⟩ (.slice (some ⟨gv, 0, none⟩) zs.length capv)).setCell ⟨kb, 3, none⟩ (.slice (some ⟨gl, 0, none⟩) zs.length capl)).heap[kb]? = some (.cells #[.int .i64 a, .int .i64 b, .slice (some ⟨gv, 0, none⟩) zs.length capv, .slice (some ⟨gl, 0, none⟩) zs.length capl] 108) from heap_setCell_same _ kb 3 _ _ _ (heap_setCell_same _ kb 2 _ _ _ (heap_setCell_same _ kb 1 _ _ _ (heap_setCell_same v3 kb 0 _ _ _ HA3.out.1))))
        have GG9 := Lib.hid (show v3.grownBy ((((v3.setCell ⟨kb, 0, none⟩ (.int .i64 a)).setCell ⟨kb, 1, none⟩ (.int .i64 b)).setCell ⟨kb, 2, none⟩ (.slice (some ⟨gv, 0, none⟩) zs.length capv)).setCell ⟨kb, 3, none⟩ (.slice (some ⟨gl, 0, none⟩) zs.length capl)) (some kb) from grown_trans (grown_trans (grown_trans (grown_cell v3 ⟨kb, 0, none⟩ _) (grown_cell _ ⟨kb, 1, none⟩ _)) (grown_cell _ ⟨kb, 2, none⟩ _)) (grown_cell _ ⟨kb, 3, none⟩ _))
        have HE9 := Lib.hid (HE3.out.grown GG9.out HE3.out.size (fun q e => by cases e; exact HA3.out.2.1))
        have HV9 := Lib.hid (HV3.out.other GG9.out HNV.out); have HL9 := Lib.hid (HL3.out.other GG9.out HNL.out)
        (refine wpAnyH_ready (rs := [10]) (by kernel_rfl) (by simp) ?_; refine AllReadyH.cons (i := 10) rfl (fun K hK => ?_) AllReadyH.nil)
        go_simp
        generalize ((((v3.setCell ⟨kb, 0, none⟩ (.int .i64 a)).setCell ⟨kb, 1, none⟩ (.int .i64 b)).setCell ⟨kb, 2, none⟩ (.slice (some ⟨gv, 0, none⟩) zs.length capv)).setCell ⟨kb, 3, none⟩ (.slice (some ⟨gl, 0, none⟩) zs.length capl)) = w9 at HX9 GG9 HE9 HV9 HL9 ⊢
        clear y0 y1 y2 y3 f0 f1 f2 f3
        (refine hK.out _ _ (⟨by rw [HE9.out.cell (p := ⟨w.heap.size, 0, none⟩) HGS.out]; exact HG0.out, by rw [HE9.out.cell (p := ⟨w.heap.size, 1, none⟩) HGS.out]; exact HG1.out⟩) (fun hHeld => ?_); clear hK K; (try simp only [List.getElem_toArray, List.getElem_cons_zero, List.getElem_cons_succ, Act.put, List.setIfInBounds_toArray, List.set_cons_zero, List.set_cons_succ]))
        ((refine wpAnyH_take (i := 11) (v := ?_) rfl (by kernel_rfl) (by kernel_rfl) (by kernel_rfl) (fun _ _ _ h => h) (Or.inl ⟨by rfl, ?_⟩) (by assumption) ?_; rotate_left; (· intro w hSw; (try dsimp only at hSw); go_simp; first | done | with_reducible rfl); (try simp only [List.getElem_toArray, List.getElem_cons_zero, List.getElem_cons_succ, Act.put, List.setIfInBounds_toArray, List.set_cons_zero, List.set_cons_succ])))
        (refine wpAnyH_done (by kernel_rfl) ?_ _; refine NoPanic.normal ?_)
        clear hHeld
        go_wp2_with fail
        go_meet
        case rel => exact ⟨kb, gv, capv, gl, capl, ls, rfl, rfl, HNV, HNE, HLS, HLE, HV9, HL9, HX9, Lib.hid (show w9.heap[w.heap.size]? = _ from (HE9.out.block w.heap.size HGS.out).trans HG.out), HE9⟩
    case rest =>
    obtain ⟨kb, gv, capv, gl, capl, ls, rfl, rfl, HNV, HNE, HLS, HLE, HRV, HRL, HX, HGW, HE⟩ := hcut
    clear hb4 hml HI HZ0 HZ1
    have HWL := Lib.hid (show ∀ x ∈ ls, x < 2 ^ FloatKind.f32.format.width from (EqOn.eqs HLE.out HLS.out).lt)
    cases hc2 : (decide (0 ≤ r) && decide (r ≤ 60)) with
    | true =>
      have HC := Lib.hid hc2
      obtain ⟨R, hR, hR2⟩ : ∃ R : Nat, r = (R : Int) ∧ R ≤ 60 := by
        rw [Bool.and_eq_true, decide_eq_true_iff, decide_eq_true_iff] at hc2
        exact ⟨r.toNat, by omega, by omega⟩
      subst hR
      have HR2 := Lib.hid hR2
      clear hc2 hr hR2
      go_wp2_with fail
      refine (isRounds_any _ _).mono ?_; rw [HC.out]; rintro e w' ⟨rfl, rfl⟩
      have k0 := (four_cells HX.out).1; have k1 := (four_cells HX.out).2.1; have k2 := (four_cells HX.out).2.2.1; have k3 := (four_cells HX.out).2.2.2.1
      go_wp2_with fail
      have hh := makeRounds_any a b R gv capv gl capl (List.replicate zs.length 0) ls w1.heap.size _ HR2.out HRV.out HRL.out HNE.out (by rw [List.length_replicate]; exact H1.out) (by rw [List.length_replicate]; exact HLS.out) (zeros_lt _) HWL.out
      rw [List.length_replicate] at hh
      refine hh.mono ?_; clear hh; rintro e w4 ⟨⟨es, rfl, hel, hew, hee, hve, _⟩, hg⟩
      have HVE := Lib.hid hve; have HEL := Lib.hid hel; have HEW := Lib.hid hew
      have HEE := Lib.hid (solveF_of H1.out HLE.out hel hee)
      have HX4 := Lib.hid ((hg.block kb (Array.getElem?_eq_some_iff.1 HX.out).1 (fun e => HNV.out (Option.some.inj e).symm)).trans HX.out)
      have HGV := Lib.hid (HRV.out.lt gv rfl)
      have HG4 := Lib.hid ((hg.block w.heap.size (Array.getElem?_eq_some_iff.1 HGW.out).1 (fun e => by have h1 := HGV.out.1; have h2 := HGS.out; have h3 := Option.some.inj e; omega)).trans HGW.out)
      have HD4 := Lib.hid (HE.out.grown hg HE.out.size (fun k e => by cases e; exact HGV.out.1))
      clear k0 k1 k2 k3 hel hew hee hve hg
      have k0 := (four_cells HX4.out).1; have k1 := (four_cells HX4.out).2.1; have k2 := (four_cells HX4.out).2.2.1; have k3 := (four_cells HX4.out).2.2.2.1
      have g0 := (pair_cells HG4.out).1; have g1 := (pair_cells HG4.out).2.1
      go_wp2_with fail
      have hfs := HVE.out.fs HEW.out
      rw [HEL.out] at hfs
      refine (iWithoutMean_yes a b _ es _ hfs (by show fieldOk a b es.length = true; rw [HEL.out]; exact H1.out)).mono ?_; rintro e w7 ⟨⟨q, rfl, hq⟩, hb7⟩
      rw [HEL.out] at hq
      have HBB := Lib.hid (HB1.out.trans (HD4.out.mono HB1.out.size))
      have HQ := Lib.hid ((fres_le hq HBB.out.size).congr HEE.out)
      have HD7 := Lib.hid (HBB.out.trans (hb7.mono HBB.out.size))
      clear hq hb7 hfs k0 k1 k2 k3 g0 g1
      go_wp2_with fail
      go_ret2
      rw [← HOK.out, ← HNN.out, (okSlv_yes H1.out HC.out).1, (okSlv_yes H1.out HC.out).2]
      exact ⟨⟨_, rfl, by rw [Int.toNat_natCast]; exact HQ.out⟩, HD7.out⟩
    | false =>
      have HC := Lib.hid hc2
      clear hc2 hr
      go_wp2_with fail
      refine (isRounds_any _ _).mono ?_; rw [HC.out]; rintro e w' ⟨rfl, rfl⟩
      go_wp2_with fail
      go_ret2
      rw [← HOK.out, ← HNN.out, (okSlv_no (.inr HC.out)).1, (okSlv_no (.inr HC.out)).2]
      exact ⟨⟨_, rfl, fres_none _ _ _⟩, HB1.out.trans (HE.out.mono HB1.out.size)⟩
  | false =>
    have H1 := Lib.hid h1
    clear h1
    go_enter Try.func23, Try.ntmps23
    go_upto_region 1 with fail
    generalize w.alloc (.cells #[.int .i64 a, .int .i64 b] 27) = w1 at HB1 HG ⊢
    have HG0 := Lib.hid (pair_cells HG.out).1; have HG1 := Lib.hid (pair_cells HG.out).2.1
    have HGS := Lib.hid (Array.getElem?_eq_some_iff.1 HG.out).1
    go_cut [8, 9, 10] from 11 to 18 (fun _ o _ wx => o = .bool false ∧ Hid (Below w1.heap.size w1 wx))
    case first =>
      refine wp_region_noPanic ?_
      refine wp_region_held_drew (S := fun w' => w'.cell? ⟨w.heap.size, 0, none⟩ = some (.int .i64 a) ∧ w'.cell? ⟨w.heap.size, 1, none⟩ = some (.int .i64 b)) (by kernel_rfl) ⟨HG0.out, HG1.out⟩ (fun hHeld => ?_)
      have HE0 := Lib.hid (Below.refl w1.heap.size w1).drew
      generalize w1.drew = v0 at HE0 hHeld ⊢
      ((refine wpAnyH_take (i := 0) (v := ?_) rfl (by kernel_rfl) (by kernel_rfl) (by kernel_rfl) (fun _ _ _ h => h) (Or.inl ⟨by rfl, ?_⟩) (by assumption) ?_; rotate_left; (· intro w hSw; (try dsimp only at hSw); go_simp; first | done | with_reducible rfl); (try simp only [List.getElem_toArray, List.getElem_cons_zero, List.getElem_cons_succ, Act.put, List.setIfInBounds_toArray, List.set_cons_zero, List.set_cons_succ])); (refine wpAnyH_take (i := 1) (v := ?_) rfl (by kernel_rfl) (by kernel_rfl) (by kernel_rfl) (fun _ _ _ h => h) (Or.inl ⟨by rfl, ?_⟩) (by assumption) ?_; rotate_left; (· intro w hSw; (try dsimp only at hSw); go_simp; first | done | with_reducible rfl); (try simp only [List.getElem_toArray, List.getElem_cons_zero, List.getElem_cons_succ, Act.put, List.setIfInBounds_toArray, List.set_cons_zero, List.set_cons_succ])); (refine wpAnyH_take (i := 2) (v := ?_) rfl (by kernel_rfl) (by kernel_rfl) (by kernel_rfl) (fun _ _ _ h => h) (Or.inl ⟨by rfl, ?_⟩) (by assumption) ?_; rotate_left; (· intro w hSw; (try dsimp only at hSw); go_simp; first | done | with_reducible rfl); (try simp only [List.getElem_toArray, List.getElem_cons_zero, List.getElem_cons_succ, Act.put, List.setIfInBounds_toArray, List.set_cons_zero, List.set_cons_succ])); (refine wpAnyH_take (i := 4) (v := ?_) rfl (by kernel_rfl) (by kernel_rfl) (by kernel_rfl) (fun _ _ _ h => h) (Or.inl ⟨by rfl, ?_⟩) (by assumption) ?_; rotate_left; (· intro w hSw; (try dsimp only at hSw); go_simp; first | done | with_reducible rfl); (try simp only [List.getElem_toArray, List.getElem_cons_zero, List.getElem_cons_succ, Act.put, List.setIfInBounds_toArray, List.set_cons_zero, List.set_cons_succ])))
      refine wpAnyH_ready (rs := [3, 9]) (by kernel_rfl) (by simp) ?_
      refine (AllReadyH.cons (i := 3) rfl (fun K hK => ?_) (AllReadyH.cons (i := 9) rfl (fun K hK => ?_) AllReadyH.nil))
      · skip
        refine hstep_make rfl _ _ _ rfl w1.heap.size 37 i0 _ Try.underlying24 HI.out HZ0.out HZ1.out _ _ zs.length rfl rfl hb4 hml HE0.out.size ?_
        intro v1 ho hg
        rw [made_zero] at ho
        have HZ1 := Lib.hid (show RW w1.heap.size v1 v0.heap.size zs.length (List.replicate zs.length 0) by show v1.ownsRow _ _ _ (.slice _ (List.replicate zs.length 0).length _) (List.replicate zs.length 0).length _; rw [List.length_replicate]; exact ho)
        have HE1 := Lib.hid (HE0.out.grown hg HE0.out.size (fun q e => by cases e))
        clear ho hg
        generalize v0.heap.size = gz at HZ1 ⊢
        (refine hK.out _ _ (⟨by rw [HE1.out.cell (p := ⟨w.heap.size, 0, none⟩) HGS.out]; exact HG0.out, by rw [HE1.out.cell (p := ⟨w.heap.size, 1, none⟩) HGS.out]; exact HG1.out⟩) (fun hHeld => ?_); clear hK K; (try simp only [List.getElem_toArray, List.getElem_cons_zero, List.getElem_cons_succ, Act.put, List.setIfInBounds_toArray, List.set_cons_zero, List.set_cons_succ]))
        refine wpAnyH_ready (rs := [5, 9]) (by kernel_rfl) (by simp) ?_
        refine (AllReadyH.cons (i := 5) rfl (fun K hK => ?_) (AllReadyH.cons (i := 9) rfl (fun K hK => ?_) AllReadyH.nil))
        · skip
          go_simp
          have hfs := HZ1.out.fs (zeros_lt _)
          rw [List.length_replicate] at hfs
          have hvs := (HU.out.below HB1.out).below HE1.out
          refine (newBoard_no a b _ _ (List.replicate zs.length 0) zs _ hfs hvs hn (by rw [List.length_replicate, H1.out]; rfl)).mono ?_; rintro e v2 ⟨rfl, hb⟩
          have HE2 := Lib.hid (HE1.out.trans (hb.mono HE1.out.size))
          clear hfs hvs hb 
          go_wp2_with fail
          (refine hK.out _ _ (⟨by rw [HE2.out.cell (p := ⟨w.heap.size, 0, none⟩) HGS.out]; exact HG0.out, by rw [HE2.out.cell (p := ⟨w.heap.size, 1, none⟩) HGS.out]; exact HG1.out⟩) (fun hHeld => ?_); clear hK K; (try simp only [List.getElem_toArray, List.getElem_cons_zero, List.getElem_cons_succ, Act.put, List.setIfInBounds_toArray, List.set_cons_zero, List.set_cons_succ]))
          ((refine wpAnyH_take (i := 6) (v := ?_) rfl (by kernel_rfl) (by kernel_rfl) (by kernel_rfl) (fun _ _ _ h => h) (Or.inl ⟨by rfl, ?_⟩) (by assumption) ?_; rotate_left; (· intro w hSw; (try dsimp only at hSw); go_simp; first | done | with_reducible rfl); (try simp only [List.getElem_toArray, List.getElem_cons_zero, List.getElem_cons_succ, Act.put, List.setIfInBounds_toArray, List.set_cons_zero, List.set_cons_succ])); (refine wpAnyH_take (i := 7) (v := ?_) rfl (by kernel_rfl) (by kernel_rfl) (by kernel_rfl) (fun _ _ _ h => h) (Or.inl ⟨by rfl, ?_⟩) (by assumption) ?_; rotate_left; (· intro w hSw; (try dsimp only at hSw); go_simp; first | done | with_reducible rfl); (try simp only [List.getElem_toArray, List.getElem_cons_zero, List.getElem_cons_succ, Act.put, List.setIfInBounds_toArray, List.set_cons_zero, List.set_cons_succ])); (refine wpAnyH_take (i := 8) (v := ?_) rfl (by kernel_rfl) (by kernel_rfl) (by kernel_rfl) (fun _ _ _ h => h) (Or.inl ⟨by rfl, ?_⟩) (by assumption) ?_; rotate_left; (· intro w hSw; (try dsimp only at hSw); go_simp; first | done | with_reducible rfl); (try simp only [List.getElem_toArray, List.getElem_cons_zero, List.getElem_cons_succ, Act.put, List.setIfInBounds_toArray, List.set_cons_zero, List.set_cons_succ])))
          refine wpAnyH_ready (rs := [9]) (by kernel_rfl) (by simp) ?_
          refine (AllReadyH.cons (i := 9) rfl (fun K hK => ?_) AllReadyH.nil)
          go_simp
          go_wp2_with fail
          have hb := (Below.refl v2.heap.size v2).alloc (Nat.le_refl _) (.cells #[.int .i64 0, .int .i64 0, .slice none 0 0, .slice none 0 0] 108)
          have HE3 := Lib.hid (HE2.out.trans (hb.mono HE2.out.size))
          have HA3 := Lib.hid (And.intro (heap_alloc_new v2 (.cells #[.int .i64 0, .int .i64 0, .slice none 0 0, .slice none 0 0] 108)) (And.intro HE2.out.size (show v2.heap.size < (v2.alloc (.cells #[.int .i64 0, .int .i64 0, .slice none 0 0, .slice none 0 0] 108)).heap.size by simp)))
          clear hb
          generalize v2.alloc (.cells #[.int .i64 0, .int .i64 0, .slice none 0 0, .slice none 0 0] 108) = v3 at HE3 HA3 ⊢
          generalize v2.heap.size = kb at HA3 ⊢
          (refine hK.out _ _ (⟨by rw [HE3.out.cell (p := ⟨w.heap.size, 0, none⟩) HGS.out]; exact HG0.out, by rw [HE3.out.cell (p := ⟨w.heap.size, 1, none⟩) HGS.out]; exact HG1.out⟩) (fun hHeld => ?_); clear hK K; (try simp only [List.getElem_toArray, List.getElem_cons_zero, List.getElem_cons_succ, Act.put, List.setIfInBounds_toArray, List.set_cons_zero, List.set_cons_succ]))
          have yy := four_cells HA3.out.1
          have y0 := yy.1; have y1 := yy.2.1; have y2 := yy.2.2.1; have y3 := yy.2.2.2.1
          have f0 := yy.2.2.2.2.1; have f1 := yy.2.2.2.2.2.1; have f2 := yy.2.2.2.2.2.2.1; have f3 := yy.2.2.2.2.2.2.2
          clear yy
          have HX9 := Lib.hid (show ((((v3.setCell ⟨kb, 0, none⟩ (.int .i64 0)).setCell ⟨kb, 1, none⟩ (.int .i64 0)).setCell ⟨kb, 2, none⟩ (.slice none 0 0)).setCell ⟨kb, 3, none⟩ (.slice none 0 0)).heap[kb]? = some (.cells #[.int .i64 0, .int .i64 0, .slice none 0 0, .slice none 0 0] 108) from heap_setCell_same _ kb 3 _ _ _ (heap_setCell_same _ kb 2 _ _ _ (heap_setCell_same _ kb 1 _ _ _ (heap_setCell_same v3 kb 0 _ _ _ HA3.out.1))))
          have GG9 := Lib.hid (show v3.grownBy ((((v3.setCell ⟨kb, 0, none⟩ (.int .i64 0)).setCell ⟨kb, 1, none⟩ (.int .i64 0)).setCell ⟨kb, 2, none⟩ (.slice none 0 0)).setCell ⟨kb, 3, none⟩ (.slice none 0 0)) (some kb) from grown_trans (grown_trans (grown_trans (grown_cell v3 ⟨kb, 0, none⟩ _) (grown_cell _ ⟨kb, 1, none⟩ _)) (grown_cell _ ⟨kb, 2, none⟩ _)) (grown_cell _ ⟨kb, 3, none⟩ _))
          have HE9 := Lib.hid (HE3.out.grown GG9.out HE3.out.size (fun q e => by cases e; exact HA3.out.2.1))
          (refine wpAnyH_ready (rs := [10]) (by kernel_rfl) (by simp) ?_; refine AllReadyH.cons (i := 10) rfl (fun K hK => ?_) AllReadyH.nil)
          go_simp
          generalize ((((v3.setCell ⟨kb, 0, none⟩ (.int .i64 0)).setCell ⟨kb, 1, none⟩ (.int .i64 0)).setCell ⟨kb, 2, none⟩ (.slice none 0 0)).setCell ⟨kb, 3, none⟩ (.slice none 0 0)) = w9 at HX9 GG9 HE9 ⊢
          clear y0 y1 y2 y3 f0 f1 f2 f3
          (refine hK.out _ _ (⟨by rw [HE9.out.cell (p := ⟨w.heap.size, 0, none⟩) HGS.out]; exact HG0.out, by rw [HE9.out.cell (p := ⟨w.heap.size, 1, none⟩) HGS.out]; exact HG1.out⟩) (fun hHeld => ?_); clear hK K; (try simp only [List.getElem_toArray, List.getElem_cons_zero, List.getElem_cons_succ, Act.put, List.setIfInBounds_toArray, List.set_cons_zero, List.set_cons_succ]))
          ((refine wpAnyH_take (i := 11) (v := ?_) rfl (by kernel_rfl) (by kernel_rfl) (by kernel_rfl) (fun _ _ _ h => h) (Or.inl ⟨by rfl, ?_⟩) (by assumption) ?_; rotate_left; (· intro w hSw; (try dsimp only at hSw); go_simp; first | done | with_reducible rfl); (try simp only [List.getElem_toArray, List.getElem_cons_zero, List.getElem_cons_succ, Act.put, List.setIfInBounds_toArray, List.set_cons_zero, List.set_cons_succ])))
          (refine wpAnyH_done (by kernel_rfl) ?_ _; refine NoPanic.normal ?_)
          clear hHeld
          go_wp2_with fail
          go_meet
          case rel => exact ⟨rfl, HE9⟩
        · skip
          go_simp
          go_wp2_with fail
          have hb := (Below.refl v1.heap.size v1).alloc (Nat.le_refl _) (.cells #[.int .i64 0, .int .i64 0, .slice none 0 0, .slice none 0 0] 108)
          have HE2 := Lib.hid (HE1.out.trans (hb.mono HE1.out.size))
          have HA2 := Lib.hid (And.intro (heap_alloc_new v1 (.cells #[.int .i64 0, .int .i64 0, .slice none 0 0, .slice none 0 0] 108)) (And.intro HE1.out.size (show v1.heap.size < (v1.alloc (.cells #[.int .i64 0, .int .i64 0, .slice none 0 0, .slice none 0 0] 108)).heap.size by simp)))
          have HZ2 := Lib.hid (HZ1.out.still hb)
          clear hb
          generalize v1.alloc (.cells #[.int .i64 0, .int .i64 0, .slice none 0 0, .slice none 0 0] 108) = v2 at HE2 HA2 HZ2 ⊢
          generalize v1.heap.size = kb at HA2 ⊢
          (refine hK.out _ _ (⟨by rw [HE2.out.cell (p := ⟨w.heap.size, 0, none⟩) HGS.out]; exact HG0.out, by rw [HE2.out.cell (p := ⟨w.heap.size, 1, none⟩) HGS.out]; exact HG1.out⟩) (fun hHeld => ?_); clear hK K; (try simp only [List.getElem_toArray, List.getElem_cons_zero, List.getElem_cons_succ, Act.put, List.setIfInBounds_toArray, List.set_cons_zero, List.set_cons_succ]))
          refine wpAnyH_ready (rs := [5]) (by kernel_rfl) (by simp) ?_
          refine (AllReadyH.cons (i := 5) rfl (fun K hK => ?_) AllReadyH.nil)
          go_simp
          have hfs := HZ2.out.fs (zeros_lt _)
          rw [List.length_replicate] at hfs
          have hvs := (HU.out.below HB1.out).below HE2.out
          refine (newBoard_no a b _ _ (List.replicate zs.length 0) zs _ hfs hvs hn (by rw [List.length_replicate, H1.out]; rfl)).mono ?_; rintro e v3 ⟨rfl, hb⟩
          have HE3 := Lib.hid (HE2.out.trans (hb.mono HE2.out.size))
          have HA3 := Lib.hid (And.intro ((hb.block kb HA2.out.2.2).trans HA2.out.1) (And.intro HA2.out.2.1 (Nat.lt_of_lt_of_le HA2.out.2.2 hb.size)))
          clear hfs hvs hb 
          go_wp2_with fail
          (refine hK.out _ _ (⟨by rw [HE3.out.cell (p := ⟨w.heap.size, 0, none⟩) HGS.out]; exact HG0.out, by rw [HE3.out.cell (p := ⟨w.heap.size, 1, none⟩) HGS.out]; exact HG1.out⟩) (fun hHeld => ?_); clear hK K; (try simp only [List.getElem_toArray, List.getElem_cons_zero, List.getElem_cons_succ, Act.put, List.setIfInBounds_toArray, List.set_cons_zero, List.set_cons_succ]))
          ((refine wpAnyH_take (i := 6) (v := ?_) rfl (by kernel_rfl) (by kernel_rfl) (by kernel_rfl) (fun _ _ _ h => h) (Or.inl ⟨by rfl, ?_⟩) (by assumption) ?_; rotate_left; (· intro w hSw; (try dsimp only at hSw); go_simp; first | done | with_reducible rfl); (try simp only [List.getElem_toArray, List.getElem_cons_zero, List.getElem_cons_succ, Act.put, List.setIfInBounds_toArray, List.set_cons_zero, List.set_cons_succ])); (refine wpAnyH_take (i := 7) (v := ?_) rfl (by kernel_rfl) (by kernel_rfl) (by kernel_rfl) (fun _ _ _ h => h) (Or.inl ⟨by rfl, ?_⟩) (by assumption) ?_; rotate_left; (· intro w hSw; (try dsimp only at hSw); go_simp; first | done | with_reducible rfl); (try simp only [List.getElem_toArray, List.getElem_cons_zero, List.getElem_cons_succ, Act.put, List.setIfInBounds_toArray, List.set_cons_zero, List.set_cons_succ])); (refine wpAnyH_take (i := 8) (v := ?_) rfl (by kernel_rfl) (by kernel_rfl) (by kernel_rfl) (fun _ _ _ h => h) (Or.inl ⟨by rfl, ?_⟩) (by assumption) ?_; rotate_left; (· intro w hSw; (try dsimp only at hSw); go_simp; first | done | with_reducible rfl); (try simp only [List.getElem_toArray, List.getElem_cons_zero, List.getElem_cons_succ, Act.put, List.setIfInBounds_toArray, List.set_cons_zero, List.set_cons_succ])))
          have yy := four_cells HA3.out.1
          have y0 := yy.1; have y1 := yy.2.1; have y2 := yy.2.2.1; have y3 := yy.2.2.2.1
          have f0 := yy.2.2.2.2.1; have f1 := yy.2.2.2.2.2.1; have f2 := yy.2.2.2.2.2.2.1; have f3 := yy.2.2.2.2.2.2.2
          clear yy
          have HX9 := Lib.hid (show ((((v3.setCell ⟨kb, 0, none⟩ (.int .i64 0)).setCell ⟨kb, 1, none⟩ (.int .i64 0)).setCell ⟨kb, 2, none⟩ (.slice none 0 0)).setCell ⟨kb, 3, none⟩ (.slice none 0 0)).heap[kb]? = some (.cells #[.int .i64 0, .int .i64 0, .slice none 0 0, .slice none 0 0] 108) from heap_setCell_same _ kb 3 _ _ _ (heap_setCell_same _ kb 2 _ _ _ (heap_setCell_same _ kb 1 _ _ _ (heap_setCell_same v3 kb 0 _ _ _ HA3.out.1))))
          have GG9 := Lib.hid (show v3.grownBy ((((v3.setCell ⟨kb, 0, none⟩ (.int .i64 0)).setCell ⟨kb, 1, none⟩ (.int .i64 0)).setCell ⟨kb, 2, none⟩ (.slice none 0 0)).setCell ⟨kb, 3, none⟩ (.slice none 0 0)) (some kb) from grown_trans (grown_trans (grown_trans (grown_cell v3 ⟨kb, 0, none⟩ _) (grown_cell _ ⟨kb, 1, none⟩ _)) (grown_cell _ ⟨kb, 2, none⟩ _)) (grown_cell _ ⟨kb, 3, none⟩ _))
          have HE9 := Lib.hid (HE3.out.grown GG9.out HE3.out.size (fun q e => by cases e; exact HA3.out.2.1))
          (refine wpAnyH_ready (rs := [10]) (by kernel_rfl) (by simp) ?_; refine AllReadyH.cons (i := 10) rfl (fun K hK => ?_) AllReadyH.nil)
          go_simp
          generalize ((((v3.setCell ⟨kb, 0, none⟩ (.int .i64 0)).setCell ⟨kb, 1, none⟩ (.int .i64 0)).setCell ⟨kb, 2, none⟩ (.slice none 0 0)).setCell ⟨kb, 3, none⟩ (.slice none 0 0)) = w9 at HX9 GG9 HE9 ⊢
          clear y0 y1 y2 y3 f0 f1 f2 f3
          (refine hK.out _ _ (⟨by rw [HE9.out.cell (p := ⟨w.heap.size, 0, none⟩) HGS.out]; exact HG0.out, by rw [HE9.out.cell (p := ⟨w.heap.size, 1, none⟩) HGS.out]; exact HG1.out⟩) (fun hHeld => ?_); clear hK K; (try simp only [List.getElem_toArray, List.getElem_cons_zero, List.getElem_cons_succ, Act.put, List.setIfInBounds_toArray, List.set_cons_zero, List.set_cons_succ]))
          ((refine wpAnyH_take (i := 11) (v := ?_) rfl (by kernel_rfl) (by kernel_rfl) (by kernel_rfl) (fun _ _ _ h => h) (Or.inl ⟨by rfl, ?_⟩) (by assumption) ?_; rotate_left; (· intro w hSw; (try dsimp only at hSw); go_simp; first | done | with_reducible rfl); (try simp only [List.getElem_toArray, List.getElem_cons_zero, List.getElem_cons_succ, Act.put, List.setIfInBounds_toArray, List.set_cons_zero, List.set_cons_succ])))
          (refine wpAnyH_done (by kernel_rfl) ?_ _; refine NoPanic.normal ?_)
          clear hHeld
          go_wp2_with fail
          go_meet
          case rel => exact ⟨rfl, HE9⟩
      · skip
        go_simp
        go_wp2_with fail
        have hb := (Below.refl v0.heap.size v0).alloc (Nat.le_refl _) (.cells #[.int .i64 0, .int .i64 0, .slice none 0 0, .slice none 0 0] 108)
        have HE1 := Lib.hid (HE0.out.trans (hb.mono HE0.out.size))
        have HA1 := Lib.hid (And.intro (heap_alloc_new v0 (.cells #[.int .i64 0, .int .i64 0, .slice none 0 0, .slice none 0 0] 108)) (And.intro HE0.out.size (show v0.heap.size < (v0.alloc (.cells #[.int .i64 0, .int .i64 0, .slice none 0 0, .slice none 0 0] 108)).heap.size by simp)))
        clear hb
        generalize v0.alloc (.cells #[.int .i64 0, .int .i64 0, .slice none 0 0, .slice none 0 0] 108) = v1 at HE1 HA1 ⊢
        generalize v0.heap.size = kb at HA1 ⊢
        (refine hK.out _ _ (⟨by rw [HE1.out.cell (p := ⟨w.heap.size, 0, none⟩) HGS.out]; exact HG0.out, by rw [HE1.out.cell (p := ⟨w.heap.size, 1, none⟩) HGS.out]; exact HG1.out⟩) (fun hHeld => ?_); clear hK K; (try simp only [List.getElem_toArray, List.getElem_cons_zero, List.getElem_cons_succ, Act.put, List.setIfInBounds_toArray, List.set_cons_zero, List.set_cons_succ]))
        refine wpAnyH_ready (rs := [3]) (by kernel_rfl) (by simp) ?_
        refine (AllReadyH.cons (i := 3) rfl (fun K hK => ?_) AllReadyH.nil)
        refine hstep_make rfl _ _ _ rfl w1.heap.size 37 i0 _ Try.underlying24 HI.out HZ0.out HZ1.out _ _ zs.length rfl rfl hb4 hml HE1.out.size ?_
        intro v2 ho hg
        rw [made_zero] at ho
        have HZ2 := Lib.hid (show RW w1.heap.size v2 v1.heap.size zs.length (List.replicate zs.length 0) by show v2.ownsRow _ _ _ (.slice _ (List.replicate zs.length 0).length _) (List.replicate zs.length 0).length _; rw [List.length_replicate]; exact ho)
        have HE2 := Lib.hid (HE1.out.grown hg HE1.out.size (fun q e => by cases e))
        have HA2 := Lib.hid (And.intro ((hg.block kb HA1.out.2.2 (by simp)).trans HA1.out.1) (And.intro HA1.out.2.1 (Nat.lt_of_lt_of_le HA1.out.2.2 hg.size)))
        clear ho hg
        generalize v1.heap.size = gz at HZ2 ⊢
        (refine hK.out _ _ (⟨by rw [HE2.out.cell (p := ⟨w.heap.size, 0, none⟩) HGS.out]; exact HG0.out, by rw [HE2.out.cell (p := ⟨w.heap.size, 1, none⟩) HGS.out]; exact HG1.out⟩) (fun hHeld => ?_); clear hK K; (try simp only [List.getElem_toArray, List.getElem_cons_zero, List.getElem_cons_succ, Act.put, List.setIfInBounds_toArray, List.set_cons_zero, List.set_cons_succ]))
        refine wpAnyH_ready (rs := [5]) (by kernel_rfl) (by simp) ?_
        refine (AllReadyH.cons (i := 5) rfl (fun K hK => ?_) AllReadyH.nil)
        go_simp
        have hfs := HZ2.out.fs (zeros_lt _)
        rw [List.length_replicate] at hfs
        have hvs := (HU.out.below HB1.out).below HE2.out
        refine (newBoard_no a b _ _ (List.replicate zs.length 0) zs _ hfs hvs hn (by rw [List.length_replicate, H1.out]; rfl)).mono ?_; rintro e v3 ⟨rfl, hb⟩
        have HE3 := Lib.hid (HE2.out.trans (hb.mono HE2.out.size))
        have HA3 := Lib.hid (And.intro ((hb.block kb HA2.out.2.2).trans HA2.out.1) (And.intro HA2.out.2.1 (Nat.lt_of_lt_of_le HA2.out.2.2 hb.size)))
        clear hfs hvs hb 
        go_wp2_with fail
        (refine hK.out _ _ (⟨by rw [HE3.out.cell (p := ⟨w.heap.size, 0, none⟩) HGS.out]; exact HG0.out, by rw [HE3.out.cell (p := ⟨w.heap.size, 1, none⟩) HGS.out]; exact HG1.out⟩) (fun hHeld => ?_); clear hK K; (try simp only [List.getElem_toArray, List.getElem_cons_zero, List.getElem_cons_succ, Act.put, List.setIfInBounds_toArray, List.set_cons_zero, List.set_cons_succ]))
        ((refine wpAnyH_take (i := 6) (v := ?_) rfl (by kernel_rfl) (by kernel_rfl) (by kernel_rfl) (fun _ _ _ h => h) (Or.inl ⟨by rfl, ?_⟩) (by assumption) ?_; rotate_left; (· intro w hSw; (try dsimp only at hSw); go_simp; first | done | with_reducible rfl); (try simp only [List.getElem_toArray, List.getElem_cons_zero, List.getElem_cons_succ, Act.put, List.setIfInBounds_toArray, List.set_cons_zero, List.set_cons_succ])); (refine wpAnyH_take (i := 7) (v := ?_) rfl (by kernel_rfl) (by kernel_rfl) (by kernel_rfl) (fun _ _ _ h => h) (Or.inl ⟨by rfl, ?_⟩) (by assumption) ?_; rotate_left; (· intro w hSw; (try dsimp only at hSw); go_simp; first | done | with_reducible rfl); (try simp only [List.getElem_toArray, List.getElem_cons_zero, List.getElem_cons_succ, Act.put, List.setIfInBounds_toArray, List.set_cons_zero, List.set_cons_succ])); (refine wpAnyH_take (i := 8) (v := ?_) rfl (by kernel_rfl) (by kernel_rfl) (by kernel_rfl) (fun _ _ _ h => h) (Or.inl ⟨by rfl, ?_⟩) (by assumption) ?_; rotate_left; (· intro w hSw; (try dsimp only at hSw); go_simp; first | done | with_reducible rfl); (try simp only [List.getElem_toArray, List.getElem_cons_zero, List.getElem_cons_succ, Act.put, List.setIfInBounds_toArray, List.set_cons_zero, List.set_cons_succ])))
        have yy := four_cells HA3.out.1
        have y0 := yy.1; have y1 := yy.2.1; have y2 := yy.2.2.1; have y3 := yy.2.2.2.1
        have f0 := yy.2.2.2.2.1; have f1 := yy.2.2.2.2.2.1; have f2 := yy.2.2.2.2.2.2.1; have f3 := yy.2.2.2.2.2.2.2
        clear yy
        have HX9 := Lib.hid (show ((((v3.setCell ⟨kb, 0, none⟩ (.int .i64 0)).setCell ⟨kb, 1, none⟩ (.int .i64 0)).setCell ⟨kb, 2, none⟩ (.slice none 0 0)).setCell ⟨kb, 3, none⟩ (.slice none 0 0)).heap[kb]? = some (.cells #[.int .i64 0, .int .i64 0, .slice none 0 0, .slice none 0 0] 108) from heap_setCell_same _ kb 3 _ _ _ (heap_setCell_same _ kb 2 _ _ _ (heap_setCell_same _ kb 1 _ _ _ (heap_setCell_same v3 kb 0 _ _ _ HA3.out.1))))
        have GG9 := Lib.hid (show v3.grownBy ((((v3.setCell ⟨kb, 0, none⟩ (.int .i64 0)).setCell ⟨kb, 1, none⟩ (.int .i64 0)).setCell ⟨kb, 2, none⟩ (.slice none 0 0)).setCell ⟨kb, 3, none⟩ (.slice none 0 0)) (some kb) from grown_trans (grown_trans (grown_trans (grown_cell v3 ⟨kb, 0, none⟩ _) (grown_cell _ ⟨kb, 1, none⟩ _)) (grown_cell _ ⟨kb, 2, none⟩ _)) (grown_cell _ ⟨kb, 3, none⟩ _))
        have HE9 := Lib.hid (HE3.out.grown GG9.out HE3.out.size (fun q e => by cases e; exact HA3.out.2.1))
        (refine wpAnyH_ready (rs := [10]) (by kernel_rfl) (by simp) ?_; refine AllReadyH.cons (i := 10) rfl (fun K hK => ?_) AllReadyH.nil)
        go_simp
        generalize ((((v3.setCell ⟨kb, 0, none⟩ (.int .i64 0)).setCell ⟨kb, 1, none⟩ (.int .i64 0)).setCell ⟨kb, 2, none⟩ (.slice none 0 0)).setCell ⟨kb, 3, none⟩ (.slice none 0 0)) = w9 at HX9 GG9 HE9 ⊢
        clear y0 y1 y2 y3 f0 f1 f2 f3
        (refine hK.out _ _ (⟨by rw [HE9.out.cell (p := ⟨w.heap.size, 0, none⟩) HGS.out]; exact HG0.out, by rw [HE9.out.cell (p := ⟨w.heap.size, 1, none⟩) HGS.out]; exact HG1.out⟩) (fun hHeld => ?_); clear hK K; (try simp only [List.getElem_toArray, List.getElem_cons_zero, List.getElem_cons_succ, Act.put, List.setIfInBounds_toArray, List.set_cons_zero, List.set_cons_succ]))
        ((refine wpAnyH_take (i := 11) (v := ?_) rfl (by kernel_rfl) (by kernel_rfl) (by kernel_rfl) (fun _ _ _ h => h) (Or.inl ⟨by rfl, ?_⟩) (by assumption) ?_; rotate_left; (· intro w hSw; (try dsimp only at hSw); go_simp; first | done | with_reducible rfl); (try simp only [List.getElem_toArray, List.getElem_cons_zero, List.getElem_cons_succ, Act.put, List.setIfInBounds_toArray, List.set_cons_zero, List.set_cons_succ])))
        (refine wpAnyH_done (by kernel_rfl) ?_ _; refine NoPanic.normal ?_)
        clear hHeld
        go_wp2_with fail
        go_meet
        case rel => exact ⟨rfl, HE9⟩
    case rest =>
    obtain ⟨rfl, HE⟩ := hcut
    go_wp2_with fail
    go_ret2
    rw [← HOK.out, ← HNN.out, (okSlv_no (.inl H1.out)).1, (okSlv_no (.inl H1.out)).2]
    exact ⟨⟨_, rfl, fres_none _ _ _⟩, HB1.out.trans (HE.out.mono HB1.out.size)⟩

set_option maxHeartbeats 1000000 in
set_option maxRecDepth 100000 in
theorem sSolvePotential_any (a b : Int) (v : Value) (zs : List Nat) (r : Int) (w : World) (hv : FS .f32 w v zs) (hn : zs.length ≤ 1048576) (hr : -9223372036854775808 ≤ r ∧ r ≤ 9223372036854775807) :
    Calls Try.prog 22 #[GV a b, v, .int .i64 r] w fun e w' => (∃ x, e = .returned (.tuple #[x, .bool (okSolvePotential a b zs r)]) ∧ FRes w.heap.size w' x (lenSolvePotential a b zs r) (solveF a b zs r.toNat)) ∧ Below w.heap.size w w' := by
  have HU := Lib.hid hv
  obtain ⟨a1, c1, rfl, hlc, hcm, hwf, hmem⟩ := hv
  have HP := Lib.hid (gp_new w a b 27)
  have hb0 := (Below.refl w.heap.size w).alloc (Nat.le_refl _) (.cells #[.int .i64 a, .int .i64 b] 27)
  have HPB := Lib.hid (heap_alloc_new w (.cells #[.int .i64 a, .int .i64 b] 27))
  clear hlc hcm hwf hmem hn
  obtain ⟨ok, hok⟩ : ∃ ok, okSolvePotential a b zs r = ok := ⟨_, rfl⟩
  obtain ⟨N, hN⟩ : ∃ N, lenSolvePotential a b zs r = N := ⟨_, rfl⟩
  rw [hok, hN]
  have HOK := Lib.hid hok; have HNN := Lib.hid hN
  clear hok hN
  cases h1 : fieldOk a b zs.length with
  | true =>
    have H1 := Lib.hid h1
    clear h1
    cases hc2 : (decide (0 ≤ r) && decide (r ≤ 60)) with
    | true =>
      have HC := Lib.hid hc2
      have HC2 := Lib.hid (show decide (0 ≤ r ∧ r ≤ 60) = true by rw [Bool.and_eq_true, decide_eq_true_iff, decide_eq_true_iff] at hc2; exact decide_eq_true (by omega))
      obtain ⟨R, hR, hR2⟩ : ∃ R : Nat, r = (R : Int) ∧ R ≤ 60 := by
        rw [Bool.and_eq_true, decide_eq_true_iff, decide_eq_true_iff] at hc2
        exact ⟨r.toNat, by omega, by omega⟩
      subst hR
      have HR2 := Lib.hid hR2
      clear hc2 hr hR2
      go_enter Try.func22, Try.ntmps22
      go_wp2_with fail
      generalize w.alloc (.cells #[.int .i64 a, .int .i64 b] 27) = w1 at hb0 HP HPB ⊢
      refine (sFits_any _ a b a1 zs.length c1 _ HP.out).mono ?_; rw [H1.out]; rintro e w' ⟨rfl, m1, rfl⟩
      go_wp2_with fail
      refine (sIn_any _ 0 60 _).mono ?_; rw [HC2.out]; rintro e w' ⟨rfl, rfl⟩
      have hbb := below_drewN hb0 m1
      have HPB2 := Lib.hid (show (w1.drewN m1).heap[w.heap.size]? = _ from HPB.out)
      generalize w1.drewN m1 = w2 at hbb HPB2 ⊢
      go_wp2_with fail
      refine (sSolve_any a b R w.heap.size _ zs _ HR2.out HPB2.out (HU.out.below hbb) H1.out).mono ?_; rintro e w3 ⟨⟨q, rfl, hq⟩, hb3⟩
      have HQ := Lib.hid (fres_le hq hbb.size); have HD := Lib.hid (hbb.trans (hb3.mono hbb.size))
      clear hq hb3
      go_wp2_with fail
      go_ret2
      rw [← HOK.out, ← HNN.out, (okSlv_yes H1.out HC.out).1, (okSlv_yes H1.out HC.out).2]
      exact ⟨⟨_, rfl, by rw [Int.toNat_natCast]; exact HQ.out⟩, HD.out⟩
    | false =>
      have HC := Lib.hid hc2
      have HC2 := Lib.hid (show decide (0 ≤ r ∧ r ≤ 60) = false by rw [Bool.and_eq_false_iff, decide_eq_false_iff_not, decide_eq_false_iff_not] at hc2; exact decide_eq_false (by omega))
      clear hc2 hr
      go_enter Try.func22, Try.ntmps22
      go_wp2_with fail
      generalize w.alloc (.cells #[.int .i64 a, .int .i64 b] 27) = w1 at hb0 HP HPB ⊢
      refine (sFits_any _ a b a1 zs.length c1 _ HP.out).mono ?_; rw [H1.out]; rintro e w' ⟨rfl, m1, rfl⟩
      go_wp2_with fail
      refine (sIn_any _ 0 60 _).mono ?_; rw [HC2.out]; rintro e w' ⟨rfl, rfl⟩
      go_wp2_with fail
      go_ret2
      rw [← HOK.out, ← HNN.out, (okSlv_no (.inr HC.out)).1, (okSlv_no (.inr HC.out)).2]
      exact ⟨⟨_, rfl, fres_none _ _ _⟩, below_drewN hb0 _⟩
  | false =>
    have H1 := Lib.hid h1
    clear h1 hr
    go_enter Try.func22, Try.ntmps22
    go_wp2_with fail
    generalize w.alloc (.cells #[.int .i64 a, .int .i64 b] 27) = w1 at hb0 HP HPB ⊢
    refine (sFits_any _ a b a1 zs.length c1 _ HP.out).mono ?_; rw [H1.out]; rintro e w' ⟨rfl, m1, rfl⟩
    go_wp2_with fail
    go_ret2
    rw [← HOK.out, ← HNN.out, (okSlv_no (.inl H1.out)).1, (okSlv_no (.inl H1.out)).2]
    exact ⟨⟨_, rfl, fres_none _ _ _⟩, below_drewN hb0 _⟩
end Go.Proofs.Ytjfnecmnofcjbaa
