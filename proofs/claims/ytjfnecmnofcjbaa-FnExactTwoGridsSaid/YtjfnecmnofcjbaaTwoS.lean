/-
  Two grids, of the model.
-/
import Derived.Test.YtjfnecmnofcjbaaTwoM
namespace Go.Proofs.Ytjfnecmnofcjbaa
open Go.Fl Go.RowKit
open Go.Joins (ownsRow_le)
set_option linter.unusedSimpArgs false
set_option linter.unusedVariables false

def okTwoGrids (a b : Int) (xs zs : List Nat) (r : Int) : Bool := fieldOk a b xs.length && fieldOk a b zs.length && halvesB a b && (decide (0 ≤ r) && decide (r ≤ 60))
def lenTwoGrids (a b : Int) (xs zs : List Nat) (r : Int) : Nat := if okTwoGrids a b xs zs r then xs.length else 0
theorem lenTwoGrids_le (a b : Int) (xs zs : List Nat) (r : Int) (h : xs.length ≤ 1048576) (h2 : zs.length ≤ 1048576) : lenTwoGrids a b xs zs r ≤ 1048576 := by unfold lenTwoGrids; split <;> omega
theorem okTwo_yes {a b : Int} {xs zs : List Nat} {r : Int} (h1 : fieldOk a b xs.length = true) (h2 : fieldOk a b zs.length = true) (h3 : halvesB a b = true) (hc : (decide (0 ≤ r) && decide (r ≤ 60)) = true) : okTwoGrids a b xs zs r = true ∧ lenTwoGrids a b xs zs r = xs.length := by
  have e : okTwoGrids a b xs zs r = true := by unfold okTwoGrids; rw [h1, h2, h3, hc]; rfl
  exact ⟨e, by unfold lenTwoGrids; rw [if_pos e]⟩
theorem okTwo_no {a b : Int} {xs zs : List Nat} {r : Int} (h : (fieldOk a b xs.length && fieldOk a b zs.length) = false ∨ halvesB a b = false ∨ (decide (0 ≤ r) && decide (r ≤ 60)) = false) : okTwoGrids a b xs zs r = false ∧ lenTwoGrids a b xs zs r = 0 := by
  have e : okTwoGrids a b xs zs r = false := by unfold okTwoGrids; rcases h with h | h | h <;> rw [h] <;> simp
  exact ⟨e, by unfold lenTwoGrids; rw [if_neg (by rw [e]; simp)]⟩

set_option maxHeartbeats 4000000 in
set_option maxRecDepth 100000 in
theorem sTwoGrids_yes (a b : Int) (u : Value) (xs : List Nat) (v : Value) (zs : List Nat) (R : Nat) (w : World) (hu : FS .f32 w u xs) (hn : xs.length ≤ 1048576) (hv : FS .f32 w v zs) (hn2 : zs.length ≤ 1048576) (hR : R ≤ 60) (h1 : fieldOk a b xs.length = true) (h2 : fieldOk a b zs.length = true) (h3 : halvesB a b = true) :
    Calls Try.prog 24 #[GV a b, u, v, .int .i64 R] w fun e w' => (∃ x, e = .returned (.tuple #[x, .bool true]) ∧ FRes w.heap.size w' x xs.length (twoF a b xs zs R)) ∧ Below w.heap.size w w' := by
  have HU := Lib.hid hu; have HV := Lib.hid hv
  have HN := Lib.hid hn; have HN2 := Lib.hid hn2; have HR := Lib.hid hR
  obtain ⟨a1, c1, rfl, hlc, hcm, hwf, hmem⟩ := hu
  obtain ⟨a2, c2, rfl, hlc2, hcm2, hwf2, hmem2⟩ := hv
  have HWX := Lib.hid hwf
  have HP := Lib.hid (gp_new w a b 27)
  have HPB := Lib.hid (heap_alloc_new w (.cells #[.int .i64 a, .int .i64 b] 27))
  have hb0 := (Below.refl w.heap.size w).alloc (Nat.le_refl _) (.cells #[.int .i64 a, .int .i64 b] 27)
  clear hmem hlc hcm hwf hmem2 hlc2 hcm2 hwf2 hn hn2 hR
  have HLL := Lib.hid (show zs.length = xs.length by have := (fieldOk_true h1).2.2.2.2.1; have := (fieldOk_true h2).2.2.2.2.1; omega)
  have HA := Lib.hid (fieldOk_true h1)
  have HH := Lib.hid (halvesB_true h3)
  obtain ⟨m, hm⟩ : ∃ m, (a / 2 * (b / 2)).toNat = m := ⟨_, rfl⟩
  have HM := Lib.hid hm
  have HF := Lib.hid (half_facts h1 (halvesB_true h3))
  rw [hm] at HF
  have hpos : 0 < xs.length := by
    have := HA.out; have h4 : 4 * 4 ≤ a * b := Int.mul_le_mul this.1 this.2.2.1 (by omega) (by omega); omega
  have hposm : 0 < m := by
    have hB := fieldOk_true HF.out.1; have h4 : 4 * 4 ≤ (a / 2) * (b / 2) := Int.mul_le_mul hB.1 hB.2.2.1 (by omega) (by omega); omega
  have H1 := Lib.hid h1; have H2 := Lib.hid h2; have H3 := Lib.hid h3
  clear h1 h2 h3 hm
  have q60 : Hid (decide ((0 : Int) ≤ (R : Int) ∧ (R : Int) ≤ 60) = true) := Lib.hid (decide_eq_true ⟨by omega, by have := HR.out; omega⟩)
  go_enter Try.func24, Try.ntmps24
  go_wp2_with fail
  generalize w.alloc (.cells #[.int .i64 a, .int .i64 b] 27) = w1 at hb0 HP HPB ⊢
  refine (sFits_any _ a b a1 xs.length c1 _ HP.out).mono ?_; rw [H1.out]; rintro e w' ⟨rfl, m1, rfl⟩
  go_wp2_with fail
  refine (sFits_any _ a b a2 zs.length c2 _ (GP.drewN HP.out m1)).mono ?_; rw [H2.out]; rintro e w' ⟨rfl, m2, rfl⟩
  go_wp2_with fail
  refine (sHalves_any _ a b _ (GP.drewN HP.out (m1 + m2)) (by have := HA.out; omega) (by have := HA.out; omega)).mono ?_; rw [H3.out]; rintro e w' ⟨rfl, rfl⟩
  go_wp2_with fail
  refine (sIn_any _ 0 60 _).mono ?_; rw [q60.out]; rintro e w' ⟨rfl, rfl⟩
  go_wp2_with fail
  have hbb := below_drewN hb0 (m1 + m2)
  have HPB2 := Lib.hid (show (w1.drewN (m1 + m2)).heap[w.heap.size]? = _ from HPB.out)
  generalize w1.drewN (m1 + m2) = w2 at hbb HPB2 ⊢
  refine (sOwn_any _ xs _ (HU.out.below hbb) hpos HN.out).mono ?_; rintro e w3 ⟨⟨p, rfl, hp⟩, hb3⟩
  obtain ⟨gv, capv, rfl, hrv⟩ := RW.of hp hpos
  have HB3 := Lib.hid (hbb.trans (hb3.mono hbb.size))
  have HPB3 := Lib.hid ((hb3.block w.heap.size (Array.getElem?_eq_some_iff.1 HPB2.out).1).trans HPB2.out)
  have HKV := Lib.hid (show w.heap.size ≠ gv from by have := (hrv.lt gv rfl).1; have := (Array.getElem?_eq_some_iff.1 HPB2.out).1; omega)
  have HRV := Lib.hid (hrv.le hbb.size)
  clear hp hb3 hrv hbb
  go_wp2_with fail
  refine (sLevel_any _ zs _ (HV.out.below HB3.out) HN2.out).mono ?_; rintro e w4 ⟨⟨q, rfl, hq⟩, hb4⟩
  rw [HLL.out] at hq
  obtain ⟨gl, capl, ls, rfl, hlsl, hlse, hlso⟩ := fres_row hq hpos
  have hrl : RW w3.heap.size w4 gl capl ls := by show w4.ownsRow _ _ _ (.slice _ ls.length _) ls.length _; rw [hlsl]; exact hlso
  have HNE := Lib.hid (show gl ≠ gv from by have := (hrl.lt gl rfl).1; have := (HRV.out.lt gv rfl).2; omega)
  have HRL := Lib.hid (hrl.le HB3.out.size)
  have HRV4 := Lib.hid (HRV.out.still hb4)
  have HPB4 := Lib.hid ((hb4.block w.heap.size (Array.getElem?_eq_some_iff.1 HPB3.out).1).trans HPB3.out)
  have HB4 := Lib.hid (HB3.out.trans (hb4.mono HB3.out.size))
  have HLS := Lib.hid hlsl; have HLE := Lib.hid hlse
  have HWL := Lib.hid (show ∀ x ∈ ls, x < 2 ^ FloatKind.f32.format.width from (EqOn.eqs hlse hlsl).lt)
  clear hq hlsl hlse hlso hrl hb4
  go_wp2_with fail
  refine (sSweeps_any a b R w.heap.size gv capv gl capl xs ls w.heap.size _ HR.out HPB4.out HKV.out HRV4.out HRL.out HNE.out H1.out HLS.out HWX.out HWL.out).mono ?_; rintro e w5 ⟨⟨es, rfl, hel, hew, hee, hve, hvl⟩, hg⟩
  have HEL := Lib.hid hel; have HEW := Lib.hid hew; have HEE := Lib.hid hee; have HVE := Lib.hid hve; have HVL := Lib.hid hvl
  have HPB5 := Lib.hid ((hg.block w.heap.size (Array.getElem?_eq_some_iff.1 HPB4.out).1 (fun e => HKV.out (Option.some.inj e))).trans HPB4.out)
  have HB5 := Lib.hid (HB4.out.grown hg HB4.out.size (fun k e => by cases e; exact (HRV4.out.lt gv rfl).1))
  clear hel hew hee hve hvl hg HRV HRV4 HRL HPB HPB2 HPB3 HPB4 HB3 HB4
  go_wp2_with fail
  have hfs := HVE.out.fs HEW.out
  rw [HEL.out] at hfs
  refine (sRest_any _ a b _ _ es zs _ (gp_of HPB5.out) hfs (HV.out.below HB5.out) (by rw [HEL.out]; exact H1.out) (by rw [HEL.out]; exact HLL.out)).mono ?_; rintro e w6 ⟨⟨q, rfl, hq⟩, hb6⟩
  rw [HEL.out] at hq
  obtain ⟨rs, hrl, hre, hro⟩ := hq
  have HRSL := Lib.hid hrl; have HRSE := Lib.hid (Eqs.on hre hrl); have HRSF := Lib.hid (fown_FS hro hre.lt)
  have HVE6 := Lib.hid (HVE.out.still hb6); have HVL6 := Lib.hid (HVL.out.still hb6)
  have HPB6 := Lib.hid ((hb6.block w.heap.size (Array.getElem?_eq_some_iff.1 HPB5.out).1).trans HPB5.out)
  have HB6 := Lib.hid (HB5.out.trans (hb6.mono HB5.out.size))
  clear hfs hrl hre hro hb6 HVE HVL HPB5 HB5
  go_wp2_with fail
  refine (sCoarse_any _ a b _ rs _ (gp_of HPB6.out) HRSF.out (by rw [HRSL.out]; exact H1.out) HH.out).mono ?_; rintro e w7 ⟨⟨q, rfl, hq⟩, hb7⟩
  rw [HM.out] at hq
  obtain ⟨gr, capr, cs, rfl, hcsl, hcse, hcso⟩ := fres_row hq hposm
  have hrr : RW w6.heap.size w7 gr capr cs := by show w7.ownsRow _ _ _ (.slice _ cs.length _) cs.length _; rw [hcsl]; exact hcso
  have HVE7 := Lib.hid (HVE6.out.still hb7); have HVL7 := Lib.hid (HVL6.out.still hb7)
  have HPB7 := Lib.hid ((hb7.block w.heap.size (Array.getElem?_eq_some_iff.1 HPB6.out).1).trans HPB6.out)
  have HB7 := Lib.hid (HB6.out.trans (hb7.mono HB6.out.size))
  have HGRV := Lib.hid (show gr ≠ gv from by have := (hrr.lt gr rfl).1; have := (HVE6.out.lt gv rfl).2; omega)
  have HGRL := Lib.hid (show gr ≠ gl from by have := (hrr.lt gr rfl).1; have := (HVL6.out.lt gl rfl).2; omega)
  have HGRW := Lib.hid (show gr ≠ w.heap.size from by have := (hrr.lt gr rfl).1; have := (Array.getElem?_eq_some_iff.1 HPB6.out).1; omega)
  have HRR := Lib.hid (hrr.le HB6.out.size); have HCL := Lib.hid hcsl; have HCE := Lib.hid hcse
  clear hq hcsl hcse hcso hrr hb7 HVE6 HVL6 HPB6 HB6
  go_wp2_with fail
  have hal := (Below.refl w7.heap.size w7).alloc (Nat.le_refl _) (.cells #[.int .i64 (a / 2), .int .i64 (b / 2)] 27)
  have HKH := Lib.hid (heap_alloc_new w7 (.cells #[.int .i64 (a / 2), .int .i64 (b / 2)] 27))
  have HVE8 := Lib.hid (HVE7.out.still hal); have HVL8 := Lib.hid (HVL7.out.still hal); have HRR8 := Lib.hid (HRR.out.still hal)
  have HPB8 := Lib.hid ((hal.block w.heap.size (Array.getElem?_eq_some_iff.1 HPB7.out).1).trans HPB7.out)
  have HB8 := Lib.hid (HB7.out.trans (hal.mono HB7.out.size))
  have HKR := Lib.hid (show gr ≠ w7.heap.size from by have := (HRR.out.lt gr rfl).2; omega)
  clear hal HVE7 HVL7 HRR HPB7 HB7
  generalize w7.alloc (.cells #[.int .i64 (a / 2), .int .i64 (b / 2)] 27) = w8 at HKH HVE8 HVL8 HRR8 HPB8 HB8 ⊢
  generalize w7.heap.size = kh at HKH HKR ⊢
  have hm256 : m ≤ 256 := (fieldOk_true HF.out.1).2.2.2.2.2
  go_loopw [52] (fun i wr => ∃ (k : Nat) (ks : List Nat), i = .int .i64 (k : Int) ∧ k ≤ m ∧ Hid (ks.length = m) ∧ Hid (EqOn ks (fun j => fop .mul .f32 1082130432 (csF a rs j)) 0 k) ∧ Hid (EqOn ks (csF a rs) k m) ∧ Hid (RW w.heap.size wr gr capr ks) ∧ Hid (RW w.heap.size wr gv capv es) ∧ Hid (RW w.heap.size wr gl capl ls) ∧ Hid (wr.heap[w.heap.size]? = some (.cells #[.int .i64 a, .int .i64 b] 27)) ∧ Hid (wr.heap[kh]? = some (.cells #[.int .i64 (a / 2), .int .i64 (b / 2)] 27)) ∧ Hid (Below w.heap.size w wr)) (fun i _ => m - (intOf i).toNat)
  case atStart => exact ⟨0, cs, rfl, Nat.zero_le _, HCL, Lib.hid (EqOn.none _ _ _), HCE, HRR8, HVE8, HVL8, HPB8, HKH, HB8⟩
  case round =>
    clear HRR8 HVE8 HVL8 HPB8 HKH HB8 HCL HCE
    obtain ⟨k, ks, rfl, hk, HKL, HK1, HK2, HRR, HVE, HVL, HPB, HKH, HB⟩ := hrel
    have hkl := HKL.out
    by_cases hlt : k < m
    · have xk := HRR.out.at (show k < ks.length by rw [hkl]; exact hlt)
      have hf := HRR.out.frozenAt k
      have ixk := HK2.out k (Nat.le_refl _) hlt
      have HFQ := Lib.hid (show (fun j => fop .mul .f32 1082130432 (csF a rs j)) k = fop .mul .f32 1082130432 (csF a rs k) from rfl)
      generalize csF a rs k = Y at ixk HFQ
      generalize ks.getD k 0 = y at xk ixk
      have iK0 : (0 : Int) ≤ (k : Int) := Int.natCast_nonneg _
      have iK1 : (k : Int) < (m : Int) := by omega
      go_wp2_with (first | (apply wpList_farith; rfl; rfl; rfl; rfl; (first | with_reducible assumption | exact Is.const rfl); (first | with_reducible assumption | exact Is.const rfl); intro r n hr))
      have PT := RW.put (show RW w.heap.size (wr.drewN n) gr capr ks from HRR.out) k r
      have HRR2 := Lib.hid PT.1
      have HVE2 := Lib.hid (RW.other (show RW w.heap.size (wr.drewN n) gv capv es from HVE.out) PT.2 (fun e => HGRV.out e.symm))
      have HVL2 := Lib.hid (RW.other (show RW w.heap.size (wr.drewN n) gl capl ls from HVL.out) PT.2 (fun e => HGRL.out e.symm))
      have HPB2 := Lib.hid ((PT.2.block w.heap.size (Array.getElem?_eq_some_iff.1 HPB.out).1 (fun e => HGRW.out (Option.some.inj e).symm)).trans (show (wr.drewN n).heap[w.heap.size]? = _ from HPB.out))
      have HKH2 := Lib.hid ((PT.2.block kh (Array.getElem?_eq_some_iff.1 HKH.out).1 (fun e => HKR.out (Option.some.inj e).symm)).trans (show (wr.drewN n).heap[kh]? = _ from HKH.out))
      have HB2 := Lib.hid ((below_drewN HB.out n).setCell (p := ⟨gr, k, none⟩) (HRR.out.lt gr rfl).1 (.float .f32 r))
      have HR := Lib.hid (show Is .f32 r ((fun j => fop .mul .f32 1082130432 (csF a rs j)) k) by rw [HFQ.out]; exact hr)
      clear PT xk hf hr
      go_roundw
      case rel => exact ⟨k + 1, ks.set k r, by go_num, by omega, Lib.hid (by rw [List.length_set]; exact hkl), Lib.hid (EqOn.set_up HK1.out (by rw [hkl]; exact hlt) HR.out), Lib.hid (EqOn.set_out (fun q h1 h2 => HK2.out q (by omega) h2) (by rw [hkl]; exact hlt) (.inl (Nat.lt_succ_self k))), HRR2, HVE2, HVL2, HPB2, HKH2, HB2⟩
      case measure => simp [intOf]; omega
    · have hk2 : k = m := by omega
      have HQE := Lib.hid (show EqOn ks (fun j => fop .mul .f32 1082130432 (csF a rs j)) 0 m by have := HK1.out; rw [hk2] at this; exact this)
      have HWQ := Lib.hid (show ∀ x ∈ ks, x < 2 ^ FloatKind.f32.format.width from (EqOn.eqs HQE.out hkl).lt)
      clear hk2 HK1 HK2
      go_wp2_with fail
      have hfs := HRR.out.fs HWQ.out
      rw [hkl] at hfs
      refine (sSolve_any (a / 2) (b / 2) 20 kh _ ks wr (by omega) HKH.out hfs (by rw [hkl]; exact HF.out.1)).mono ?_; rintro e w9 ⟨⟨q, rfl, hq⟩, hb9⟩
      rw [hkl] at hq
      obtain ⟨ss, hsl, hse, hso⟩ := hq
      have HSL := Lib.hid hsl; have HSE := Lib.hid (Eqs.on hse hsl); have HSF := Lib.hid (fown_FS hso hse.lt)
      have HVE9 := Lib.hid (HVE.out.still hb9); have HVL9 := Lib.hid (HVL.out.still hb9)
      have HPB9 := Lib.hid ((hb9.block w.heap.size (Array.getElem?_eq_some_iff.1 HPB.out).1).trans HPB.out)
      have HKH9 := Lib.hid ((hb9.block kh (Array.getElem?_eq_some_iff.1 HKH.out).1).trans HKH.out)
      have HB9 := Lib.hid (HB.out.trans (hb9.mono HB.out.size))
      clear hfs hsl hse hso hb9 HRR HVE HVL HPB HKH HB
      have HCO := Lib.hid (corr_of (a := a) (b := b) (es := es) (rs := rs) (qs := ks) (ss := ss) (L := lvlF zs) (by rw [HEL.out]; exact H1.out) (HRSL.out.trans HEL.out.symm) (by rw [HEL.out]; exact HRSE.out) (by rw [HM.out]; exact hkl) (by rw [HM.out]; exact HQE.out) (by rw [HM.out]; exact HSL.out) (by rw [HM.out]; exact HSE.out))
      go_wp2_with fail
      refine (sFine_any _ (a / 2) (b / 2) _ ss _ (gp_of HKH9.out) HSF.out (by rw [HSL.out]; exact HF.out.1) ⟨HF.out.2.2.2.2.1, HF.out.2.2.2.2.2⟩).mono ?_; rintro e w10 ⟨⟨q, rfl, hq⟩, hb10⟩
      rw [HF.out.2.1] at hq
      obtain ⟨gm, capm, ms, rfl, hml, hme, hmo⟩ := fres_row hq hpos
      have hrm : RW w9.heap.size w10 gm capm ms := by show w10.ownsRow _ _ _ (.slice _ ms.length _) ms.length _; rw [hml]; exact hmo
      have HVE10 := Lib.hid (HVE9.out.still hb10); have HVL10 := Lib.hid (HVL9.out.still hb10)
      have HPB10 := Lib.hid ((hb10.block w.heap.size (Array.getElem?_eq_some_iff.1 HPB9.out).1).trans HPB9.out)
      have HB10 := Lib.hid (HB9.out.trans (hb10.mono HB9.out.size))
      have HGMV := Lib.hid (show gm ≠ gv from by have := (hrm.lt gm rfl).1; have := (HVE9.out.lt gv rfl).2; omega)
      have HRM := Lib.hid (hrm.le HB9.out.size); have HML := Lib.hid hml; have HME := Lib.hid hme
      clear hq hml hme hmo hrm hb10 HVE9 HVL9 HPB9 HKH9 HB9
      go_wp2_with fail
      have hal := (Below.refl w10.heap.size w10).alloc (Nat.le_refl _) (.cells #[.int .i64 (2 * (a / 2)), .int .i64 (2 * (b / 2))] 27)
      have HVE11 := Lib.hid (HVE10.out.still hal); have HVL11 := Lib.hid (HVL10.out.still hal); have HRM11 := Lib.hid (HRM.out.still hal)
      have HPB11 := Lib.hid ((hal.block w.heap.size (Array.getElem?_eq_some_iff.1 HPB10.out).1).trans HPB10.out)
      have HB11 := Lib.hid (HB10.out.trans (hal.mono HB10.out.size))
      clear hal HVE10 HVL10 HRM HPB10 HB10
      generalize w10.alloc (.cells #[.int .i64 (2 * (a / 2)), .int .i64 (2 * (b / 2))] 27) = w11 at HVE11 HVL11 HRM11 HPB11 HB11 ⊢
      generalize w10.heap.size = kx
      have hn256 : xs.length ≤ 256 := HA.out.2.2.2.2.2
      go_loopw [72] (fun i wr => ∃ (k : Nat) (bs : List Nat), i = .int .i64 (k : Int) ∧ k ≤ xs.length ∧ Hid (bs.length = xs.length) ∧ Hid (EqOn bs (corrF a b es (lvlF zs)) 0 k) ∧ Hid (∀ j, k ≤ j → bs.getD j 0 = es.getD j 0) ∧ Hid (RW w.heap.size wr gv capv bs) ∧ Hid (RW w.heap.size wr gm capm ms) ∧ Hid (RW w.heap.size wr gl capl ls) ∧ Hid (wr.heap[w.heap.size]? = some (.cells #[.int .i64 a, .int .i64 b] 27)) ∧ Hid (Below w.heap.size w wr)) (fun i _ => xs.length - (intOf i).toNat)
      case atStart => exact ⟨0, es, rfl, Nat.zero_le _, HEL, Lib.hid (EqOn.none _ _ _), Lib.hid (fun _ _ => rfl), HVE11, HRM11, HVL11, HPB11, HB11⟩
      case round =>
        clear HVE11 HRM11 HVL11 HPB11 HB11
        obtain ⟨k, bs, rfl, hk, HBL, HB1, HB2, HVE, HRM, HVL, HPB, HB⟩ := hrel
        have hbl := HBL.out
        by_cases hlt : k < xs.length
        · have xk := HVE.out.at (show k < bs.length by rw [hbl]; exact hlt)
          have xm := HRM.out.at (show k < ms.length by rw [HML.out]; exact hlt)
          have hf := HVE.out.frozenAt k
          have ixk := FS.is HEW.out k (show k < es.length by rw [HEL.out]; exact hlt)
          have ixm := HME.out k (Nat.zero_le _) hlt
          rw [HB2.out k (Nat.le_refl _)] at xk
          have HFC := Lib.hid (HCO.out k)
          generalize cn .f32 (es.getD k 0) = X at ixk HFC
          generalize fnF (a / 2) ss k = Y at ixm HFC
          generalize es.getD k 0 = y at xk ixk
          generalize hmk : ms.getD k 0 = z at xm ixm
          have HMK := Lib.hid hmk
          have HLT := Lib.hid hlt
          have iK0 : (0 : Int) ≤ (k : Int) := Int.natCast_nonneg _
          have iK1 : (k : Int) < (xs.length : Int) := by omega
          clear hmk
          go_wp2_with fail
          refine wp_region_noPanic ?_
          refine wp_region_held_drew (S := fun w' => w'.cell? ⟨gm, k, none⟩ = some (.float .f32 z)) (by kernel_rfl) xm (fun hHeld => ?_)
          ((refine wpAnyH_take (i := 0) (v := ?_) rfl (by kernel_rfl) (by kernel_rfl) (by kernel_rfl) (fun _ _ _ h => h) (Or.inl ⟨by rfl, ?_⟩) (by assumption) ?_; rotate_left; (· intro w hSw; (try dsimp only at hSw); go_simp; first | done | with_reducible rfl); (try simp only [List.getElem_toArray, List.getElem_cons_zero, List.getElem_cons_succ, Act.put, List.setIfInBounds_toArray, List.set_cons_zero, List.set_cons_succ])); (refine wpAnyH_take (i := 1) (v := ?_) rfl (by kernel_rfl) (by kernel_rfl) (by kernel_rfl) (fun _ _ _ h => h) (Or.inl ⟨by rfl, ?_⟩) (by assumption) ?_; rotate_left; (· intro w hSw; (try dsimp only at hSw); go_simp; first | done | with_reducible rfl); (try simp only [List.getElem_toArray, List.getElem_cons_zero, List.getElem_cons_succ, Act.put, List.setIfInBounds_toArray, List.set_cons_zero, List.set_cons_succ])); (refine wpAnyH_take (i := 2) (v := ?_) rfl (by kernel_rfl) (by kernel_rfl) (by kernel_rfl) (fun _ _ _ h => h) (Or.inl ⟨by rfl, ?_⟩) (by assumption) ?_; rotate_left; (· intro w hSw; (try dsimp only at hSw); go_simp; first | done | with_reducible rfl); (try simp only [List.getElem_toArray, List.getElem_cons_zero, List.getElem_cons_succ, Act.put, List.setIfInBounds_toArray, List.set_cons_zero, List.set_cons_succ])); (refine wpAnyH_take (i := 3) (v := ?_) rfl (by kernel_rfl) (by kernel_rfl) (by kernel_rfl) (fun _ _ _ h => h) (Or.inl ⟨by rfl, ?_⟩) (by assumption) ?_; rotate_left; (· intro w hSw; (try dsimp only at hSw); go_simp; first | done | with_reducible rfl); (try simp only [List.getElem_toArray, List.getElem_cons_zero, List.getElem_cons_succ, Act.put, List.setIfInBounds_toArray, List.set_cons_zero, List.set_cons_succ])); (refine wpAnyH_take (i := 4) (v := ?_) rfl (by kernel_rfl) (by kernel_rfl) (by kernel_rfl) (fun _ _ _ h => h) (Or.inl ⟨by rfl, ?_⟩) (by assumption) ?_; rotate_left; (· intro w hSw; (try dsimp only at hSw); go_simp; first | done | with_reducible rfl); (try simp only [List.getElem_toArray, List.getElem_cons_zero, List.getElem_cons_succ, Act.put, List.setIfInBounds_toArray, List.set_cons_zero, List.set_cons_succ])); (refine wpAnyH_take (i := 6) (v := ?_) rfl (by kernel_rfl) (by kernel_rfl) (by kernel_rfl) (fun _ _ _ h => h) (Or.inl ⟨by rfl, ?_⟩) (by assumption) ?_; rotate_left; (· intro w hSw; (try dsimp only at hSw); go_simp; first | done | with_reducible rfl); (try simp only [List.getElem_toArray, List.getElem_cons_zero, List.getElem_cons_succ, Act.put, List.setIfInBounds_toArray, List.set_cons_zero, List.set_cons_succ])); (refine wpAnyH_take (i := 7) (v := ?_) rfl (by kernel_rfl) (by kernel_rfl) (by kernel_rfl) (fun _ _ _ h => h) (Or.inl ⟨by rfl, ?_⟩) (by assumption) ?_; rotate_left; (· intro w hSw; (try dsimp only at hSw); go_simp; first | done | with_reducible rfl); (try simp only [List.getElem_toArray, List.getElem_cons_zero, List.getElem_cons_succ, Act.put, List.setIfInBounds_toArray, List.set_cons_zero, List.set_cons_succ])); (refine wpAnyH_take (i := 8) (v := ?_) rfl (by kernel_rfl) (by kernel_rfl) (by kernel_rfl) (fun _ _ _ h => h) (Or.inl ⟨by rfl, ?_⟩) (by assumption) ?_; rotate_left; (· intro w hSw; (try dsimp only at hSw); go_simp; first | done | with_reducible rfl); (try simp only [List.getElem_toArray, List.getElem_cons_zero, List.getElem_cons_succ, Act.put, List.setIfInBounds_toArray, List.set_cons_zero, List.set_cons_succ])); (refine wpAnyH_take (i := 9) (v := ?_) rfl (by kernel_rfl) (by kernel_rfl) (by kernel_rfl) (fun _ _ _ h => h) (Or.inl ⟨by rfl, ?_⟩) (by assumption) ?_; rotate_left; (· intro w hSw; (try dsimp only at hSw); go_simp; first | done | with_reducible rfl); (try simp only [List.getElem_toArray, List.getElem_cons_zero, List.getElem_cons_succ, Act.put, List.setIfInBounds_toArray, List.set_cons_zero, List.set_cons_succ])))
          (refine wpAnyH_ready (rs := [5]) (by kernel_rfl) (by simp) ?_; refine AllReadyH.cons (i := 5) rfl (fun K hK => ?_) AllReadyH.nil)
          go_simp
          (refine hK.out _ _ (by go_keep) (fun hHeld => ?_); clear hK K; (try simp only [List.getElem_toArray, List.getElem_cons_zero, List.getElem_cons_succ, Act.put, List.setIfInBounds_toArray, List.set_cons_zero, List.set_cons_succ]))
          (refine wpAnyH_ready (rs := [10]) (by kernel_rfl) (by simp) ?_; refine AllReadyH.cons (i := 10) rfl (fun K hK => ?_) AllReadyH.nil)
          refine hstep_fa rfl .add 37 37 _ _ rfl rfl .f32 y z rfl rfl ixk ixm ?_
          intro r1 n1 hr1
          (refine hK.out _ _ (by go_keep) (fun hHeld => ?_); clear hK K; (try simp only [List.getElem_toArray, List.getElem_cons_zero, List.getElem_cons_succ, Act.put, List.setIfInBounds_toArray, List.set_cons_zero, List.set_cons_succ]))
          have PT := RW.put (show RW w.heap.size (wr.drewN (1 + n1)) gv capv bs from HVE.out) k r1
          have HVE5 := Lib.hid PT.1
          have HRM5 := Lib.hid (RW.other (show RW w.heap.size (wr.drewN (1 + n1)) gm capm ms from HRM.out) PT.2 HGMV.out)
          have HVL5 := Lib.hid (RW.other (show RW w.heap.size (wr.drewN (1 + n1)) gl capl ls from HVL.out) PT.2 HNE.out)
          have HPB5 := Lib.hid ((PT.2.block w.heap.size (Array.getElem?_eq_some_iff.1 HPB.out).1 (fun e => HKV.out (Option.some.inj e))).trans (show (wr.drewN (1 + n1)).heap[w.heap.size]? = _ from HPB.out))
          have HB5 := Lib.hid ((below_drewN HB.out (1 + n1)).setCell (p := ⟨gv, k, none⟩) (HVE.out.lt gv rfl).1 (.float .f32 r1))
          have HR5 := Lib.hid (show Is .f32 r1 (corrF a b es (lvlF zs) k) by rw [← HFC.out]; exact hr1)
          have cm := HRM5.out.at (show k < ms.length by rw [HML.out]; exact hlt)
          rw [HMK.out] at cm
          clear PT
          ((refine wpAnyH_take (i := 11) (v := ?_) rfl (by kernel_rfl) (by kernel_rfl) (by kernel_rfl) (fun _ _ _ h => h) (Or.inl ⟨by rfl, ?_⟩) (by assumption) ?_; rotate_left; (· intro w hSw; (try dsimp only at hSw); go_simp; first | done | with_reducible rfl); (try simp only [List.getElem_toArray, List.getElem_cons_zero, List.getElem_cons_succ, Act.put, List.setIfInBounds_toArray, List.set_cons_zero, List.set_cons_succ])))
          (refine wpAnyH_ready (rs := [12]) (by kernel_rfl) (by simp) ?_; refine AllReadyH.cons (i := 12) rfl (fun K hK => ?_) AllReadyH.nil)
          go_simp
          (refine hK.out _ _ (cm) (fun hHeld => ?_); clear hK K; (try simp only [List.getElem_toArray, List.getElem_cons_zero, List.getElem_cons_succ, Act.put, List.setIfInBounds_toArray, List.set_cons_zero, List.set_cons_succ]))
          (refine wpAnyH_done (by kernel_rfl) ?_ _; refine NoPanic.normal ?_)
          clear hHeld xk xm hf cm hr1
          go_wp2_with fail
          go_roundw
          case rel => exact ⟨k + 1, bs.set k r1, by go_num, by omega, Lib.hid (by rw [List.length_set]; exact hbl), Lib.hid (EqOn.set_up HB1.out (by rw [hbl]; exact hlt) HR5.out), Lib.hid (fun j hj => by rw [getD_set _ _ _ _ (by rw [hbl]; exact HLT.out), if_neg (by omega)]; exact HB2.out j (by omega)), HVE5, HRM5, HVL5, HPB5, HB5⟩
          case measure => simp [intOf]; omega
        · have hk2 : k = xs.length := by omega
          have HBE := Lib.hid (show EqOn bs (corrF a b es (lvlF zs)) 0 xs.length by have := HB1.out; rw [hk2] at this; exact this)
          have HWB := Lib.hid (show ∀ x ∈ bs, x < 2 ^ FloatKind.f32.format.width from (EqOn.eqs HBE.out hbl).lt)
          clear hk2 HB1 HB2
          go_wp2_with fail
          have hh := sSweeps_any a b R w.heap.size gv capv gl capl bs ls w.heap.size wr HR.out HPB.out HKV.out HVE.out HVL.out HNE.out (by rw [hbl]; exact H1.out) (by rw [hbl]; exact HLS.out) HWB.out HWL.out
          rw [hbl] at hh
          refine hh.mono ?_; clear hh; rintro e w12 ⟨⟨fs, rfl, hfl, hfw, hfe, hvf, _⟩, hg⟩
          have HRES := Lib.hid (RW.res hvf hfl (twoF_of H1.out HLE.out HEL.out HEE.out (HBE.out.congr fun j hj => corrF_congr ⟨rfl, fun _ => rfl⟩ (fun i hi => (HLE.out i (Nat.zero_le _) (by rw [HEL.out] at hi; exact hi)).eq.symm) j) hfe))
          have HD12 := Lib.hid (HB.out.grown hg HB.out.size (fun k e => by cases e; exact (HVE.out.lt gv rfl).1))
          clear hfl hfw hfe hvf hg
          go_wp2_with fail
          go_ret2
          exact ⟨⟨_, rfl, HRES.out⟩, HD12.out⟩
end Go.Proofs.Ytjfnecmnofcjbaa
