/- FnDeposits: for all two lists of bytes the law returns true: what they draw is a grid and a list of particles; the numbers of the field that they leave add up to their charge, particles that are moved by whole cells leave what is moved by these, and each particle is counted in one cell. No condition. -/
import Derived.Test.YtnknhfhllifnhaaRows
import Derived.WalkKit
import Derived.ProofKit
import Derived.OpenShut
import Derived.ShutString
import Derived.ChangeOld
import Derived.Below
import Derived.Laws.Cover2
import Derived.Test.YtnknhfhllifnhaaTot
import Derived.Test.YtnknhfhllifnhaaDep
import Derived.Test.YtnknhfhllifnhaaChg
import Derived.Test.YtnknhfhllifnhaaShP
import Derived.Test.YtnknhfhllifnhaaCnt
import Derived.Test.YtnknhfhllifnhaaR8L
import Derived.Test.YtnknhfhllifnhaaR8
import Derived.Test.YtnknhfhllifnhaaLng
import Derived.Test.YtnknhfhllifnhaaShift
namespace Go.Proofs.Ytnknhfhllifnhaa.fnDeposits
open Go.ChangeShapes Go.WideShapes Go.ChangeAt Go.RowKit Go.Fl
open Go.ChangeMaps (open_string shut_string)
set_option linter.unusedVariables false
open Go.Nl (NS)

theorem dyl_lt {xs : List Nat} {F : Nat → Int} (h : DyL xs F) : ∀ x ∈ xs, x < 2 ^ FloatKind.f32.format.width := by
  intro x hx
  obtain ⟨j, hj, rfl⟩ := List.mem_iff_getElem.1 hx
  have := (h j hj).lt
  rwa [List.getD_eq_getElem?_getD, List.getElem?_eq_getElem hj, Option.getD_some] at this
theorem own_fs {B : Nat} {w : World} {v : Value} {xs : List Nat} (h : FOwn B w v xs) (hp : 0 < xs.length) (hw : ∀ x ∈ xs, x < 2 ^ FloatKind.f32.format.width) : FS .f32 w v xs := by
  obtain ⟨g, cap, rfl⟩ := Joins.ownsRow_form h hp
  exact own_FS h hw
theorem sum_map (f g : Pt → Int) (m : Pt → Pt) (ts : List Pt) (h : ∀ t, f (m t) = g t) (k : Nat) : sumI f (ts.map m) k = sumI g ts k := by
  unfold sumI
  rw [← List.map_take, List.map_map]
  congr 2
  funext t
  exact h t

set_option maxHeartbeats 2000000 in
set_option maxRecDepth 100000 in
theorem walk (a0 : Option Addr) (len0 cap0 : Nat) (z0 : List Int) (a1 : Option Addr) (len1 cap1 : Nat) (z1 : List Int) (w : World) (w0 : NS .u8 w (.slice a0 len0 cap0) z0) (w1 : NS .u8 w (.slice a1 len1 cap1) z1) :
    Calls Try.prog 3 #[.slice a0 len0 cap0, .slice a1 len1 cap1] w fun e w' => e = .returned (.bool true) ∧ Below w.heap.size w w' := by
  have HC := Lib.hid w0
  have HM := Lib.hid w1
  clear w0 w1
  by_cases hl : (48 < len0 ∨ 48 < len1)
  · have HL := Lib.hid (show decide (48 < len0 ∨ 48 < len1) = true from decide_eq_true hl)
    clear hl
    go_enter Try.func3, Try.ntmps3
    go_wp2_with fail
    refine (lLong_any _ _ _ _ _ _ _).mono ?_; rw [HL.out]; rintro e w' ⟨rfl, rfl⟩
    go_wp2_with fail
    go_ret
    exact ⟨rfl, Below.refl _ _⟩
  have HL := Lib.hid (show decide (48 < len0 ∨ 48 < len1) = false from decide_eq_false hl)
  clear hl
  go_enter Try.func3, Try.ntmps3
  go_wp2_with fail
  refine (lLong_any _ _ _ _ _ _ _).mono ?_; rw [HL.out]; rintro e w' ⟨rfl, rfl⟩
  go_wp2_with fail
  refine (sR8Grid_any _ z0 _ HC.out).mono ?_; rintro e v1 ⟨a, b, ha, ha', hb, hb', rfl, hb1⟩
  have hp2 := gp_new v1 a b 25
  have hal := (Below.refl v1.heap.size v1).alloc (Nat.le_refl _) (.cells #[.int .i64 a, .int .i64 b] 25)
  go_wp2_with fail
  generalize v1.alloc (.cells #[.int .i64 a, .int .i64 b] 25) = v2 at hp2 hal ⊢
  have HB2 := Lib.hid (hb1.trans (hal.mono hb1.size))
  have HP := Lib.hid hp2
  clear hp2 hal hb1
  refine (sList_any _ z1 _ (HM.out.below HB2.out)).mono ?_
  rintro e v3 ⟨V1, ts, rfl, hts, hdr, O1, hb3⟩
  have HO1 := Lib.hid O1; have HK := Lib.hid hdr.oks; have HAT := Lib.hid hdr.at0
  have D3 := Lib.hid hb3
  clear O1 hb3 hdr
  have g0 := (HP.out.ever _ D3.out).1; have g1 := (HP.out.ever _ D3.out).2
  have hm1 : a * b ≤ 7 * 6 := Int.mul_le_mul ha' hb' (by omega) (by omega)
  have hm0 : 4 * 4 ≤ a * b := Int.mul_le_mul ha hb (by omega) (by omega)
  go_wp2_with fail
  refine (iDeposit_pt a b ha ha' hb (by omega) _ _ ts _ HO1.out HK.out (by omega)).mono ?_
  rintro e v4 ⟨⟨V2, xs, rfl, O2, hxl, hdy⟩, hb4⟩
  have HF := Lib.hid (own_fs O2 (by omega) (dyl_lt hdy)); have HX := Lib.hid hdy; have HXL := Lib.hid hxl
  have HO1 := Lib.hid (r4_below HO1.out hb4)
  have D4 := Lib.hid (D3.out.trans (hb4.mono D3.out.size))
  have hn256 : xs.length ≤ 42 := by omega
  have hn16 : 16 ≤ xs.length := by omega
  have HOK := Lib.hid (show fieldOk a b xs.length = true from by unfold fieldOk; rw [small_grid ha ha' hb (by omega), wrap_i64, wrap64_of (by omega) (by omega), hxl]; simp)
  obtain ⟨g2, cap2, rfl⟩ := Joins.ownsRow_form O2 (by omega)
  clear O2 hdy hb4 g0 g1 D3 hxl hm1 hm0
  go_wp2_with fail
  refine (iTotalOf_yes _ xs _ HF.out (by omega)).mono ?_
  rintro e v5 ⟨⟨r5, rfl, hr5⟩, n5, rfl⟩
  have hT := sumTo_dy HX.out 24576 (fun j => by have := sumI_le (depAt a b j) ts 4096 (fun t ht => dep_in (HK.out t ht) j) ts.length (Nat.le_refl _); omega) xs.length (Nat.le_refl _) (by omega)
  rw [sumN_sumI (depAt a b) ts xs.length ts.length (Nat.le_refl _), show (fun t => sumN (fun j => depAt a b j t) xs.length) = (fun t => chgI t * 64) from funext fun t => dep_sum a b ha hb xs.length HXL.out t, sumI_mul chgI 64 ts ts.length (Nat.le_refl _)] at hT
  have HT5 := Lib.hid (dyis hT hr5)
  clear hr5 hT
  go_wp2_with fail
  refine (iCharge_pt _ _ ts _ (r4_below HO1.out (below_drewN (Below.refl _ _) n5)) HK.out (by omega)).mono ?_
  rintro e v6 ⟨⟨r6, rfl, hr6⟩, hb6⟩
  have HT6 := Lib.hid (dy_units hr6)
  have D6 := Lib.hid ((below_drewN D4.out n5).trans (hb6.mono (show v2.heap.size ≤ _ from D4.out.size)))
  have HO1 := Lib.hid (r4_below (r4_below HO1.out (below_drewN (Below.refl _ _) n5)) hb6); have HF := Lib.hid ((HF.out.drewN n5).below hb6)
  clear hr6 hb6 D4
  go_wp2_with fail
  refine (lAt_any _ _ _ z1 0 (.inl rfl) _ (HM.out.below (HB2.out.trans (D6.out.mono HB2.out.size)))).mono ?_
  rintro e w' ⟨⟨x, rfl, hx0, hx1⟩, rfl⟩
  have hwx : wrap64 (x - 4) = x - 4 := wrap64_of (by omega) (by omega)
  go_wp2_with fail
  refine (lAt_any _ _ _ z1 1 (.inr rfl) _ (HM.out.below (HB2.out.trans (D6.out.mono HB2.out.size)))).mono ?_
  rintro e w' ⟨⟨y, rfl, hy0, hy1⟩, rfl⟩
  have hwy : wrap64 (y - 4) = y - 4 := wrap64_of (by omega) (by omega)
  have g0 := (HP.out.ever _ D6.out).1; have g1 := (HP.out.ever _ D6.out).2
  go_wp2_with fail
  clear hwx hwy
  have hX : -4 ≤ x - 4 ∧ x - 4 ≤ 4 := by omega
  have hY : -4 ≤ y - 4 ∧ y - 4 ≤ 4 := by omega
  generalize x - 4 = X at hX ⊢
  generalize y - 4 = Y at hY ⊢
  rw [flt_e8 hX.1 hX.2, flt_e8 hY.1 hY.2]
  refine (iShiftP_pt a b X Y ha ha' hb (by omega) hX hY _ _ ts _ HO1.out HK.out HAT.out (by omega)).mono ?_
  rintro e v7 ⟨⟨V3, rfl, O3⟩, hb7⟩
  have HO3 := Lib.hid O3; have HO1 := Lib.hid (r4_below HO1.out hb7); have HF := Lib.hid (HF.out.below hb7)
  have D7 := Lib.hid (D6.out.trans (hb7.mono D6.out.size))
  have HK3 := Lib.hid (oks_mv (x := X) (y := Y) HK.out ha ha' hb (show b ≤ 7 by omega))
  have HL3 := Lib.hid (show (ts.map (Pt.mv a b X Y)).length = ts.length by simp)
  clear O3 hb7 g0 g1 D6 hx0 hx1 hy0 hy1
  have g0 := (HP.out.ever _ D7.out).1; have g1 := (HP.out.ever _ D7.out).2
  go_wp2_with fail
  refine (iDeposit_pt a b ha ha' hb (by omega) _ _ (ts.map (Pt.mv a b X Y)) _ HO3.out HK3.out (by rw [HL3.out]; omega)).mono ?_
  rintro e v8 ⟨⟨V4, ys, rfl, O4, hyl, hdy4⟩, hb8⟩
  have hyn : ys.length = xs.length := by have := HXL.out; omega
  have HF4 := Lib.hid (own_fs O4 (by omega) (dyl_lt hdy4))
  have HY4 := Lib.hid (show DyL ys (fun j => sumI (depAt a b (shI a b X Y (j % a.toNat) (j / a.toNat))) ts ts.length) from fun j hj => by
    have h1 := hdy4 j hj
    rw [HL3.out] at h1
    show Dy .f32 140 _ (sumI (depAt a b (shI a b X Y (j % a.toNat) (j / a.toNat))) ts ts.length)
    rw [← sum_map (depAt a b j) (depAt a b (shI a b X Y (j % a.toNat) (j / a.toNat))) (Pt.mv a b X Y) ts (fun t => dep_mv ha ha' hb (by omega) X Y j (by have := HXL.out; omega) t) ts.length]
    exact h1)
  have HO1 := Lib.hid (r4_below HO1.out hb8); have HF := Lib.hid (HF.out.below hb8)
  have D8 := Lib.hid (D7.out.trans (hb8.mono D7.out.size))
  clear O4 hdy4 hb8 g0 g1 D7 hyl HO3 HK3 HL3
  have g0 := (HP.out.ever _ D8.out).1; have g1 := (HP.out.ever _ D8.out).2
  go_wp2_with fail
  refine (iShift_yes a b _ xs X Y _ HF.out HOK.out (by omega) (by omega)).mono ?_
  rintro e v9 ⟨⟨V5, rfl, ⟨rs, hrl, hre, O5⟩⟩, hb9⟩
  have HY5 := Lib.hid (show DyL rs (fun j => sumI (depAt a b (shI a b X Y (j % a.toNat) (j / a.toNat))) ts ts.length) from fun j hj => by
    have h1 := hre j hj
    have h2 := (shI_facts (a := a) (b := b) X Y (j % a.toNat) (j / a.toNat) ha hb).2
    have h3 := HX.out (shI a b X Y (j % a.toNat) (j / a.toNat)) (by have := HXL.out; omega)
    unfold shF at h1
    rw [cn_of .f32 h3.nan] at h1
    exact dyis h3 h1)
  have HF5 := Lib.hid (own_fs O5 (by omega) (dyl_lt HY5.out))
  have HO1 := Lib.hid (r4_below HO1.out hb9); have HF := Lib.hid (HF.out.below hb9); have HF4 := Lib.hid (HF4.out.below hb9)
  have D9 := Lib.hid (D8.out.trans (hb9.mono D8.out.size))
  clear O5 hre hb9 g0 g1 D8
  have g0 := (HP.out.ever _ D9.out).1; have g1 := (HP.out.ever _ D9.out).2
  go_wp2_with fail
  refine (iCount_pt a b ha ha' hb (by omega) _ _ ts _ HO1.out HK.out (by omega)).mono ?_
  rintro e v10 ⟨⟨gc, nc, cs, rfl, IC, hcn, hci⟩, hb10⟩
  have HIC := Lib.hid IC; have HCI := Lib.hid hci; have HCN := Lib.hid hcn
  have HO1 := Lib.hid (r4_below HO1.out hb10); have HF := Lib.hid (HF.out.below hb10); have HF4 := Lib.hid (HF4.out.below hb10); have HF5 := Lib.hid (HF5.out.below hb10)
  have D10 := Lib.hid (D9.out.trans (hb10.mono D9.out.size))
  clear IC hcn hci hb10 g0 g1 D9
  have g0 := (HP.out.ever _ D10.out).1; have g1 := (HP.out.ever _ D10.out).2
  go_wp2_with fail
  refine (iIsField_any a b _ _ _ _).mono ?_
  rintro e v11 ⟨rfl, hb11⟩
  rw [HOK.out]
  have HO1 := Lib.hid (r4_below HO1.out hb11); have HF4 := Lib.hid (HF4.out.below hb11); have HF5 := Lib.hid (HF5.out.below hb11); have HIC := Lib.hid (HIC.out.kept hb11)
  have D11 := Lib.hid (D10.out.trans (hb11.mono D10.out.size))
  have i5 := HT5.out.is; have i6 := HT6.out.is
  have hq : fcmp .neq .f32 r5 r6 = false := by rw [HT5.out.dv.neq HT6.out.dv]; simp
  clear hb11 g0 g1 D10
  go_wp2_with (apply wpList_fcmp; rfl; rfl; rfl; rfl; (first | with_reducible assumption | exact Is.const rfl); (first | with_reducible assumption | exact Is.const rfl); (first | with_reducible assumption | exact rfl))
  refine (lEqual_any _ _ ys rs _ _ HF4.out HF5.out (by omega) (by omega) HY4.out HY5.out).mono ?_
  rintro e v12 ⟨rfl, n12, rfl⟩
  have HO1 := Lib.hid (r4_below HO1.out (below_drewN (Below.refl _ _) n12)); have HIC := Lib.hid (HIC.out.kept (below_drewN (Below.refl _ _) n12))
  have D12 := Lib.hid (below_drewN D11.out n12)
  clear i5 i6 hq D11 HF4 HF5 HF HY4 HY5 HX HT5 HT6 hrl hyn
  go_wp2_with fail
  have HCB := Lib.hid (fun k => sumN_le (fun j => sumI (cntAt a b j) ts ts.length) 6 k (fun j => by have := sumI_le (cntAt a b j) ts 1 (fun t ht => cnt_in t j) ts.length (Nat.le_refl _); omega))
  have HCE := Lib.hid (show sumN (fun j => sumI (cntAt a b j) ts ts.length) nc = (ts.length : Int) from by
    rw [sumN_sumI (cntAt a b) ts nc ts.length (Nat.le_refl _), sumI_const _ 1 ts (fun t => cnt_sum a b ha hb nc HCN.out t) ts.length (Nat.le_refl _), Int.one_mul])
  have hnc : nc ≤ 42 := by have := HCN.out; have := HXL.out; omega
  obtain ⟨av1, capv1, rfl, _⟩ := p_form HO1.out
  go_loopw [23, 24] (fun s i wr => ∃ k : Nat, k ≤ nc ∧ i = .int .i64 (k : Int) ∧ s = .int .i64 (sumN (fun j => sumI (cntAt a b j) ts ts.length) k) ∧ wr = v11.drewN n12) (fun _ i _ => nc - (intOf i).toNat)
  case atStart => exact ⟨0, by omega, rfl, rfl, rfl⟩
  case round =>
    obtain ⟨k, hk, rfl, rfl, rfl⟩ := hrel
    by_cases hlt : k < nc
    · have xk := HIC.out.at hlt
      rw [HCI.out k (by rw [HIC.out.1]; exact hlt)] at xk
      have b1 := HCB.out k
      have b2 := HCB.out (k + 1)
      have e1 : sumN (fun j => sumI (cntAt a b j) ts ts.length) (k + 1) = sumN (fun j => sumI (cntAt a b j) ts ts.length) k + sumI (cntAt a b k) ts ts.length := rfl
      have HE1 := Lib.hid e1
      rw [e1] at b2
      dsimp only at xk
      have hj : (k : Int) < (nc : Int) := by omega
      clear e1
      generalize hz : sumI (cntAt a b k) ts ts.length = z at xk b2 HE1
      generalize hs : sumN (fun j => sumI (cntAt a b j) ts ts.length) k = S at b1 b2 HE1 ⊢
      have b3 : -1000 ≤ S ∧ S ≤ 1000 := by omega
      have b4 : -1000 ≤ S + z ∧ S + z ≤ 1000 := by have : (6 : Int) * ((k + 1 : Nat) : Int) ≤ 6 * 42 := by omega
                                                   omega
      have hw1 : wrap64 (S + z) = S + z := wrap64_of (by omega) (by omega)
      clear b1 b2 hz hs
      go_wp2_with fail
      go_roundw
      case rel => exact ⟨k + 1, by omega, by go_num, by rw [HE1.out], trivial⟩
      case measure => simp [intOf]; omega
    · obtain rfl : k = nc := by omega
      clear hlt
      rw [HCE.out]
      go_wp2_with fail
      refine (iAre_pt _ _ ts _ HO1.out HK.out (by omega)).mono ?_
      rintro e v13 ⟨rfl, hb13⟩
      have D13 := Lib.hid (HB2.out.trans ((D12.out.trans (hb13.mono (show v2.heap.size ≤ _ from D12.out.size))).mono HB2.out.size))
      clear hb13
      go_wp2_with fail
      go_ret
      exact ⟨by first | rfl | simp, D13.out⟩
/-! ### from the walk to the statement -/
theorem own : ownKnob Try.prog.godebug = none := by kernel_rfl
theorem laidOut : laidOutB Try.prog = true := by kernel_rfl
set_option maxRecDepth 100000 in
theorem lifted (os : Os) (started : os.Started) (H : Type) (enc : TypeId × Value → H) :
    ReturnsInHanded {} Try.checked os 3 .any (Rows.fnDepositsSpec.pre6 enc Try.prog Try.f3 Rows.fnDepositsRow.domain false) (Rows.fnDepositsSpec.post enc Try.prog Try.f3 false true false false) := by
  refine returnsInHanded_of_change (C := Try.checked) own started (by kernel_rfl) Try.func3
    (ChangeSpec.witness6 (enc := enc) (C := Try.checked) false ⟨#[], #[.slice none 0 0, .slice none 0 0], []⟩ 8 (by kernel_rfl) (by kernel_rfl) (by kernel_rfl) (by kernel_rfl)) ?_
  intro W base args ds gs before hval0 hW hcnd _
  have hval : ∀ (j : Nat) t v, Try.f3.params[j]? = some t → args[j]? = some v → Value.okWide Try.prog W .any base t v := hval0
  have hW' := hW
  obtain ⟨p, q, hA0, hV, rfl, hfz, hnd⟩ := hW
  have hA : DataW.TrodAll enc Try.prog W 0 (fun _ => true) true Try.f3.params.toList args.toList ds p := hA0
  rw [Try.params3] at hA hval
  obtain ⟨v0, vs0, d0, ds0, p0, q0, hargs, rfl, rfl, h0, r0⟩ := trodAll_cons hA
  obtain ⟨v1, vs1, d1, ds1, p1, q1, rfl, rfl, rfl, h1, r1⟩ := trodAll_cons r0
  obtain ⟨rfl, rfl, rfl⟩ := trodAll_nil r1
  obtain rfl : args = #[v0, v1] := by cases args; simp_all
  obtain ⟨rfl, rfl⟩ := trodVars_none hV
  obtain ⟨a0, len0, cap0, rfl⟩ := okWide_slice Try.underlying22 (hval 0 22 v0 rfl rfl)
  have k0 := h0
  have lt0 : ∀ x ∈ p0, x.block < W.heap.size := by obtain ⟨m, hm⟩ := k0; exact DataW.trod_lt m _ _ _ hm
  obtain ⟨z0, w0⟩ : ∃ zs, Nl.NS .u8 W (.slice a0 len0 cap0) zs := Nl.open_nums Try.underlying22 Try.underlying5 (by kernel_rfl) h0
  obtain ⟨a1, len1, cap1, rfl⟩ := okWide_slice Try.underlying22 (hval 1 22 v1 rfl rfl)
  have k1 := h1
  have lt1 : ∀ x ∈ p1, x.block < W.heap.size := by obtain ⟨m, hm⟩ := k1; exact DataW.trod_lt m _ _ _ hm
  obtain ⟨z1, w1⟩ : ∃ zs, Nl.NS .u8 W (.slice a1 len1 cap1) zs := Nl.open_nums Try.underlying22 Try.underlying5 (by kernel_rfl) h1
  clear hA0 hval0
  refine (walk a0 len0 cap0 z0 a1 len1 cap1 z1 W w0 w1).mono fun e W' ⟨he, bel⟩ => ?_
  subst he
  exact ⟨_, rfl, _, _, _, [], _, [], hW', trodAll_mk1 (shut_bool Try.underlying4 _), (trodAll_cons_mk (Below.trod laidOut (by kernel_rfl) (of_decide_eq_true (by kernel_rfl)) k0 bel lt0) (trodAll_cons_mk (Below.trod laidOut (by kernel_rfl) (of_decide_eq_true (by kernel_rfl)) k1 bel lt1) trodAll_mk0)), rfl, bel.frame _, fun h => by cases h⟩

theorem over : Rows.fnDepositsRow.holds Try.pinned (OpenSpec.ofChange Rows.fnDepositsSpec) :=
  OpenClaim.holds_of_wide 3 Try.f3 rfl rfl rfl rfl rfl rfl rfl ⟨rfl, rfl, rfl, rfl, rfl⟩ rfl rfl rfl rfl rfl (by kernel_rfl) Try.func3 (by kernel_rfl)
    (of_decide_eq_true (by kernel_rfl)) (by unfold Func.isWrapper; first | (rw [if_pos (by decide +kernel)]; kernel_rfl) | (rw [if_neg (by decide +kernel)]; exact ⟨rfl, rfl⟩))
    (fun os started H enc _ => lifted os started H enc)

/-- The statement. -/
theorem proved : Rows.FnDepositsSaid := over
#print axioms proved
end Go.Proofs.Ytnknhfhllifnhaa.fnDeposits
