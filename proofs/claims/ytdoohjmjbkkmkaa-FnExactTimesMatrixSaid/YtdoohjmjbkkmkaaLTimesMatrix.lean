/- FnExactTimesMatrix: for all arguments the law returns true: TimesMatrix answers as its model does, in all results, its arguments read as before, and its result is memory of its own. No condition. -/
import Derived.Test.YtdoohjmjbkkmkaaRows
import Derived.WalkKit
import Derived.ProofKit
import Derived.OpenShut
import Derived.ShutString
import Derived.ChangeOld
import Derived.Below
import Derived.Laws.Cover2
import Derived.Test.YtdoohjmjbkkmkaaMatT
import Derived.Test.YtdoohjmjbkkmkaaMarkG
import Derived.Test.YtdoohjmjbkkmkaaOwnE
namespace Go.Proofs.Ytdoohjmjbkkmkaa.fnExactTimesMatrix
open Go.ChangeShapes Go.WideShapes Go.ChangeAt Go.RowKit Go.Fl
open Go.ChangeMaps (open_string shut_string)
set_option linter.unusedVariables false

set_option maxHeartbeats 4000000 in
set_option maxRecDepth 100000 in
theorem walk (a0 : Option Addr) (len0 cap0 : Nat) (z0 : List Nat) (a1 : Option Addr) (len1 cap1 : Nat) (z1 : List Nat) (w : World) (w0 : FS .f32 w (.slice a0 len0 cap0) z0) (w1 : FS .f32 w (.slice a1 len1 cap1) z1) :
    Calls Try.prog 5 #[.slice a0 len0 cap0, .slice a1 len1 cap1] w fun e w' => e = .returned (.bool true) ∧ Below w.heap.size w w' := by
  obtain ⟨e0, W0⟩ := fs_open w0
  subst e0
  have HV0 := Lib.hid w0; have HW0 := Lib.hid W0.2; have hcm0 := W0.1
  clear w0 W0
  obtain ⟨e1, W1⟩ := fs_open w1
  subst e1
  have HV1 := Lib.hid w1; have HW1 := Lib.hid W1.2; have hcm1 := W1.1
  clear w1 W1
  by_cases q0 : 1048576 < z0.length
  · have hd0 : decide ((1048576 : Int) < (z0.length : Int)) = true := by simp; omega
    go_enter Try.func5, Try.ntmps5
    go_wp2_with fail
    go_ret
    exact ⟨rfl, Below.refl _ _⟩
  have hd0 : decide ((1048576 : Int) < (z0.length : Int)) = false := by simp; omega
  have hn0 : z0.length ≤ 1048576 := by omega
  clear q0
  by_cases q1 : 1048576 < z1.length
  · have hd1 : decide ((1048576 : Int) < (z1.length : Int)) = true := by simp; omega
    go_enter Try.func5, Try.ntmps5
    go_wp2_with fail
    go_ret
    exact ⟨rfl, Below.refl _ _⟩
  have hd1 : decide ((1048576 : Int) < (z1.length : Int)) = false := by simp; omega
  have hn1 : z1.length ≤ 1048576 := by omega
  clear q1
  have hNb := lenTimesMatrix_le z0 z1 hn0 hn1
  obtain ⟨ok, hok⟩ : ∃ ok, okTimesMatrix z0 z1 = ok := ⟨_, rfl⟩
  have HOK := Lib.hid hok
  obtain ⟨N, hN⟩ : ∃ N, lenTimesMatrix z0 z1 = N := ⟨_, rfl⟩
  rw [hN] at hNb
  have HN := Lib.hid hN
  clear hok hN
  go_enter Try.func5, Try.ntmps5
  go_wp2_with fail
  clear hd0 hd1
  have HB := Lib.hid (Below.refl w.heap.size w)
  have HU0 := HV0
  have HU1 := HV1
  obtain ⟨w1, e1⟩ : ∃ w1, w1 = w := ⟨_, rfl⟩
  subst e1
  have D1 := Lib.hid (Below.refl w1.heap.size w1)
  refine (toF_any _ z0 _ (HU0.out.below D1.out) hn0).mono ?_; rintro e w2 ⟨⟨gs0, rfl, ho⟩, hb⟩
  have D2 := Lib.hid (D1.out.trans (hb.mono D1.out.size)); have S2 := Lib.hid (hb.size)
  clear hb
  have Os0 := Lib.hid (show FOwnE w1.heap.size w2 (.slice (some ⟨gs0, 0, none⟩) z0.length z0.length) z0 from FOwn.toE ho)
  have Rs0 := Lib.hid Os0.out.lt
  clear ho
  go_wp2_with fail
  refine (toF_any _ z1 _ (HU1.out.below D2.out) hn1).mono ?_; rintro e w3 ⟨⟨gs1, rfl, ho⟩, hb⟩
  have D3 := Lib.hid (D2.out.trans (hb.mono D2.out.size)); have S3 := Lib.hid (hb.size)
  replace Os0 := Lib.hid (fownE_below Os0.out hb)
  clear hb
  have Os1 := Lib.hid (show FOwnE w2.heap.size w3 (.slice (some ⟨gs1, 0, none⟩) z1.length z1.length) z1 from FOwn.toE ho)
  have Rs1 := Lib.hid Os1.out.lt
  clear ho
  go_wp2_with fail
  refine (sTimesMatrix_any _ z0 _ z1 _ (fownE_FS Os0.out HW0.out) hn0 (fownE_FS Os1.out HW1.out) hn1).mono ?_; rintro e w4 ⟨⟨vS, rfl, hr⟩, hb⟩
  have D4 := Lib.hid (D3.out.trans (hb.mono D3.out.size)); have S4 := Lib.hid (hb.size)
  replace Os0 := Lib.hid (fownE_below Os0.out hb)
  replace Os1 := Lib.hid (fownE_below Os1.out hb)
  clear hb
  rw [HN.out] at hr
  rw [HOK.out]
  obtain ⟨rsS0, hl, he, ho⟩ := hr
  have LS0 := Lib.hid hl; have ES0 := Lib.hid he; have OS0 := Lib.hid ho; have RS0 := Lib.hid ho.lt
  clear hl he ho
  clear Os0 Rs0
  clear Os1 Rs1
  go_wp2_with fail
  refine (toF_any _ z0 _ (HU0.out.below D4.out) hn0).mono ?_; rintro e w5 ⟨⟨gx0, rfl, ho⟩, hb⟩
  have D5 := Lib.hid (D4.out.trans (hb.mono D4.out.size)); have S5 := Lib.hid (hb.size)
  replace OS0 := Lib.hid (fownE_below OS0.out hb)
  clear hb
  have Ox0 := Lib.hid (show FOwnE w4.heap.size w5 (.slice (some ⟨gx0, 0, none⟩) z0.length z0.length) z0 from FOwn.toE ho)
  have Rx0 := Lib.hid Ox0.out.lt
  clear ho
  go_wp2_with fail
  refine (toF_any _ z1 _ (HU1.out.below D5.out) hn1).mono ?_; rintro e w6 ⟨⟨gx1, rfl, ho⟩, hb⟩
  have D6 := Lib.hid (D5.out.trans (hb.mono D5.out.size)); have S6 := Lib.hid (hb.size)
  replace OS0 := Lib.hid (fownE_below OS0.out hb)
  replace Ox0 := Lib.hid (fownE_below Ox0.out hb)
  clear hb
  have Ox1 := Lib.hid (show FOwnE w5.heap.size w6 (.slice (some ⟨gx1, 0, none⟩) z1.length z1.length) z1 from FOwn.toE ho)
  have Rx1 := Lib.hid Ox1.out.lt
  clear ho
  go_wp2_with fail
  refine (iTimesMatrix_any _ z0 _ z1 _ (fownE_FS Ox0.out HW0.out) hn0 (fownE_FS Ox1.out HW1.out) hn1).mono ?_; rintro e w7 ⟨⟨vG, rfl, hr⟩, hb⟩
  have D7 := Lib.hid (D6.out.trans (hb.mono D6.out.size)); have S7 := Lib.hid (hb.size)
  replace OS0 := Lib.hid (fownE_below OS0.out hb)
  replace Ox0 := Lib.hid (fownE_below Ox0.out hb)
  replace Ox1 := Lib.hid (fownE_below Ox1.out hb)
  clear hb
  rw [HN.out] at hr
  rw [HOK.out]
  obtain ⟨rsG0, hl, he, ho⟩ := hr
  have LG0 := Lib.hid hl; have EG0 := Lib.hid he; have OG0 := Lib.hid ho; have RG0 := Lib.hid ho.lt
  clear hl he ho
  go_wp2_with fail
  refine (eqF_any _ _ rsG0 rsS0 _ (fownE_FS OG0.out EG0.out.lt) (fownE_FS OS0.out ES0.out.lt) (LG0.out.trans LS0.out.symm) (by rw [LG0.out]; exact hNb) (eqs_cn EG0.out ES0.out (LG0.out.trans LS0.out.symm))).mono ?_; rintro e w' ⟨rfl, m, rfl⟩
  have hb := below_drewN (Below.refl w7.heap.size w7) m
  generalize w7.drewN m = w8 at hb ⊢
  have D8 := Lib.hid (D7.out.trans (hb.mono D7.out.size)); have S8 := Lib.hid (hb.size)
  replace OS0 := Lib.hid (fownE_below OS0.out hb)
  replace Ox0 := Lib.hid (fownE_below Ox0.out hb)
  replace Ox1 := Lib.hid (fownE_below Ox1.out hb)
  replace OG0 := Lib.hid (fownE_below OG0.out hb)
  clear hb
  go_wp2_with fail
  refine (toF_any _ z0 _ (HU0.out.below D8.out) hn0).mono ?_; rintro e w9 ⟨⟨gy0, rfl, ho⟩, hb⟩
  have D9 := Lib.hid (D8.out.trans (hb.mono D8.out.size)); have S9 := Lib.hid (hb.size)
  replace OS0 := Lib.hid (fownE_below OS0.out hb)
  replace Ox0 := Lib.hid (fownE_below Ox0.out hb)
  replace Ox1 := Lib.hid (fownE_below Ox1.out hb)
  replace OG0 := Lib.hid (fownE_below OG0.out hb)
  clear hb
  have Oy0 := Lib.hid (show FOwnE w8.heap.size w9 (.slice (some ⟨gy0, 0, none⟩) z0.length z0.length) z0 from FOwn.toE ho)
  have Ry0 := Lib.hid Oy0.out.lt
  clear ho
  go_wp2_with fail
  refine (eqF_any _ _ z0 z0 _ (fownE_FS Ox0.out HW0.out) (fownE_FS Oy0.out HW0.out) rfl hn0 (fun _ _ => rfl)).mono ?_; rintro e w' ⟨rfl, m, rfl⟩
  have hb := below_drewN (Below.refl w9.heap.size w9) m
  generalize w9.drewN m = w10 at hb ⊢
  have D10 := Lib.hid (D9.out.trans (hb.mono D9.out.size)); have S10 := Lib.hid (hb.size)
  replace OS0 := Lib.hid (fownE_below OS0.out hb)
  replace Ox0 := Lib.hid (fownE_below Ox0.out hb)
  replace Ox1 := Lib.hid (fownE_below Ox1.out hb)
  replace OG0 := Lib.hid (fownE_below OG0.out hb)
  replace Oy0 := Lib.hid (fownE_below Oy0.out hb)
  clear hb
  clear Oy0 Ry0
  go_wp2_with fail
  refine (toF_any _ z1 _ (HU1.out.below D10.out) hn1).mono ?_; rintro e w11 ⟨⟨gy1, rfl, ho⟩, hb⟩
  have D11 := Lib.hid (D10.out.trans (hb.mono D10.out.size)); have S11 := Lib.hid (hb.size)
  replace OS0 := Lib.hid (fownE_below OS0.out hb)
  replace Ox0 := Lib.hid (fownE_below Ox0.out hb)
  replace Ox1 := Lib.hid (fownE_below Ox1.out hb)
  replace OG0 := Lib.hid (fownE_below OG0.out hb)
  clear hb
  have Oy1 := Lib.hid (show FOwnE w10.heap.size w11 (.slice (some ⟨gy1, 0, none⟩) z1.length z1.length) z1 from FOwn.toE ho)
  have Ry1 := Lib.hid Oy1.out.lt
  clear ho
  go_wp2_with fail
  refine (eqF_any _ _ z1 z1 _ (fownE_FS Ox1.out HW1.out) (fownE_FS Oy1.out HW1.out) rfl hn1 (fun _ _ => rfl)).mono ?_; rintro e w' ⟨rfl, m, rfl⟩
  have hb := below_drewN (Below.refl w11.heap.size w11) m
  generalize w11.drewN m = w12 at hb ⊢
  have D12 := Lib.hid (D11.out.trans (hb.mono D11.out.size)); have S12 := Lib.hid (hb.size)
  replace OS0 := Lib.hid (fownE_below OS0.out hb)
  replace Ox0 := Lib.hid (fownE_below Ox0.out hb)
  replace Ox1 := Lib.hid (fownE_below Ox1.out hb)
  replace OG0 := Lib.hid (fownE_below OG0.out hb)
  replace Oy1 := Lib.hid (fownE_below Oy1.out hb)
  clear hb
  clear Oy1 Ry1
  go_wp2_with fail
  refine (markGE_at _ _ z0 (0) _ _ Ox0.out (by omega) (by omega)).mono ?_; rintro e w13 ⟨rfl, ho, hg⟩
  replace OS0 := Lib.hid (fownE_grown OS0.out hg (apart RS0.out Rx0.out (by have := S2.out; have := S3.out; have := S4.out; have := S5.out; have := S6.out; have := S7.out; have := S8.out; have := S9.out; have := S10.out; have := S11.out; have := S12.out; omega)))
  replace Ox1 := Lib.hid (fownE_grown Ox1.out hg (apart Rx1.out Rx0.out (by have := S2.out; have := S3.out; have := S4.out; have := S5.out; have := S6.out; have := S7.out; have := S8.out; have := S9.out; have := S10.out; have := S11.out; have := S12.out; omega)))
  replace OG0 := Lib.hid (fownE_grown OG0.out hg (apart RG0.out Rx0.out (by have := S2.out; have := S3.out; have := S4.out; have := S5.out; have := S6.out; have := S7.out; have := S8.out; have := S9.out; have := S10.out; have := S11.out; have := S12.out; omega)))
  have D13 := Lib.hid (D12.out.grown hg D12.out.size (fun k hk => by have h1 := (Rx0.out k hk).1; have := S2.out; have := S3.out; have := S4.out; have := S5.out; have := S6.out; have := S7.out; have := S8.out; have := S9.out; have := S10.out; have := S11.out; have := S12.out; omega)); have S13 := Lib.hid hg.size
  replace Ox0 := Lib.hid ho
  clear ho hg
  clear Ox0 Rx0
  go_wp2_with fail
  refine (markGE_at _ _ z1 (0 + z0.length) _ _ Ox1.out (by omega) (by omega)).mono ?_; rintro e w14 ⟨rfl, ho, hg⟩
  replace OS0 := Lib.hid (fownE_grown OS0.out hg (apart RS0.out Rx1.out (by have := S2.out; have := S3.out; have := S4.out; have := S5.out; have := S6.out; have := S7.out; have := S8.out; have := S9.out; have := S10.out; have := S11.out; have := S12.out; have := S13.out; omega)))
  replace OG0 := Lib.hid (fownE_grown OG0.out hg (apart RG0.out Rx1.out (by have := S2.out; have := S3.out; have := S4.out; have := S5.out; have := S6.out; have := S7.out; have := S8.out; have := S9.out; have := S10.out; have := S11.out; have := S12.out; have := S13.out; omega)))
  have D14 := Lib.hid (D13.out.grown hg D13.out.size (fun k hk => by have h1 := (Rx1.out k hk).1; have := S2.out; have := S3.out; have := S4.out; have := S5.out; have := S6.out; have := S7.out; have := S8.out; have := S9.out; have := S10.out; have := S11.out; have := S12.out; have := S13.out; omega)); have S14 := Lib.hid hg.size
  replace Ox1 := Lib.hid ho
  clear ho hg
  clear Ox1 Rx1
  go_wp2_with fail
  refine (eqF_any _ _ rsG0 rsS0 _ (fownE_FS OG0.out EG0.out.lt) (fownE_FS OS0.out ES0.out.lt) (LG0.out.trans LS0.out.symm) (by rw [LG0.out]; exact hNb) (eqs_cn EG0.out ES0.out (LG0.out.trans LS0.out.symm))).mono ?_; rintro e w' ⟨rfl, m, rfl⟩
  have hb := below_drewN (Below.refl w14.heap.size w14) m
  generalize w14.drewN m = w15 at hb ⊢
  have D15 := Lib.hid (D14.out.trans (hb.mono D14.out.size)); have S15 := Lib.hid (hb.size)
  replace OS0 := Lib.hid (fownE_below OS0.out hb)
  replace OG0 := Lib.hid (fownE_below OG0.out hb)
  clear hb
  go_wp2_with fail
  refine (markGE_at _ _ rsG0 (0) _ _ OG0.out (by rw [LG0.out]; omega) (by omega)).mono ?_; rintro e w16 ⟨rfl, ho, hg⟩
  replace OS0 := Lib.hid (fownE_grown OS0.out hg (apart RS0.out RG0.out (by have := S2.out; have := S3.out; have := S4.out; have := S5.out; have := S6.out; have := S7.out; have := S8.out; have := S9.out; have := S10.out; have := S11.out; have := S12.out; have := S13.out; have := S14.out; have := S15.out; omega)))
  have D16 := Lib.hid (D15.out.grown hg D15.out.size (fun k hk => by have h1 := (RG0.out k hk).1; have := S2.out; have := S3.out; have := S4.out; have := S5.out; have := S6.out; have := S7.out; have := S8.out; have := S9.out; have := S10.out; have := S11.out; have := S12.out; have := S13.out; have := S14.out; have := S15.out; omega)); have S16 := Lib.hid hg.size
  rw [LG0.out] at ho ⊢
  replace OG0 := Lib.hid ho
  clear ho hg
  go_wp2_with fail
  refine (heldG_at _ (0) N _ _ (fownE_FS OG0.out (marksG_lt _ _)) (by omega) (by omega)).mono ?_; rintro e w' ⟨rfl, m, rfl⟩
  have hb := below_drewN (Below.refl w16.heap.size w16) m
  generalize w16.drewN m = w17 at hb ⊢
  have D17 := Lib.hid (D16.out.trans (hb.mono D16.out.size)); have S17 := Lib.hid (hb.size)
  replace OS0 := Lib.hid (fownE_below OS0.out hb)
  replace OG0 := Lib.hid (fownE_below OG0.out hb)
  clear hb
  go_wp2_with fail
  refine (toF_any _ z0 _ (HU0.out.below D17.out) hn0).mono ?_; rintro e w18 ⟨⟨gh0, rfl, ho⟩, hb⟩
  have D18 := Lib.hid (D17.out.trans (hb.mono D17.out.size)); have S18 := Lib.hid (hb.size)
  replace OS0 := Lib.hid (fownE_below OS0.out hb)
  replace OG0 := Lib.hid (fownE_below OG0.out hb)
  clear hb
  have Oh0 := Lib.hid (show FOwnE w17.heap.size w18 (.slice (some ⟨gh0, 0, none⟩) z0.length z0.length) z0 from FOwn.toE ho)
  have Rh0 := Lib.hid Oh0.out.lt
  clear ho
  go_wp2_with fail
  refine (toF_any _ z1 _ (HU1.out.below D18.out) hn1).mono ?_; rintro e w19 ⟨⟨gh1, rfl, ho⟩, hb⟩
  have D19 := Lib.hid (D18.out.trans (hb.mono D18.out.size)); have S19 := Lib.hid (hb.size)
  replace OS0 := Lib.hid (fownE_below OS0.out hb)
  replace OG0 := Lib.hid (fownE_below OG0.out hb)
  replace Oh0 := Lib.hid (fownE_below Oh0.out hb)
  clear hb
  have Oh1 := Lib.hid (show FOwnE w18.heap.size w19 (.slice (some ⟨gh1, 0, none⟩) z1.length z1.length) z1 from FOwn.toE ho)
  have Rh1 := Lib.hid Oh1.out.lt
  clear ho
  go_wp2_with fail
  refine (iTimesMatrix_any _ z0 _ z1 _ (fownE_FS Oh0.out HW0.out) hn0 (fownE_FS Oh1.out HW1.out) hn1).mono ?_; rintro e w20 ⟨⟨vH, rfl, hr⟩, hb⟩
  have D20 := Lib.hid (D19.out.trans (hb.mono D19.out.size)); have S20 := Lib.hid (hb.size)
  replace OS0 := Lib.hid (fownE_below OS0.out hb)
  replace OG0 := Lib.hid (fownE_below OG0.out hb)
  replace Oh0 := Lib.hid (fownE_below Oh0.out hb)
  replace Oh1 := Lib.hid (fownE_below Oh1.out hb)
  clear hb
  rw [HN.out] at hr
  rw [HOK.out]
  obtain ⟨rsH0, hl, he, ho⟩ := hr
  have LH0 := Lib.hid hl; have EH0 := Lib.hid he; have OH0 := Lib.hid ho; have RH0 := Lib.hid ho.lt
  clear hl he ho
  clear Oh0 Rh0
  clear Oh1 Rh1
  go_wp2_with fail
  refine (eqF_any _ _ rsH0 rsS0 _ (fownE_FS OH0.out EH0.out.lt) (fownE_FS OS0.out ES0.out.lt) (LH0.out.trans LS0.out.symm) (by rw [LH0.out]; exact hNb) (eqs_cn EH0.out ES0.out (LH0.out.trans LS0.out.symm))).mono ?_; rintro e w' ⟨rfl, m, rfl⟩
  have hb := below_drewN (Below.refl w20.heap.size w20) m
  generalize w20.drewN m = w21 at hb ⊢
  have D21 := Lib.hid (D20.out.trans (hb.mono D20.out.size)); have S21 := Lib.hid (hb.size)
  replace OS0 := Lib.hid (fownE_below OS0.out hb)
  replace OG0 := Lib.hid (fownE_below OG0.out hb)
  replace OH0 := Lib.hid (fownE_below OH0.out hb)
  clear hb
  go_wp2_with fail
  refine (heldG_at _ (0) N _ _ (fownE_FS OG0.out (marksG_lt _ _)) (by omega) (by omega)).mono ?_; rintro e w' ⟨rfl, m, rfl⟩
  have hb := below_drewN (Below.refl w21.heap.size w21) m
  generalize w21.drewN m = w22 at hb ⊢
  have D22 := Lib.hid (D21.out.trans (hb.mono D21.out.size)); have S22 := Lib.hid (hb.size)
  replace OS0 := Lib.hid (fownE_below OS0.out hb)
  replace OG0 := Lib.hid (fownE_below OG0.out hb)
  replace OH0 := Lib.hid (fownE_below OH0.out hb)
  clear hb
  go_wp2_with fail
  go_ret
  exact ⟨rfl, HB.out.trans (D22.out.mono HB.out.size)⟩

/-! ### from the walk to the statement -/
theorem own : ownKnob Try.prog.godebug = none := by kernel_rfl
theorem laidOut : laidOutB Try.prog = true := by kernel_rfl
set_option maxRecDepth 100000 in
theorem lifted (os : Os) (started : os.Started) (H : Type) (enc : TypeId × Value → H) :
    ReturnsInHanded {} Try.checked os 5 .any (Rows.fnExactTimesMatrixSpec.pre6 enc Try.prog Try.f5 Rows.fnExactTimesMatrixRow.domain false) (Rows.fnExactTimesMatrixSpec.post enc Try.prog Try.f5 false true false false) := by
  refine returnsInHanded_of_change (C := Try.checked) own started (by kernel_rfl) Try.func5
    (ChangeSpec.witness6 (enc := enc) (C := Try.checked) false ⟨#[], #[.slice none 0 0, .slice none 0 0], []⟩ 8 (by kernel_rfl) (by kernel_rfl) (by kernel_rfl) (by kernel_rfl)) ?_
  intro W base args ds gs before hval0 hW hcnd _
  have hval : ∀ (j : Nat) t v, Try.f5.params[j]? = some t → args[j]? = some v → Value.okWide Try.prog W .any base t v := hval0
  have hW' := hW
  obtain ⟨p, q, hA0, hV, rfl, hfz, hnd⟩ := hW
  have hA : DataW.TrodAll enc Try.prog W 0 (fun _ => true) true Try.f5.params.toList args.toList ds p := hA0
  rw [Try.params5] at hA hval
  obtain ⟨v0, vs0, d0, ds0, p0, q0, hargs, rfl, rfl, h0, r0⟩ := trodAll_cons hA
  obtain ⟨v1, vs1, d1, ds1, p1, q1, rfl, rfl, rfl, h1, r1⟩ := trodAll_cons r0
  obtain ⟨rfl, rfl, rfl⟩ := trodAll_nil r1
  obtain rfl : args = #[v0, v1] := by cases args; simp_all
  obtain ⟨rfl, rfl⟩ := trodVars_none hV
  obtain ⟨a0, len0, cap0, rfl⟩ := okWide_slice Try.underlying22 (hval 0 22 v0 rfl rfl)
  have k0 := h0
  have lt0 : ∀ x ∈ p0, x.block < W.heap.size := by obtain ⟨m, hm⟩ := k0; exact DataW.trod_lt m _ _ _ hm
  obtain ⟨z0, w0⟩ : ∃ zs, FS .f32 W (.slice a0 len0 cap0) zs := open_floats Try.underlying22 Try.underlying23 (by kernel_rfl) h0
  obtain ⟨a1, len1, cap1, rfl⟩ := okWide_slice Try.underlying22 (hval 1 22 v1 rfl rfl)
  have k1 := h1
  have lt1 : ∀ x ∈ p1, x.block < W.heap.size := by obtain ⟨m, hm⟩ := k1; exact DataW.trod_lt m _ _ _ hm
  obtain ⟨z1, w1⟩ : ∃ zs, FS .f32 W (.slice a1 len1 cap1) zs := open_floats Try.underlying22 Try.underlying23 (by kernel_rfl) h1
  clear hA0 hval0
  refine (walk a0 len0 cap0 z0 a1 len1 cap1 z1 W w0 w1).mono fun e W' ⟨he, bel⟩ => ?_
  subst he
  exact ⟨_, rfl, _, _, _, [], _, [], hW', trodAll_mk1 (shut_bool Try.underlying4 _), (trodAll_cons_mk (Below.trod laidOut (by kernel_rfl) (of_decide_eq_true (by kernel_rfl)) k0 bel lt0) (trodAll_cons_mk (Below.trod laidOut (by kernel_rfl) (of_decide_eq_true (by kernel_rfl)) k1 bel lt1) trodAll_mk0)), rfl, bel.frame _, fun h => by cases h⟩

theorem over : Rows.fnExactTimesMatrixRow.holds Try.pinned (OpenSpec.ofChange Rows.fnExactTimesMatrixSpec) :=
  OpenClaim.holds_of_wide 5 Try.f5 rfl rfl rfl rfl rfl rfl rfl ⟨rfl, rfl, rfl, rfl, rfl⟩ rfl rfl rfl rfl rfl (by kernel_rfl) Try.func5 (by kernel_rfl)
    (of_decide_eq_true (by kernel_rfl)) (by unfold Func.isWrapper; first | (rw [if_pos (by decide +kernel)]; kernel_rfl) | (rw [if_neg (by decide +kernel)]; exact ⟨rfl, rfl⟩))
    (fun os started H enc _ => lifted os started H enc)

/-- The statement. -/
theorem proved : Rows.FnExactTimesMatrixSaid := over
#print axioms proved
end Go.Proofs.Ytdoohjmjbkkmkaa.fnExactTimesMatrix
