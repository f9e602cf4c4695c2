/- FnExactSolveRow: for all arguments the law returns true: SolveRow answers as its model does, in all results, its arguments read as before, and its result is memory of its own. No condition. -/
import Derived.Test.YtihhlfafglmgnaaRows
import Derived.WalkKit
import Derived.ProofKit
import Derived.OpenShut
import Derived.ShutString
import Derived.ChangeOld
import Derived.Below
import Derived.Laws.Cover2
import Derived.Test.YtihhlfafglmgnaaRow
import Derived.Test.YtihhlfafglmgnaaMarkG
import Derived.Test.YtihhlfafglmgnaaOwn
namespace Go.Proofs.Ytihhlfafglmgnaa.fnExactSolveRow
open Go.ChangeShapes Go.WideShapes Go.ChangeAt Go.RowKit Go.Fl
open Go.ChangeMaps (open_string shut_string)
set_option linter.unusedVariables false

set_option maxHeartbeats 4000000 in
set_option maxRecDepth 100000 in
theorem walk (a0 : Option Addr) (len0 cap0 : Nat) (z0 : List Nat) (a1 : Option Addr) (len1 cap1 : Nat) (z1 : List Nat) (a2 : Option Addr) (len2 cap2 : Nat) (z2 : List Nat) (a3 : Option Addr) (len3 cap3 : Nat) (z3 : List Nat) (w : World) (w0 : FS .f32 w (.slice a0 len0 cap0) z0) (w1 : FS .f32 w (.slice a1 len1 cap1) z1) (w2 : FS .f32 w (.slice a2 len2 cap2) z2) (w3 : FS .f32 w (.slice a3 len3 cap3) z3) :
    Calls Try.prog 11 #[.slice a0 len0 cap0, .slice a1 len1 cap1, .slice a2 len2 cap2, .slice a3 len3 cap3] w fun e w' => e = .returned (.bool true) ∧ Below w.heap.size w w' := by
  obtain ⟨e0, W0⟩ := fs_open w0
  subst e0
  have HV0 := Lib.hid w0; have HW0 := Lib.hid W0.2; have hcm0 := W0.1
  clear w0 W0
  obtain ⟨e1, W1⟩ := fs_open w1
  subst e1
  have HV1 := Lib.hid w1; have HW1 := Lib.hid W1.2; have hcm1 := W1.1
  clear w1 W1
  obtain ⟨e2, W2⟩ := fs_open w2
  subst e2
  have HV2 := Lib.hid w2; have HW2 := Lib.hid W2.2; have hcm2 := W2.1
  clear w2 W2
  obtain ⟨e3, W3⟩ := fs_open w3
  subst e3
  have HV3 := Lib.hid w3; have HW3 := Lib.hid W3.2; have hcm3 := W3.1
  clear w3 W3
  by_cases q0 : 1048576 < z0.length
  · have hd0 : decide ((1048576 : Int) < (z0.length : Int)) = true := by simp; omega
    go_enter Try.func11, Try.ntmps11
    go_wp2_with fail
    go_ret
    exact ⟨rfl, Below.refl _ _⟩
  have hd0 : decide ((1048576 : Int) < (z0.length : Int)) = false := by simp; omega
  have hn0 : z0.length ≤ 1048576 := by omega
  clear q0
  by_cases q1 : 1048576 < z1.length
  · have hd1 : decide ((1048576 : Int) < (z1.length : Int)) = true := by simp; omega
    go_enter Try.func11, Try.ntmps11
    go_wp2_with fail
    go_ret
    exact ⟨rfl, Below.refl _ _⟩
  have hd1 : decide ((1048576 : Int) < (z1.length : Int)) = false := by simp; omega
  have hn1 : z1.length ≤ 1048576 := by omega
  clear q1
  by_cases q2 : 1048576 < z2.length
  · have hd2 : decide ((1048576 : Int) < (z2.length : Int)) = true := by simp; omega
    go_enter Try.func11, Try.ntmps11
    go_wp2_with fail
    go_ret
    exact ⟨rfl, Below.refl _ _⟩
  have hd2 : decide ((1048576 : Int) < (z2.length : Int)) = false := by simp; omega
  have hn2 : z2.length ≤ 1048576 := by omega
  clear q2
  by_cases q3 : 1048576 < z3.length
  · have hd3 : decide ((1048576 : Int) < (z3.length : Int)) = true := by simp; omega
    go_enter Try.func11, Try.ntmps11
    go_wp2_with fail
    go_ret
    exact ⟨rfl, Below.refl _ _⟩
  have hd3 : decide ((1048576 : Int) < (z3.length : Int)) = false := by simp; omega
  have hn3 : z3.length ≤ 1048576 := by omega
  clear q3
  have hNb := lenSolveRow_le z0 z1 z2 z3 hn0 hn1 hn2 hn3
  obtain ⟨ok, hok⟩ : ∃ ok, okSolveRow z0 z1 z2 z3 = ok := ⟨_, rfl⟩
  have HOK := Lib.hid hok
  obtain ⟨N, hN⟩ : ∃ N, lenSolveRow z0 z1 z2 z3 = N := ⟨_, rfl⟩
  rw [hN] at hNb
  have HN := Lib.hid hN
  clear hok hN
  go_enter Try.func11, Try.ntmps11
  go_wp2_with fail
  clear hd0 hd1 hd2 hd3
  have HB := Lib.hid (Below.refl w.heap.size w)
  have HU0 := HV0
  have HU1 := HV1
  have HU2 := HV2
  have HU3 := HV3
  obtain ⟨w1, e1⟩ : ∃ w1, w1 = w := ⟨_, rfl⟩
  subst e1
  have D1 := Lib.hid (Below.refl w1.heap.size w1)
  refine (toF_any _ z0 _ (HU0.out.below D1.out) hn0).mono ?_; rintro e w2 ⟨⟨gs0, rfl, ho⟩, hb⟩
  have D2 := Lib.hid (D1.out.trans (hb.mono D1.out.size)); have S2 := Lib.hid (hb.size)
  clear hb
  have Os0 := Lib.hid (show FOwn w1.heap.size w2 (.slice (some ⟨gs0, 0, none⟩) z0.length z0.length) z0 from ho)
  have Rs0 := Lib.hid Os0.out.lt
  clear ho
  go_wp2_with fail
  refine (toF_any _ z1 _ (HU1.out.below D2.out) hn1).mono ?_; rintro e w3 ⟨⟨gs1, rfl, ho⟩, hb⟩
  have D3 := Lib.hid (D2.out.trans (hb.mono D2.out.size)); have S3 := Lib.hid (hb.size)
  replace Os0 := Lib.hid (fown_below Os0.out hb)
  clear hb
  have Os1 := Lib.hid (show FOwn w2.heap.size w3 (.slice (some ⟨gs1, 0, none⟩) z1.length z1.length) z1 from ho)
  have Rs1 := Lib.hid Os1.out.lt
  clear ho
  go_wp2_with fail
  refine (toF_any _ z2 _ (HU2.out.below D3.out) hn2).mono ?_; rintro e w4 ⟨⟨gs2, rfl, ho⟩, hb⟩
  have D4 := Lib.hid (D3.out.trans (hb.mono D3.out.size)); have S4 := Lib.hid (hb.size)
  replace Os0 := Lib.hid (fown_below Os0.out hb)
  replace Os1 := Lib.hid (fown_below Os1.out hb)
  clear hb
  have Os2 := Lib.hid (show FOwn w3.heap.size w4 (.slice (some ⟨gs2, 0, none⟩) z2.length z2.length) z2 from ho)
  have Rs2 := Lib.hid Os2.out.lt
  clear ho
  go_wp2_with fail
  refine (toF_any _ z3 _ (HU3.out.below D4.out) hn3).mono ?_; rintro e w5 ⟨⟨gs3, rfl, ho⟩, hb⟩
  have D5 := Lib.hid (D4.out.trans (hb.mono D4.out.size)); have S5 := Lib.hid (hb.size)
  replace Os0 := Lib.hid (fown_below Os0.out hb)
  replace Os1 := Lib.hid (fown_below Os1.out hb)
  replace Os2 := Lib.hid (fown_below Os2.out hb)
  clear hb
  have Os3 := Lib.hid (show FOwn w4.heap.size w5 (.slice (some ⟨gs3, 0, none⟩) z3.length z3.length) z3 from ho)
  have Rs3 := Lib.hid Os3.out.lt
  clear ho
  go_wp2_with fail
  refine (sSolveRow_any _ z0 _ z1 _ z2 _ z3 _ (fown_FS Os0.out HW0.out) hn0 (fown_FS Os1.out HW1.out) hn1 (fown_FS Os2.out HW2.out) hn2 (fown_FS Os3.out HW3.out) hn3).mono ?_; rintro e w6 ⟨⟨vS, rfl, hr⟩, hb⟩
  have D6 := Lib.hid (D5.out.trans (hb.mono D5.out.size)); have S6 := Lib.hid (hb.size)
  replace Os0 := Lib.hid (fown_below Os0.out hb)
  replace Os1 := Lib.hid (fown_below Os1.out hb)
  replace Os2 := Lib.hid (fown_below Os2.out hb)
  replace Os3 := Lib.hid (fown_below Os3.out hb)
  clear hb
  rw [HN.out] at hr
  rw [HOK.out]
  obtain ⟨rsS0, hl, he, ho⟩ := hr
  have LS0 := Lib.hid hl; have ES0 := Lib.hid he; have OS0 := Lib.hid ho; have RS0 := Lib.hid ho.lt
  clear hl he ho
  clear Os0 Rs0
  clear Os1 Rs1
  clear Os2 Rs2
  clear Os3 Rs3
  go_wp2_with fail
  refine (toF_any _ z0 _ (HU0.out.below D6.out) hn0).mono ?_; rintro e w7 ⟨⟨gx0, rfl, ho⟩, hb⟩
  have D7 := Lib.hid (D6.out.trans (hb.mono D6.out.size)); have S7 := Lib.hid (hb.size)
  replace OS0 := Lib.hid (fown_below OS0.out hb)
  clear hb
  have Ox0 := Lib.hid (show FOwn w6.heap.size w7 (.slice (some ⟨gx0, 0, none⟩) z0.length z0.length) z0 from ho)
  have Rx0 := Lib.hid Ox0.out.lt
  clear ho
  go_wp2_with fail
  refine (toF_any _ z1 _ (HU1.out.below D7.out) hn1).mono ?_; rintro e w8 ⟨⟨gx1, rfl, ho⟩, hb⟩
  have D8 := Lib.hid (D7.out.trans (hb.mono D7.out.size)); have S8 := Lib.hid (hb.size)
  replace OS0 := Lib.hid (fown_below OS0.out hb)
  replace Ox0 := Lib.hid (fown_below Ox0.out hb)
  clear hb
  have Ox1 := Lib.hid (show FOwn w7.heap.size w8 (.slice (some ⟨gx1, 0, none⟩) z1.length z1.length) z1 from ho)
  have Rx1 := Lib.hid Ox1.out.lt
  clear ho
  go_wp2_with fail
  refine (toF_any _ z2 _ (HU2.out.below D8.out) hn2).mono ?_; rintro e w9 ⟨⟨gx2, rfl, ho⟩, hb⟩
  have D9 := Lib.hid (D8.out.trans (hb.mono D8.out.size)); have S9 := Lib.hid (hb.size)
  replace OS0 := Lib.hid (fown_below OS0.out hb)
  replace Ox0 := Lib.hid (fown_below Ox0.out hb)
  replace Ox1 := Lib.hid (fown_below Ox1.out hb)
  clear hb
  have Ox2 := Lib.hid (show FOwn w8.heap.size w9 (.slice (some ⟨gx2, 0, none⟩) z2.length z2.length) z2 from ho)
  have Rx2 := Lib.hid Ox2.out.lt
  clear ho
  go_wp2_with fail
  refine (toF_any _ z3 _ (HU3.out.below D9.out) hn3).mono ?_; rintro e w10 ⟨⟨gx3, rfl, ho⟩, hb⟩
  have D10 := Lib.hid (D9.out.trans (hb.mono D9.out.size)); have S10 := Lib.hid (hb.size)
  replace OS0 := Lib.hid (fown_below OS0.out hb)
  replace Ox0 := Lib.hid (fown_below Ox0.out hb)
  replace Ox1 := Lib.hid (fown_below Ox1.out hb)
  replace Ox2 := Lib.hid (fown_below Ox2.out hb)
  clear hb
  have Ox3 := Lib.hid (show FOwn w9.heap.size w10 (.slice (some ⟨gx3, 0, none⟩) z3.length z3.length) z3 from ho)
  have Rx3 := Lib.hid Ox3.out.lt
  clear ho
  go_wp2_with fail
  refine (iSolveRow_any _ z0 _ z1 _ z2 _ z3 _ (fown_FS Ox0.out HW0.out) hn0 (fown_FS Ox1.out HW1.out) hn1 (fown_FS Ox2.out HW2.out) hn2 (fown_FS Ox3.out HW3.out) hn3).mono ?_; rintro e w11 ⟨⟨vG, rfl, hr⟩, hb⟩
  have D11 := Lib.hid (D10.out.trans (hb.mono D10.out.size)); have S11 := Lib.hid (hb.size)
  replace OS0 := Lib.hid (fown_below OS0.out hb)
  replace Ox0 := Lib.hid (fown_below Ox0.out hb)
  replace Ox1 := Lib.hid (fown_below Ox1.out hb)
  replace Ox2 := Lib.hid (fown_below Ox2.out hb)
  replace Ox3 := Lib.hid (fown_below Ox3.out hb)
  clear hb
  rw [HN.out] at hr
  rw [HOK.out]
  obtain ⟨rsG0, hl, he, ho⟩ := hr
  have LG0 := Lib.hid hl; have EG0 := Lib.hid he; have OG0 := Lib.hid ho; have RG0 := Lib.hid ho.lt
  clear hl he ho
  go_wp2_with fail
  refine (eqF_any _ _ rsG0 rsS0 _ (fown_FS OG0.out EG0.out.lt) (fown_FS OS0.out ES0.out.lt) (LG0.out.trans LS0.out.symm) (by rw [LG0.out]; exact hNb) (eqs_cn EG0.out ES0.out (LG0.out.trans LS0.out.symm))).mono ?_; rintro e w' ⟨rfl, m, rfl⟩
  have hb := below_drewN (Below.refl w11.heap.size w11) m
  generalize w11.drewN m = w12 at hb ⊢
  have D12 := Lib.hid (D11.out.trans (hb.mono D11.out.size)); have S12 := Lib.hid (hb.size)
  replace OS0 := Lib.hid (fown_below OS0.out hb)
  replace Ox0 := Lib.hid (fown_below Ox0.out hb)
  replace Ox1 := Lib.hid (fown_below Ox1.out hb)
  replace Ox2 := Lib.hid (fown_below Ox2.out hb)
  replace Ox3 := Lib.hid (fown_below Ox3.out hb)
  replace OG0 := Lib.hid (fown_below OG0.out hb)
  clear hb
  go_wp2_with fail
  refine (toF_any _ z0 _ (HU0.out.below D12.out) hn0).mono ?_; rintro e w13 ⟨⟨gy0, rfl, ho⟩, hb⟩
  have D13 := Lib.hid (D12.out.trans (hb.mono D12.out.size)); have S13 := Lib.hid (hb.size)
  replace OS0 := Lib.hid (fown_below OS0.out hb)
  replace Ox0 := Lib.hid (fown_below Ox0.out hb)
  replace Ox1 := Lib.hid (fown_below Ox1.out hb)
  replace Ox2 := Lib.hid (fown_below Ox2.out hb)
  replace Ox3 := Lib.hid (fown_below Ox3.out hb)
  replace OG0 := Lib.hid (fown_below OG0.out hb)
  clear hb
  have Oy0 := Lib.hid (show FOwn w12.heap.size w13 (.slice (some ⟨gy0, 0, none⟩) z0.length z0.length) z0 from ho)
  have Ry0 := Lib.hid Oy0.out.lt
  clear ho
  go_wp2_with fail
  refine (eqF_any _ _ z0 z0 _ (fown_FS Ox0.out HW0.out) (fown_FS Oy0.out HW0.out) rfl hn0 (fun _ _ => rfl)).mono ?_; rintro e w' ⟨rfl, m, rfl⟩
  have hb := below_drewN (Below.refl w13.heap.size w13) m
  generalize w13.drewN m = w14 at hb ⊢
  have D14 := Lib.hid (D13.out.trans (hb.mono D13.out.size)); have S14 := Lib.hid (hb.size)
  replace OS0 := Lib.hid (fown_below OS0.out hb)
  replace Ox0 := Lib.hid (fown_below Ox0.out hb)
  replace Ox1 := Lib.hid (fown_below Ox1.out hb)
  replace Ox2 := Lib.hid (fown_below Ox2.out hb)
  replace Ox3 := Lib.hid (fown_below Ox3.out hb)
  replace OG0 := Lib.hid (fown_below OG0.out hb)
  replace Oy0 := Lib.hid (fown_below Oy0.out hb)
  clear hb
  clear Oy0 Ry0
  go_wp2_with fail
  refine (toF_any _ z1 _ (HU1.out.below D14.out) hn1).mono ?_; rintro e w15 ⟨⟨gy1, rfl, ho⟩, hb⟩
  have D15 := Lib.hid (D14.out.trans (hb.mono D14.out.size)); have S15 := Lib.hid (hb.size)
  replace OS0 := Lib.hid (fown_below OS0.out hb)
  replace Ox0 := Lib.hid (fown_below Ox0.out hb)
  replace Ox1 := Lib.hid (fown_below Ox1.out hb)
  replace Ox2 := Lib.hid (fown_below Ox2.out hb)
  replace Ox3 := Lib.hid (fown_below Ox3.out hb)
  replace OG0 := Lib.hid (fown_below OG0.out hb)
  clear hb
  have Oy1 := Lib.hid (show FOwn w14.heap.size w15 (.slice (some ⟨gy1, 0, none⟩) z1.length z1.length) z1 from ho)
  have Ry1 := Lib.hid Oy1.out.lt
  clear ho
  go_wp2_with fail
  refine (eqF_any _ _ z1 z1 _ (fown_FS Ox1.out HW1.out) (fown_FS Oy1.out HW1.out) rfl hn1 (fun _ _ => rfl)).mono ?_; rintro e w' ⟨rfl, m, rfl⟩
  have hb := below_drewN (Below.refl w15.heap.size w15) m
  generalize w15.drewN m = w16 at hb ⊢
  have D16 := Lib.hid (D15.out.trans (hb.mono D15.out.size)); have S16 := Lib.hid (hb.size)
  replace OS0 := Lib.hid (fown_below OS0.out hb)
  replace Ox0 := Lib.hid (fown_below Ox0.out hb)
  replace Ox1 := Lib.hid (fown_below Ox1.out hb)
  replace Ox2 := Lib.hid (fown_below Ox2.out hb)
  replace Ox3 := Lib.hid (fown_below Ox3.out hb)
  replace OG0 := Lib.hid (fown_below OG0.out hb)
  replace Oy1 := Lib.hid (fown_below Oy1.out hb)
  clear hb
  clear Oy1 Ry1
  go_wp2_with fail
  refine (toF_any _ z2 _ (HU2.out.below D16.out) hn2).mono ?_; rintro e w17 ⟨⟨gy2, rfl, ho⟩, hb⟩
  have D17 := Lib.hid (D16.out.trans (hb.mono D16.out.size)); have S17 := Lib.hid (hb.size)
  replace OS0 := Lib.hid (fown_below OS0.out hb)
  replace Ox0 := Lib.hid (fown_below Ox0.out hb)
  replace Ox1 := Lib.hid (fown_below Ox1.out hb)
  replace Ox2 := Lib.hid (fown_below Ox2.out hb)
  replace Ox3 := Lib.hid (fown_below Ox3.out hb)
  replace OG0 := Lib.hid (fown_below OG0.out hb)
  clear hb
  have Oy2 := Lib.hid (show FOwn w16.heap.size w17 (.slice (some ⟨gy2, 0, none⟩) z2.length z2.length) z2 from ho)
  have Ry2 := Lib.hid Oy2.out.lt
  clear ho
  go_wp2_with fail
  refine (eqF_any _ _ z2 z2 _ (fown_FS Ox2.out HW2.out) (fown_FS Oy2.out HW2.out) rfl hn2 (fun _ _ => rfl)).mono ?_; rintro e w' ⟨rfl, m, rfl⟩
  have hb := below_drewN (Below.refl w17.heap.size w17) m
  generalize w17.drewN m = w18 at hb ⊢
  have D18 := Lib.hid (D17.out.trans (hb.mono D17.out.size)); have S18 := Lib.hid (hb.size)
  replace OS0 := Lib.hid (fown_below OS0.out hb)
  replace Ox0 := Lib.hid (fown_below Ox0.out hb)
  replace Ox1 := Lib.hid (fown_below Ox1.out hb)
  replace Ox2 := Lib.hid (fown_below Ox2.out hb)
  replace Ox3 := Lib.hid (fown_below Ox3.out hb)
  replace OG0 := Lib.hid (fown_below OG0.out hb)
  replace Oy2 := Lib.hid (fown_below Oy2.out hb)
  clear hb
  clear Oy2 Ry2
  go_wp2_with fail
  refine (toF_any _ z3 _ (HU3.out.below D18.out) hn3).mono ?_; rintro e w19 ⟨⟨gy3, rfl, ho⟩, hb⟩
  have D19 := Lib.hid (D18.out.trans (hb.mono D18.out.size)); have S19 := Lib.hid (hb.size)
  replace OS0 := Lib.hid (fown_below OS0.out hb)
  replace Ox0 := Lib.hid (fown_below Ox0.out hb)
  replace Ox1 := Lib.hid (fown_below Ox1.out hb)
  replace Ox2 := Lib.hid (fown_below Ox2.out hb)
  replace Ox3 := Lib.hid (fown_below Ox3.out hb)
  replace OG0 := Lib.hid (fown_below OG0.out hb)
  clear hb
  have Oy3 := Lib.hid (show FOwn w18.heap.size w19 (.slice (some ⟨gy3, 0, none⟩) z3.length z3.length) z3 from ho)
  have Ry3 := Lib.hid Oy3.out.lt
  clear ho
  go_wp2_with fail
  refine (eqF_any _ _ z3 z3 _ (fown_FS Ox3.out HW3.out) (fown_FS Oy3.out HW3.out) rfl hn3 (fun _ _ => rfl)).mono ?_; rintro e w' ⟨rfl, m, rfl⟩
  have hb := below_drewN (Below.refl w19.heap.size w19) m
  generalize w19.drewN m = w20 at hb ⊢
  have D20 := Lib.hid (D19.out.trans (hb.mono D19.out.size)); have S20 := Lib.hid (hb.size)
  replace OS0 := Lib.hid (fown_below OS0.out hb)
  replace Ox0 := Lib.hid (fown_below Ox0.out hb)
  replace Ox1 := Lib.hid (fown_below Ox1.out hb)
  replace Ox2 := Lib.hid (fown_below Ox2.out hb)
  replace Ox3 := Lib.hid (fown_below Ox3.out hb)
  replace OG0 := Lib.hid (fown_below OG0.out hb)
  replace Oy3 := Lib.hid (fown_below Oy3.out hb)
  clear hb
  clear Oy3 Ry3
  go_wp2_with fail
  refine (markG_at _ _ z0 (0) _ _ Ox0.out (by omega) (by omega)).mono ?_; rintro e w21 ⟨rfl, ho, hg⟩
  replace OS0 := Lib.hid (fown_grown OS0.out hg (apart RS0.out Rx0.out (by have := S2.out; have := S3.out; have := S4.out; have := S5.out; have := S6.out; have := S7.out; have := S8.out; have := S9.out; have := S10.out; have := S11.out; have := S12.out; have := S13.out; have := S14.out; have := S15.out; have := S16.out; have := S17.out; have := S18.out; have := S19.out; have := S20.out; omega)))
  replace Ox1 := Lib.hid (fown_grown Ox1.out hg (apart Rx1.out Rx0.out (by have := S2.out; have := S3.out; have := S4.out; have := S5.out; have := S6.out; have := S7.out; have := S8.out; have := S9.out; have := S10.out; have := S11.out; have := S12.out; have := S13.out; have := S14.out; have := S15.out; have := S16.out; have := S17.out; have := S18.out; have := S19.out; have := S20.out; omega)))
  replace Ox2 := Lib.hid (fown_grown Ox2.out hg (apart Rx2.out Rx0.out (by have := S2.out; have := S3.out; have := S4.out; have := S5.out; have := S6.out; have := S7.out; have := S8.out; have := S9.out; have := S10.out; have := S11.out; have := S12.out; have := S13.out; have := S14.out; have := S15.out; have := S16.out; have := S17.out; have := S18.out; have := S19.out; have := S20.out; omega)))
  replace Ox3 := Lib.hid (fown_grown Ox3.out hg (apart Rx3.out Rx0.out (by have := S2.out; have := S3.out; have := S4.out; have := S5.out; have := S6.out; have := S7.out; have := S8.out; have := S9.out; have := S10.out; have := S11.out; have := S12.out; have := S13.out; have := S14.out; have := S15.out; have := S16.out; have := S17.out; have := S18.out; have := S19.out; have := S20.out; omega)))
  replace OG0 := Lib.hid (fown_grown OG0.out hg (apart RG0.out Rx0.out (by have := S2.out; have := S3.out; have := S4.out; have := S5.out; have := S6.out; have := S7.out; have := S8.out; have := S9.out; have := S10.out; have := S11.out; have := S12.out; have := S13.out; have := S14.out; have := S15.out; have := S16.out; have := S17.out; have := S18.out; have := S19.out; have := S20.out; omega)))
  have D21 := Lib.hid (D20.out.grown hg D20.out.size (fun k hk => by have h1 := (Rx0.out k hk).1; have := S2.out; have := S3.out; have := S4.out; have := S5.out; have := S6.out; have := S7.out; have := S8.out; have := S9.out; have := S10.out; have := S11.out; have := S12.out; have := S13.out; have := S14.out; have := S15.out; have := S16.out; have := S17.out; have := S18.out; have := S19.out; have := S20.out; omega)); have S21 := Lib.hid hg.size
  replace Ox0 := Lib.hid ho
  clear ho hg
  clear Ox0 Rx0
  go_wp2_with fail
  refine (markG_at _ _ z1 (0 + z0.length) _ _ Ox1.out (by omega) (by omega)).mono ?_; rintro e w22 ⟨rfl, ho, hg⟩
  replace OS0 := Lib.hid (fown_grown OS0.out hg (apart RS0.out Rx1.out (by have := S2.out; have := S3.out; have := S4.out; have := S5.out; have := S6.out; have := S7.out; have := S8.out; have := S9.out; have := S10.out; have := S11.out; have := S12.out; have := S13.out; have := S14.out; have := S15.out; have := S16.out; have := S17.out; have := S18.out; have := S19.out; have := S20.out; have := S21.out; omega)))
  replace Ox2 := Lib.hid (fown_grown Ox2.out hg (apart Rx2.out Rx1.out (by have := S2.out; have := S3.out; have := S4.out; have := S5.out; have := S6.out; have := S7.out; have := S8.out; have := S9.out; have := S10.out; have := S11.out; have := S12.out; have := S13.out; have := S14.out; have := S15.out; have := S16.out; have := S17.out; have := S18.out; have := S19.out; have := S20.out; have := S21.out; omega)))
  replace Ox3 := Lib.hid (fown_grown Ox3.out hg (apart Rx3.out Rx1.out (by have := S2.out; have := S3.out; have := S4.out; have := S5.out; have := S6.out; have := S7.out; have := S8.out; have := S9.out; have := S10.out; have := S11.out; have := S12.out; have := S13.out; have := S14.out; have := S15.out; have := S16.out; have := S17.out; have := S18.out; have := S19.out; have := S20.out; have := S21.out; omega)))
  replace OG0 := Lib.hid (fown_grown OG0.out hg (apart RG0.out Rx1.out (by have := S2.out; have := S3.out; have := S4.out; have := S5.out; have := S6.out; have := S7.out; have := S8.out; have := S9.out; have := S10.out; have := S11.out; have := S12.out; have := S13.out; have := S14.out; have := S15.out; have := S16.out; have := S17.out; have := S18.out; have := S19.out; have := S20.out; have := S21.out; omega)))
  have D22 := Lib.hid (D21.out.grown hg D21.out.size (fun k hk => by have h1 := (Rx1.out k hk).1; have := S2.out; have := S3.out; have := S4.out; have := S5.out; have := S6.out; have := S7.out; have := S8.out; have := S9.out; have := S10.out; have := S11.out; have := S12.out; have := S13.out; have := S14.out; have := S15.out; have := S16.out; have := S17.out; have := S18.out; have := S19.out; have := S20.out; have := S21.out; omega)); have S22 := Lib.hid hg.size
  replace Ox1 := Lib.hid ho
  clear ho hg
  clear Ox1 Rx1
  go_wp2_with fail
  refine (markG_at _ _ z2 (0 + z0.length + z1.length) _ _ Ox2.out (by omega) (by omega)).mono ?_; rintro e w23 ⟨rfl, ho, hg⟩
  replace OS0 := Lib.hid (fown_grown OS0.out hg (apart RS0.out Rx2.out (by have := S2.out; have := S3.out; have := S4.out; have := S5.out; have := S6.out; have := S7.out; have := S8.out; have := S9.out; have := S10.out; have := S11.out; have := S12.out; have := S13.out; have := S14.out; have := S15.out; have := S16.out; have := S17.out; have := S18.out; have := S19.out; have := S20.out; have := S21.out; have := S22.out; omega)))
  replace Ox3 := Lib.hid (fown_grown Ox3.out hg (apart Rx3.out Rx2.out (by have := S2.out; have := S3.out; have := S4.out; have := S5.out; have := S6.out; have := S7.out; have := S8.out; have := S9.out; have := S10.out; have := S11.out; have := S12.out; have := S13.out; have := S14.out; have := S15.out; have := S16.out; have := S17.out; have := S18.out; have := S19.out; have := S20.out; have := S21.out; have := S22.out; omega)))
  replace OG0 := Lib.hid (fown_grown OG0.out hg (apart RG0.out Rx2.out (by have := S2.out; have := S3.out; have := S4.out; have := S5.out; have := S6.out; have := S7.out; have := S8.out; have := S9.out; have := S10.out; have := S11.out; have := S12.out; have := S13.out; have := S14.out; have := S15.out; have := S16.out; have := S17.out; have := S18.out; have := S19.out; have := S20.out; have := S21.out; have := S22.out; omega)))
  have D23 := Lib.hid (D22.out.grown hg D22.out.size (fun k hk => by have h1 := (Rx2.out k hk).1; have := S2.out; have := S3.out; have := S4.out; have := S5.out; have := S6.out; have := S7.out; have := S8.out; have := S9.out; have := S10.out; have := S11.out; have := S12.out; have := S13.out; have := S14.out; have := S15.out; have := S16.out; have := S17.out; have := S18.out; have := S19.out; have := S20.out; have := S21.out; have := S22.out; omega)); have S23 := Lib.hid hg.size
  replace Ox2 := Lib.hid ho
  clear ho hg
  clear Ox2 Rx2
  go_wp2_with fail
  refine (markG_at _ _ z3 (0 + z0.length + z1.length + z2.length) _ _ Ox3.out (by omega) (by omega)).mono ?_; rintro e w24 ⟨rfl, ho, hg⟩
  replace OS0 := Lib.hid (fown_grown OS0.out hg (apart RS0.out Rx3.out (by have := S2.out; have := S3.out; have := S4.out; have := S5.out; have := S6.out; have := S7.out; have := S8.out; have := S9.out; have := S10.out; have := S11.out; have := S12.out; have := S13.out; have := S14.out; have := S15.out; have := S16.out; have := S17.out; have := S18.out; have := S19.out; have := S20.out; have := S21.out; have := S22.out; have := S23.out; omega)))
  replace OG0 := Lib.hid (fown_grown OG0.out hg (apart RG0.out Rx3.out (by have := S2.out; have := S3.out; have := S4.out; have := S5.out; have := S6.out; have := S7.out; have := S8.out; have := S9.out; have := S10.out; have := S11.out; have := S12.out; have := S13.out; have := S14.out; have := S15.out; have := S16.out; have := S17.out; have := S18.out; have := S19.out; have := S20.out; have := S21.out; have := S22.out; have := S23.out; omega)))
  have D24 := Lib.hid (D23.out.grown hg D23.out.size (fun k hk => by have h1 := (Rx3.out k hk).1; have := S2.out; have := S3.out; have := S4.out; have := S5.out; have := S6.out; have := S7.out; have := S8.out; have := S9.out; have := S10.out; have := S11.out; have := S12.out; have := S13.out; have := S14.out; have := S15.out; have := S16.out; have := S17.out; have := S18.out; have := S19.out; have := S20.out; have := S21.out; have := S22.out; have := S23.out; omega)); have S24 := Lib.hid hg.size
  replace Ox3 := Lib.hid ho
  clear ho hg
  clear Ox3 Rx3
  go_wp2_with fail
  refine (eqF_any _ _ rsG0 rsS0 _ (fown_FS OG0.out EG0.out.lt) (fown_FS OS0.out ES0.out.lt) (LG0.out.trans LS0.out.symm) (by rw [LG0.out]; exact hNb) (eqs_cn EG0.out ES0.out (LG0.out.trans LS0.out.symm))).mono ?_; rintro e w' ⟨rfl, m, rfl⟩
  have hb := below_drewN (Below.refl w24.heap.size w24) m
  generalize w24.drewN m = w25 at hb ⊢
  have D25 := Lib.hid (D24.out.trans (hb.mono D24.out.size)); have S25 := Lib.hid (hb.size)
  replace OS0 := Lib.hid (fown_below OS0.out hb)
  replace OG0 := Lib.hid (fown_below OG0.out hb)
  clear hb
  go_wp2_with fail
  refine (markG_at _ _ rsG0 (0) _ _ OG0.out (by rw [LG0.out]; omega) (by omega)).mono ?_; rintro e w26 ⟨rfl, ho, hg⟩
  replace OS0 := Lib.hid (fown_grown OS0.out hg (apart RS0.out RG0.out (by have := S2.out; have := S3.out; have := S4.out; have := S5.out; have := S6.out; have := S7.out; have := S8.out; have := S9.out; have := S10.out; have := S11.out; have := S12.out; have := S13.out; have := S14.out; have := S15.out; have := S16.out; have := S17.out; have := S18.out; have := S19.out; have := S20.out; have := S21.out; have := S22.out; have := S23.out; have := S24.out; have := S25.out; omega)))
  have D26 := Lib.hid (D25.out.grown hg D25.out.size (fun k hk => by have h1 := (RG0.out k hk).1; have := S2.out; have := S3.out; have := S4.out; have := S5.out; have := S6.out; have := S7.out; have := S8.out; have := S9.out; have := S10.out; have := S11.out; have := S12.out; have := S13.out; have := S14.out; have := S15.out; have := S16.out; have := S17.out; have := S18.out; have := S19.out; have := S20.out; have := S21.out; have := S22.out; have := S23.out; have := S24.out; have := S25.out; omega)); have S26 := Lib.hid hg.size
  rw [LG0.out] at ho ⊢
  replace OG0 := Lib.hid ho
  clear ho hg
  go_wp2_with fail
  refine (heldG_at _ (0) N _ _ (fown_FS OG0.out (marksG_lt _ _)) (by omega) (by omega)).mono ?_; rintro e w' ⟨rfl, m, rfl⟩
  have hb := below_drewN (Below.refl w26.heap.size w26) m
  generalize w26.drewN m = w27 at hb ⊢
  have D27 := Lib.hid (D26.out.trans (hb.mono D26.out.size)); have S27 := Lib.hid (hb.size)
  replace OS0 := Lib.hid (fown_below OS0.out hb)
  replace OG0 := Lib.hid (fown_below OG0.out hb)
  clear hb
  go_wp2_with fail
  refine (toF_any _ z0 _ (HU0.out.below D27.out) hn0).mono ?_; rintro e w28 ⟨⟨gh0, rfl, ho⟩, hb⟩
  have D28 := Lib.hid (D27.out.trans (hb.mono D27.out.size)); have S28 := Lib.hid (hb.size)
  replace OS0 := Lib.hid (fown_below OS0.out hb)
  replace OG0 := Lib.hid (fown_below OG0.out hb)
  clear hb
  have Oh0 := Lib.hid (show FOwn w27.heap.size w28 (.slice (some ⟨gh0, 0, none⟩) z0.length z0.length) z0 from ho)
  have Rh0 := Lib.hid Oh0.out.lt
  clear ho
  go_wp2_with fail
  refine (toF_any _ z1 _ (HU1.out.below D28.out) hn1).mono ?_; rintro e w29 ⟨⟨gh1, rfl, ho⟩, hb⟩
  have D29 := Lib.hid (D28.out.trans (hb.mono D28.out.size)); have S29 := Lib.hid (hb.size)
  replace OS0 := Lib.hid (fown_below OS0.out hb)
  replace OG0 := Lib.hid (fown_below OG0.out hb)
  replace Oh0 := Lib.hid (fown_below Oh0.out hb)
  clear hb
  have Oh1 := Lib.hid (show FOwn w28.heap.size w29 (.slice (some ⟨gh1, 0, none⟩) z1.length z1.length) z1 from ho)
  have Rh1 := Lib.hid Oh1.out.lt
  clear ho
  go_wp2_with fail
  refine (toF_any _ z2 _ (HU2.out.below D29.out) hn2).mono ?_; rintro e w30 ⟨⟨gh2, rfl, ho⟩, hb⟩
  have D30 := Lib.hid (D29.out.trans (hb.mono D29.out.size)); have S30 := Lib.hid (hb.size)
  replace OS0 := Lib.hid (fown_below OS0.out hb)
  replace OG0 := Lib.hid (fown_below OG0.out hb)
  replace Oh0 := Lib.hid (fown_below Oh0.out hb)
  replace Oh1 := Lib.hid (fown_below Oh1.out hb)
  clear hb
  have Oh2 := Lib.hid (show FOwn w29.heap.size w30 (.slice (some ⟨gh2, 0, none⟩) z2.length z2.length) z2 from ho)
  have Rh2 := Lib.hid Oh2.out.lt
  clear ho
  go_wp2_with fail
  refine (toF_any _ z3 _ (HU3.out.below D30.out) hn3).mono ?_; rintro e w31 ⟨⟨gh3, rfl, ho⟩, hb⟩
  have D31 := Lib.hid (D30.out.trans (hb.mono D30.out.size)); have S31 := Lib.hid (hb.size)
  replace OS0 := Lib.hid (fown_below OS0.out hb)
  replace OG0 := Lib.hid (fown_below OG0.out hb)
  replace Oh0 := Lib.hid (fown_below Oh0.out hb)
  replace Oh1 := Lib.hid (fown_below Oh1.out hb)
  replace Oh2 := Lib.hid (fown_below Oh2.out hb)
  clear hb
  have Oh3 := Lib.hid (show FOwn w30.heap.size w31 (.slice (some ⟨gh3, 0, none⟩) z3.length z3.length) z3 from ho)
  have Rh3 := Lib.hid Oh3.out.lt
  clear ho
  go_wp2_with fail
  refine (iSolveRow_any _ z0 _ z1 _ z2 _ z3 _ (fown_FS Oh0.out HW0.out) hn0 (fown_FS Oh1.out HW1.out) hn1 (fown_FS Oh2.out HW2.out) hn2 (fown_FS Oh3.out HW3.out) hn3).mono ?_; rintro e w32 ⟨⟨vH, rfl, hr⟩, hb⟩
  have D32 := Lib.hid (D31.out.trans (hb.mono D31.out.size)); have S32 := Lib.hid (hb.size)
  replace OS0 := Lib.hid (fown_below OS0.out hb)
  replace OG0 := Lib.hid (fown_below OG0.out hb)
  replace Oh0 := Lib.hid (fown_below Oh0.out hb)
  replace Oh1 := Lib.hid (fown_below Oh1.out hb)
  replace Oh2 := Lib.hid (fown_below Oh2.out hb)
  replace Oh3 := Lib.hid (fown_below Oh3.out hb)
  clear hb
  rw [HN.out] at hr
  rw [HOK.out]
  obtain ⟨rsH0, hl, he, ho⟩ := hr
  have LH0 := Lib.hid hl; have EH0 := Lib.hid he; have OH0 := Lib.hid ho; have RH0 := Lib.hid ho.lt
  clear hl he ho
  clear Oh0 Rh0
  clear Oh1 Rh1
  clear Oh2 Rh2
  clear Oh3 Rh3
  go_wp2_with fail
  refine (eqF_any _ _ rsH0 rsS0 _ (fown_FS OH0.out EH0.out.lt) (fown_FS OS0.out ES0.out.lt) (LH0.out.trans LS0.out.symm) (by rw [LH0.out]; exact hNb) (eqs_cn EH0.out ES0.out (LH0.out.trans LS0.out.symm))).mono ?_; rintro e w' ⟨rfl, m, rfl⟩
  have hb := below_drewN (Below.refl w32.heap.size w32) m
  generalize w32.drewN m = w33 at hb ⊢
  have D33 := Lib.hid (D32.out.trans (hb.mono D32.out.size)); have S33 := Lib.hid (hb.size)
  replace OS0 := Lib.hid (fown_below OS0.out hb)
  replace OG0 := Lib.hid (fown_below OG0.out hb)
  replace OH0 := Lib.hid (fown_below OH0.out hb)
  clear hb
  go_wp2_with fail
  refine (heldG_at _ (0) N _ _ (fown_FS OG0.out (marksG_lt _ _)) (by omega) (by omega)).mono ?_; rintro e w' ⟨rfl, m, rfl⟩
  have hb := below_drewN (Below.refl w33.heap.size w33) m
  generalize w33.drewN m = w34 at hb ⊢
  have D34 := Lib.hid (D33.out.trans (hb.mono D33.out.size)); have S34 := Lib.hid (hb.size)
  replace OS0 := Lib.hid (fown_below OS0.out hb)
  replace OG0 := Lib.hid (fown_below OG0.out hb)
  replace OH0 := Lib.hid (fown_below OH0.out hb)
  clear hb
  go_wp2_with fail
  go_ret
  exact ⟨rfl, HB.out.trans (D34.out.mono HB.out.size)⟩

/-! ### from the walk to the statement -/
theorem own : ownKnob Try.prog.godebug = none := by kernel_rfl
theorem laidOut : laidOutB Try.prog = true := by kernel_rfl
set_option maxRecDepth 100000 in
theorem lifted (os : Os) (started : os.Started) (H : Type) (enc : TypeId × Value → H) :
    ReturnsInHanded {} Try.checked os 11 .any (Rows.fnExactSolveRowSpec.pre6 enc Try.prog Try.f11 Rows.fnExactSolveRowRow.domain false) (Rows.fnExactSolveRowSpec.post enc Try.prog Try.f11 false true false false) := by
  refine returnsInHanded_of_change (C := Try.checked) own started (by kernel_rfl) Try.func11
    (ChangeSpec.witness6 (enc := enc) (C := Try.checked) false ⟨#[], #[.slice none 0 0, .slice none 0 0, .slice none 0 0, .slice none 0 0], []⟩ 8 (by kernel_rfl) (by kernel_rfl) (by kernel_rfl) (by kernel_rfl)) ?_
  intro W base args ds gs before hval0 hW hcnd _
  have hval : ∀ (j : Nat) t v, Try.f11.params[j]? = some t → args[j]? = some v → Value.okWide Try.prog W .any base t v := hval0
  have hW' := hW
  obtain ⟨p, q, hA0, hV, rfl, hfz, hnd⟩ := hW
  have hA : DataW.TrodAll enc Try.prog W 0 (fun _ => true) true Try.f11.params.toList args.toList ds p := hA0
  rw [Try.params11] at hA hval
  obtain ⟨v0, vs0, d0, ds0, p0, q0, hargs, rfl, rfl, h0, r0⟩ := trodAll_cons hA
  obtain ⟨v1, vs1, d1, ds1, p1, q1, rfl, rfl, rfl, h1, r1⟩ := trodAll_cons r0
  obtain ⟨v2, vs2, d2, ds2, p2, q2, rfl, rfl, rfl, h2, r2⟩ := trodAll_cons r1
  obtain ⟨v3, vs3, d3, ds3, p3, q3, rfl, rfl, rfl, h3, r3⟩ := trodAll_cons r2
  obtain ⟨rfl, rfl, rfl⟩ := trodAll_nil r3
  obtain rfl : args = #[v0, v1, v2, v3] := by cases args; simp_all
  obtain ⟨rfl, rfl⟩ := trodVars_none hV
  obtain ⟨a0, len0, cap0, rfl⟩ := okWide_slice Try.underlying24 (hval 0 24 v0 rfl rfl)
  have k0 := h0
  have lt0 : ∀ x ∈ p0, x.block < W.heap.size := by obtain ⟨m, hm⟩ := k0; exact DataW.trod_lt m _ _ _ hm
  obtain ⟨z0, w0⟩ : ∃ zs, FS .f32 W (.slice a0 len0 cap0) zs := open_floats Try.underlying24 Try.underlying25 (by kernel_rfl) h0
  obtain ⟨a1, len1, cap1, rfl⟩ := okWide_slice Try.underlying24 (hval 1 24 v1 rfl rfl)
  have k1 := h1
  have lt1 : ∀ x ∈ p1, x.block < W.heap.size := by obtain ⟨m, hm⟩ := k1; exact DataW.trod_lt m _ _ _ hm
  obtain ⟨z1, w1⟩ : ∃ zs, FS .f32 W (.slice a1 len1 cap1) zs := open_floats Try.underlying24 Try.underlying25 (by kernel_rfl) h1
  obtain ⟨a2, len2, cap2, rfl⟩ := okWide_slice Try.underlying24 (hval 2 24 v2 rfl rfl)
  have k2 := h2
  have lt2 : ∀ x ∈ p2, x.block < W.heap.size := by obtain ⟨m, hm⟩ := k2; exact DataW.trod_lt m _ _ _ hm
  obtain ⟨z2, w2⟩ : ∃ zs, FS .f32 W (.slice a2 len2 cap2) zs := open_floats Try.underlying24 Try.underlying25 (by kernel_rfl) h2
  obtain ⟨a3, len3, cap3, rfl⟩ := okWide_slice Try.underlying24 (hval 3 24 v3 rfl rfl)
  have k3 := h3
  have lt3 : ∀ x ∈ p3, x.block < W.heap.size := by obtain ⟨m, hm⟩ := k3; exact DataW.trod_lt m _ _ _ hm
  obtain ⟨z3, w3⟩ : ∃ zs, FS .f32 W (.slice a3 len3 cap3) zs := open_floats Try.underlying24 Try.underlying25 (by kernel_rfl) h3
  clear hA0 hval0
  refine (walk a0 len0 cap0 z0 a1 len1 cap1 z1 a2 len2 cap2 z2 a3 len3 cap3 z3 W w0 w1 w2 w3).mono fun e W' ⟨he, bel⟩ => ?_
  subst he
  exact ⟨_, rfl, _, _, _, [], _, [], hW', trodAll_mk1 (shut_bool Try.underlying4 _), (trodAll_cons_mk (Below.trod laidOut (by kernel_rfl) (of_decide_eq_true (by kernel_rfl)) k0 bel lt0) (trodAll_cons_mk (Below.trod laidOut (by kernel_rfl) (of_decide_eq_true (by kernel_rfl)) k1 bel lt1) (trodAll_cons_mk (Below.trod laidOut (by kernel_rfl) (of_decide_eq_true (by kernel_rfl)) k2 bel lt2) (trodAll_cons_mk (Below.trod laidOut (by kernel_rfl) (of_decide_eq_true (by kernel_rfl)) k3 bel lt3) trodAll_mk0)))), rfl, bel.frame _, fun h => by cases h⟩

theorem over : Rows.fnExactSolveRowRow.holds Try.pinned (OpenSpec.ofChange Rows.fnExactSolveRowSpec) :=
  OpenClaim.holds_of_wide 11 Try.f11 rfl rfl rfl rfl rfl rfl rfl ⟨rfl, rfl, rfl, rfl, rfl⟩ rfl rfl rfl rfl rfl (by kernel_rfl) Try.func11 (by kernel_rfl)
    (of_decide_eq_true (by kernel_rfl)) (by unfold Func.isWrapper; first | (rw [if_pos (by decide +kernel)]; kernel_rfl) | (rw [if_neg (by decide +kernel)]; exact ⟨rfl, rfl⟩))
    (fun os started H enc _ => lifted os started H enc)

/-- The statement. -/
theorem proved : Rows.FnExactSolveRowSaid := over
#print axioms proved
end Go.Proofs.Ytihhlfafglmgnaa.fnExactSolveRow
