/- FnExactSpectrumOf: for all arguments the law returns true: SpectrumOf answers as its model does, in all results, its arguments read as before, and its result is memory of its own. No condition. -/
import Derived.Test.YtlfnbnhbobohlaaRows
import Derived.WalkKit
import Derived.ProofKit
import Derived.OpenShut
import Derived.ShutString
import Derived.ChangeOld
import Derived.Below
import Derived.Laws.Cover2
import Derived.Test.YtlfnbnhbobohlaaSpw
import Derived.Test.YtlfnbnhbobohlaaMarkG
import Derived.Test.YtlfnbnhbobohlaaOwn
import Derived.Test.YtlfnbnhbobohlaaClM
namespace Go.Proofs.Ytlfnbnhbobohlaa.fnExactSpectrumOf
open Go.ChangeShapes Go.WideShapes Go.ChangeAt Go.RowKit Go.Fl
open Go.ChangeMaps (open_string shut_string)
set_option linter.unusedVariables false

set_option maxHeartbeats 4000000 in
set_option maxRecDepth 100000 in
theorem walk (a0 : Option Addr) (len0 cap0 : Nat) (z0 : List Nat) (w : World) (w0 : FS .f32 w (.slice a0 len0 cap0) z0) :
    Calls Try.prog 5 #[.slice a0 len0 cap0] w fun e w' => e = .returned (.bool true) ∧ Below w.heap.size w w' := by
  obtain ⟨e0, W0⟩ := fs_open w0
  subst e0
  have HV0 := Lib.hid w0; have HW0 := Lib.hid W0.2; have hcm0 := W0.1
  clear w0 W0
  by_cases q0 : 1048576 < z0.length
  · have hd0 : decide ((1048576 : Int) < (z0.length : Int)) = true := by simp; omega
    go_enter Try.func5, Try.ntmps5
    go_wp2_with fail
    go_ret
    exact ⟨rfl, Below.refl _ _⟩
  have hd0 : decide ((1048576 : Int) < (z0.length : Int)) = false := by simp; omega
  have hn0 : z0.length ≤ 1048576 := by omega
  clear q0
  have hNb := lenSpectrumOf_le z0 hn0
  obtain ⟨ok, hok⟩ : ∃ ok, okSpectrumOf z0 = ok := ⟨_, rfl⟩
  have HOK := Lib.hid hok
  obtain ⟨N, hN⟩ : ∃ N, lenSpectrumOf z0 = N := ⟨_, rfl⟩
  rw [hN] at hNb
  have HN := Lib.hid hN
  clear hok hN
  go_enter Try.func5, Try.ntmps5
  go_wp2_with fail
  clear hd0
  have HB := Lib.hid (Below.refl w.heap.size w)
  have HU0 := HV0
  obtain ⟨w1, e1⟩ : ∃ w1, w1 = w := ⟨_, rfl⟩
  subst e1
  have D1 := Lib.hid (Below.refl w1.heap.size w1)
  refine (toF_any _ z0 _ (HU0.out.below D1.out) hn0).mono ?_; rintro e w2 ⟨⟨gs0, rfl, ho⟩, hb⟩
  have D2 := Lib.hid (D1.out.trans (hb.mono D1.out.size)); have S2 := Lib.hid (hb.size)
  clear hb
  have Os0 := Lib.hid (show FOwn w1.heap.size w2 (.slice (some ⟨gs0, 0, none⟩) z0.length z0.length) z0 from ho)
  have Rs0 := Lib.hid Os0.out.lt
  clear ho
  go_wp2_with fail
  refine (sSpectrumOf_any _ z0 _ (fown_FS Os0.out HW0.out) hn0).mono ?_; rintro e w3 ⟨⟨vS, rfl, hr⟩, hb⟩
  have D3 := Lib.hid (D2.out.trans (hb.mono D2.out.size)); have S3 := Lib.hid (hb.size)
  replace Os0 := Lib.hid (fown_below Os0.out hb)
  clear hb
  rw [HN.out] at hr
  rw [HOK.out]
  obtain ⟨rsS0, hl, he, ho⟩ := hr
  have LS0 := Lib.hid hl; have ES0 := Lib.hid he; have OS0 := Lib.hid ho; have RS0 := Lib.hid ho.lt
  clear hl he ho
  clear Os0 Rs0
  go_wp2_with fail
  refine (toF_any _ z0 _ (HU0.out.below D3.out) hn0).mono ?_; rintro e w4 ⟨⟨gx0, rfl, ho⟩, hb⟩
  have D4 := Lib.hid (D3.out.trans (hb.mono D3.out.size)); have S4 := Lib.hid (hb.size)
  replace OS0 := Lib.hid (cown_below OS0.out hb)
  clear hb
  have Ox0 := Lib.hid (show FOwn w3.heap.size w4 (.slice (some ⟨gx0, 0, none⟩) z0.length z0.length) z0 from ho)
  have Rx0 := Lib.hid Ox0.out.lt
  clear ho
  go_wp2_with fail
  refine (iSpectrumOf_any _ z0 _ (fown_FS Ox0.out HW0.out) hn0).mono ?_; rintro e w5 ⟨⟨vG, rfl, hr⟩, hb⟩
  have D5 := Lib.hid (D4.out.trans (hb.mono D4.out.size)); have S5 := Lib.hid (hb.size)
  replace OS0 := Lib.hid (cown_below OS0.out hb)
  replace Ox0 := Lib.hid (fown_below Ox0.out hb)
  clear hb
  rw [HN.out] at hr
  rw [HOK.out]
  obtain ⟨rsG0, hl, he, ho⟩ := hr
  have LG0 := Lib.hid hl; have EG0 := Lib.hid he; have OG0 := Lib.hid ho; have RG0 := Lib.hid ho.lt
  clear hl he ho
  go_wp2_with fail
  refine (eqC2_any _ _ _ _ rsG0 rsS0 _ OG0.out OS0.out (EG0.out.c32) (ES0.out.c32) (LG0.out.trans LS0.out.symm) (by rw [LG0.out]; omega) (eqc_cn EG0.out ES0.out (LG0.out.trans LS0.out.symm))).mono ?_; rintro e w' ⟨rfl, m, rfl⟩
  have hb := below_drewN (Below.refl w5.heap.size w5) m
  generalize w5.drewN m = w6 at hb ⊢
  have D6 := Lib.hid (D5.out.trans (hb.mono D5.out.size)); have S6 := Lib.hid (hb.size)
  replace OS0 := Lib.hid (cown_below OS0.out hb)
  replace Ox0 := Lib.hid (fown_below Ox0.out hb)
  replace OG0 := Lib.hid (cown_below OG0.out hb)
  clear hb
  go_wp2_with fail
  refine (toF_any _ z0 _ (HU0.out.below D6.out) hn0).mono ?_; rintro e w7 ⟨⟨gy0, rfl, ho⟩, hb⟩
  have D7 := Lib.hid (D6.out.trans (hb.mono D6.out.size)); have S7 := Lib.hid (hb.size)
  replace OS0 := Lib.hid (cown_below OS0.out hb)
  replace Ox0 := Lib.hid (fown_below Ox0.out hb)
  replace OG0 := Lib.hid (cown_below OG0.out hb)
  clear hb
  have Oy0 := Lib.hid (show FOwn w6.heap.size w7 (.slice (some ⟨gy0, 0, none⟩) z0.length z0.length) z0 from ho)
  have Ry0 := Lib.hid Oy0.out.lt
  clear ho
  go_wp2_with fail
  refine (eqF_any _ _ z0 z0 _ (fown_FS Ox0.out HW0.out) (fown_FS Oy0.out HW0.out) rfl hn0 (fun _ _ => rfl)).mono ?_; rintro e w' ⟨rfl, m, rfl⟩
  have hb := below_drewN (Below.refl w7.heap.size w7) m
  generalize w7.drewN m = w8 at hb ⊢
  have D8 := Lib.hid (D7.out.trans (hb.mono D7.out.size)); have S8 := Lib.hid (hb.size)
  replace OS0 := Lib.hid (cown_below OS0.out hb)
  replace Ox0 := Lib.hid (fown_below Ox0.out hb)
  replace OG0 := Lib.hid (cown_below OG0.out hb)
  replace Oy0 := Lib.hid (fown_below Oy0.out hb)
  clear hb
  clear Oy0 Ry0
  go_wp2_with fail
  refine (markG_at _ _ z0 (0) _ _ Ox0.out (by omega) (by omega)).mono ?_; rintro e w9 ⟨rfl, ho, hg⟩
  replace OS0 := Lib.hid (cown_grown OS0.out hg (apart RS0.out Rx0.out (by have := S2.out; have := S3.out; have := S4.out; have := S5.out; have := S6.out; have := S7.out; have := S8.out; omega)))
  replace OG0 := Lib.hid (cown_grown OG0.out hg (apart RG0.out Rx0.out (by have := S2.out; have := S3.out; have := S4.out; have := S5.out; have := S6.out; have := S7.out; have := S8.out; omega)))
  have D9 := Lib.hid (D8.out.grown hg D8.out.size (fun k hk => by have h1 := (Rx0.out k hk).1; have := S2.out; have := S3.out; have := S4.out; have := S5.out; have := S6.out; have := S7.out; have := S8.out; omega)); have S9 := Lib.hid hg.size
  replace Ox0 := Lib.hid ho
  clear ho hg
  clear Ox0 Rx0
  go_wp2_with fail
  refine (eqC2_any _ _ _ _ rsG0 rsS0 _ OG0.out OS0.out (EG0.out.c32) (ES0.out.c32) (LG0.out.trans LS0.out.symm) (by rw [LG0.out]; omega) (eqc_cn EG0.out ES0.out (LG0.out.trans LS0.out.symm))).mono ?_; rintro e w' ⟨rfl, m, rfl⟩
  have hb := below_drewN (Below.refl w9.heap.size w9) m
  generalize w9.drewN m = w10 at hb ⊢
  have D10 := Lib.hid (D9.out.trans (hb.mono D9.out.size)); have S10 := Lib.hid (hb.size)
  replace OS0 := Lib.hid (cown_below OS0.out hb)
  replace OG0 := Lib.hid (cown_below OG0.out hb)
  clear hb
  go_wp2_with fail
  refine (markC_any _ _ rsG0 _ OG0.out (by rw [LG0.out]; omega)).mono ?_; rintro e w11 ⟨rfl, ho, hg⟩
  replace OS0 := Lib.hid (cown_grown OS0.out hg (apart RS0.out RG0.out (by have := S2.out; have := S3.out; have := S4.out; have := S5.out; have := S6.out; have := S7.out; have := S8.out; have := S9.out; have := S10.out; omega)))
  have D11 := Lib.hid (D10.out.grown hg D10.out.size (fun k hk => by have h1 := (RG0.out k hk).1; have := S2.out; have := S3.out; have := S4.out; have := S5.out; have := S6.out; have := S7.out; have := S8.out; have := S9.out; have := S10.out; omega)); have S11 := Lib.hid hg.size
  rw [LG0.out] at ho ⊢
  replace OG0 := Lib.hid ho
  clear ho hg
  go_wp2_with fail
  refine (heldC_any _ _ N _ OG0.out (by omega)).mono ?_; rintro e w' ⟨rfl, m, rfl⟩
  have hb := below_drewN (Below.refl w11.heap.size w11) m
  generalize w11.drewN m = w12 at hb ⊢
  have D12 := Lib.hid (D11.out.trans (hb.mono D11.out.size)); have S12 := Lib.hid (hb.size)
  replace OS0 := Lib.hid (cown_below OS0.out hb)
  replace OG0 := Lib.hid (cown_below OG0.out hb)
  clear hb
  go_wp2_with fail
  refine (toF_any _ z0 _ (HU0.out.below D12.out) hn0).mono ?_; rintro e w13 ⟨⟨gh0, rfl, ho⟩, hb⟩
  have D13 := Lib.hid (D12.out.trans (hb.mono D12.out.size)); have S13 := Lib.hid (hb.size)
  replace OS0 := Lib.hid (cown_below OS0.out hb)
  replace OG0 := Lib.hid (cown_below OG0.out hb)
  clear hb
  have Oh0 := Lib.hid (show FOwn w12.heap.size w13 (.slice (some ⟨gh0, 0, none⟩) z0.length z0.length) z0 from ho)
  have Rh0 := Lib.hid Oh0.out.lt
  clear ho
  go_wp2_with fail
  refine (iSpectrumOf_any _ z0 _ (fown_FS Oh0.out HW0.out) hn0).mono ?_; rintro e w14 ⟨⟨vH, rfl, hr⟩, hb⟩
  have D14 := Lib.hid (D13.out.trans (hb.mono D13.out.size)); have S14 := Lib.hid (hb.size)
  replace OS0 := Lib.hid (cown_below OS0.out hb)
  replace OG0 := Lib.hid (cown_below OG0.out hb)
  replace Oh0 := Lib.hid (fown_below Oh0.out hb)
  clear hb
  rw [HN.out] at hr
  rw [HOK.out]
  obtain ⟨rsH0, hl, he, ho⟩ := hr
  have LH0 := Lib.hid hl; have EH0 := Lib.hid he; have OH0 := Lib.hid ho; have RH0 := Lib.hid ho.lt
  clear hl he ho
  clear Oh0 Rh0
  go_wp2_with fail
  refine (eqC2_any _ _ _ _ rsH0 rsS0 _ OH0.out OS0.out (EH0.out.c32) (ES0.out.c32) (LH0.out.trans LS0.out.symm) (by rw [LH0.out]; omega) (eqc_cn EH0.out ES0.out (LH0.out.trans LS0.out.symm))).mono ?_; rintro e w' ⟨rfl, m, rfl⟩
  have hb := below_drewN (Below.refl w14.heap.size w14) m
  generalize w14.drewN m = w15 at hb ⊢
  have D15 := Lib.hid (D14.out.trans (hb.mono D14.out.size)); have S15 := Lib.hid (hb.size)
  replace OS0 := Lib.hid (cown_below OS0.out hb)
  replace OG0 := Lib.hid (cown_below OG0.out hb)
  replace OH0 := Lib.hid (cown_below OH0.out hb)
  clear hb
  go_wp2_with fail
  refine (heldC_any _ _ N _ OG0.out (by omega)).mono ?_; rintro e w' ⟨rfl, m, rfl⟩
  have hb := below_drewN (Below.refl w15.heap.size w15) m
  generalize w15.drewN m = w16 at hb ⊢
  have D16 := Lib.hid (D15.out.trans (hb.mono D15.out.size)); have S16 := Lib.hid (hb.size)
  replace OS0 := Lib.hid (cown_below OS0.out hb)
  replace OG0 := Lib.hid (cown_below OG0.out hb)
  replace OH0 := Lib.hid (cown_below OH0.out hb)
  clear hb
  go_wp2_with fail
  go_ret
  exact ⟨rfl, HB.out.trans (D16.out.mono HB.out.size)⟩

/-! ### from the walk to the statement -/
theorem own : ownKnob Try.prog.godebug = none := by kernel_rfl
theorem laidOut : laidOutB Try.prog = true := by kernel_rfl
set_option maxRecDepth 100000 in
theorem lifted (os : Os) (started : os.Started) (H : Type) (enc : TypeId × Value → H) :
    ReturnsInHanded {} Try.checked os 5 .any (Rows.fnExactSpectrumOfSpec.pre6 enc Try.prog Try.f5 Rows.fnExactSpectrumOfRow.domain false) (Rows.fnExactSpectrumOfSpec.post enc Try.prog Try.f5 false true false false) := by
  refine returnsInHanded_of_change (C := Try.checked) own started (by kernel_rfl) Try.func5
    (ChangeSpec.witness6 (enc := enc) (C := Try.checked) false ⟨#[], #[.slice none 0 0], []⟩ 8 (by kernel_rfl) (by kernel_rfl) (by kernel_rfl) (by kernel_rfl)) ?_
  intro W base args ds gs before hval0 hW hcnd _
  have hval : ∀ (j : Nat) t v, Try.f5.params[j]? = some t → args[j]? = some v → Value.okWide Try.prog W .any base t v := hval0
  have hW' := hW
  obtain ⟨p, q, hA0, hV, rfl, hfz, hnd⟩ := hW
  have hA : DataW.TrodAll enc Try.prog W 0 (fun _ => true) true Try.f5.params.toList args.toList ds p := hA0
  rw [Try.params5] at hA hval
  obtain ⟨v0, vs0, d0, ds0, p0, q0, hargs, rfl, rfl, h0, r0⟩ := trodAll_cons hA
  obtain ⟨rfl, rfl, rfl⟩ := trodAll_nil r0
  obtain rfl : args = #[v0] := by cases args; simp_all
  obtain ⟨rfl, rfl⟩ := trodVars_none hV
  obtain ⟨a0, len0, cap0, rfl⟩ := okWide_slice Try.underlying24 (hval 0 24 v0 rfl rfl)
  have k0 := h0
  have lt0 : ∀ x ∈ p0, x.block < W.heap.size := by obtain ⟨m, hm⟩ := k0; exact DataW.trod_lt m _ _ _ hm
  obtain ⟨z0, w0⟩ : ∃ zs, FS .f32 W (.slice a0 len0 cap0) zs := open_floats Try.underlying24 Try.underlying46 (by kernel_rfl) h0
  clear hA0 hval0
  refine (walk a0 len0 cap0 z0 W w0).mono fun e W' ⟨he, bel⟩ => ?_
  subst he
  exact ⟨_, rfl, _, _, _, [], _, [], hW', trodAll_mk1 (shut_bool Try.underlying4 _), (trodAll_cons_mk (Below.trod laidOut (by kernel_rfl) (of_decide_eq_true (by kernel_rfl)) k0 bel lt0) trodAll_mk0), rfl, bel.frame _, fun h => by cases h⟩

theorem over : Rows.fnExactSpectrumOfRow.holds Try.pinned (OpenSpec.ofChange Rows.fnExactSpectrumOfSpec) :=
  OpenClaim.holds_of_wide 5 Try.f5 rfl rfl rfl rfl rfl rfl rfl ⟨rfl, rfl, rfl, rfl, rfl⟩ rfl rfl rfl rfl rfl (by kernel_rfl) Try.func5 (by kernel_rfl)
    (of_decide_eq_true (by kernel_rfl)) (by unfold Func.isWrapper; first | (rw [if_pos (by decide +kernel)]; kernel_rfl) | (rw [if_neg (by decide +kernel)]; exact ⟨rfl, rfl⟩))
    (fun os started H enc _ => lifted os started H enc)

/-- The statement. -/
theorem proved : Rows.FnExactSpectrumOfSaid := over
#print axioms proved
end Go.Proofs.Ytlfnbnhbobohlaa.fnExactSpectrumOf
