/- FnExactMeanRow: for all arguments the law returns true: MeanRow answers as its model does, in all results, its arguments read as before, and its result is memory of its own. No condition. -/
import Derived.Test.YtlfnbnhbobohlaaRows
import Derived.WalkKit
import Derived.ProofKit
import Derived.OpenShut
import Derived.ShutString
import Derived.ChangeOld
import Derived.Below
import Derived.Laws.Cover2
import Derived.Test.YtlfnbnhbobohlaaMrw
import Derived.Test.YtlfnbnhbobohlaaMarkG
import Derived.Test.YtlfnbnhbobohlaaOwn
namespace Go.Proofs.Ytlfnbnhbobohlaa.fnExactMeanRow
open Go.ChangeShapes Go.WideShapes Go.ChangeAt Go.RowKit Go.Fl
open Go.ChangeMaps (open_string shut_string)
set_option linter.unusedVariables false

set_option maxHeartbeats 4000000 in
set_option maxRecDepth 100000 in
theorem walk (a0 b0 : Int) (a1 : Option Addr) (len1 cap1 : Nat) (z1 : List Nat) (w : World) (w0 : (Lit.int .i64 a0).wf = true) (x0 : (Lit.int .i64 b0).wf = true) (w1 : FS .f32 w (.slice a1 len1 cap1) z1) :
    Calls Try.prog 4 #[GV a0 b0, .slice a1 len1 cap1] w fun e w' => e = .returned (.bool true) ∧ Below w.heap.size w w' := by
  obtain ⟨e1, W1⟩ := fs_open w1
  subst e1
  have HV1 := Lib.hid w1; have HW1 := Lib.hid W1.2; have hcm1 := W1.1
  clear w1 W1
  clear w0 x0
  by_cases q1 : 1048576 < z1.length
  · have hd1 : decide ((1048576 : Int) < (z1.length : Int)) = true := by simp; omega
    go_enter Try.func4, Try.ntmps4
    go_wp2_with fail
    go_ret
    exact ⟨rfl, (Below.refl _ _).alloc (Nat.le_refl _) _⟩
  have hd1 : decide ((1048576 : Int) < (z1.length : Int)) = false := by simp; omega
  have hn1 : z1.length ≤ 1048576 := by omega
  clear q1
  have hNb := lenMeanRow_le a0 b0 z1 hn1
  obtain ⟨ok, hok⟩ : ∃ ok, okMeanRow a0 b0 z1 = ok := ⟨_, rfl⟩
  have HOK := Lib.hid hok
  obtain ⟨N, hN⟩ : ∃ N, lenMeanRow a0 b0 z1 = N := ⟨_, rfl⟩
  rw [hN] at hNb
  have HN := Lib.hid hN
  clear hok hN
  go_enter Try.func4, Try.ntmps4
  have hb0 := (Below.refl w.heap.size w).alloc (Nat.le_refl _) (.cells #[.int .i64 a0, .int .i64 b0] 23)
  have hp := gp_new w a0 b0 23
  have hc0 := hp.cells.1; have hc1 := hp.cells.2
  have HG := Lib.hid hp; clear hp
  go_wp2_with fail
  clear hd1 hc0 hc1
  generalize w.alloc (.cells #[.int .i64 a0, .int .i64 b0] 23) = w1 at hb0 HG ⊢
  have HB := Lib.hid hb0
  have HU1 := Lib.hid (HV1.out.below hb0)
  clear hb0 HV1
  have D1 := Lib.hid (Below.refl w1.heap.size w1)
  refine (toGrid_any a0 b0 _).mono ?_; rintro e w2 ⟨rfl, hb⟩
  have D2 := Lib.hid (D1.out.trans (hb.mono D1.out.size)); have S2 := Lib.hid (hb.size)
  clear hb
  go_wp2_with fail
  refine (toF_any _ z1 _ (HU1.out.below D2.out) hn1).mono ?_; rintro e w3 ⟨⟨gs1, rfl, ho⟩, hb⟩
  have D3 := Lib.hid (D2.out.trans (hb.mono D2.out.size)); have S3 := Lib.hid (hb.size)
  clear hb
  have Os1 := Lib.hid (show FOwn w2.heap.size w3 (.slice (some ⟨gs1, 0, none⟩) z1.length z1.length) z1 from ho)
  have Rs1 := Lib.hid Os1.out.lt
  clear ho
  go_wp2_with fail
  refine (sMeanRow_any a0 b0 _ z1 _ (fown_FS Os1.out HW1.out) hn1).mono ?_; rintro e w4 ⟨⟨vS, rfl, hr⟩, hb⟩
  have D4 := Lib.hid (D3.out.trans (hb.mono D3.out.size)); have S4 := Lib.hid (hb.size)
  replace Os1 := Lib.hid (fown_below Os1.out hb)
  clear hb
  rw [HN.out] at hr
  rw [HOK.out]
  obtain ⟨rsS0, hl, he, ho⟩ := hr
  have LS0 := Lib.hid hl; have ES0 := Lib.hid he; have OS0 := Lib.hid ho; have RS0 := Lib.hid ho.lt
  clear hl he ho
  clear Os1 Rs1
  go_wp2_with fail
  refine (toF_any _ z1 _ (HU1.out.below D4.out) hn1).mono ?_; rintro e w5 ⟨⟨gx1, rfl, ho⟩, hb⟩
  have D5 := Lib.hid (D4.out.trans (hb.mono D4.out.size)); have S5 := Lib.hid (hb.size)
  replace OS0 := Lib.hid (fown_below OS0.out hb)
  clear hb
  have Ox1 := Lib.hid (show FOwn w4.heap.size w5 (.slice (some ⟨gx1, 0, none⟩) z1.length z1.length) z1 from ho)
  have Rx1 := Lib.hid Ox1.out.lt
  clear ho
  have hc0 := (GP.below HG.out D5.out).cells.1; have hc1 := (GP.below HG.out D5.out).cells.2
  go_wp2_with fail
  clear hc0 hc1
  refine (toGrid_any a0 b0 _).mono ?_; rintro e w6 ⟨rfl, hb⟩
  have D6 := Lib.hid (D5.out.trans (hb.mono D5.out.size)); have S6 := Lib.hid (hb.size)
  replace OS0 := Lib.hid (fown_below OS0.out hb)
  replace Ox1 := Lib.hid (fown_below Ox1.out hb)
  clear hb
  go_wp2_with fail
  refine (iMeanRow_any a0 b0 _ z1 _ (fown_FS Ox1.out HW1.out) hn1).mono ?_; rintro e w7 ⟨⟨vG, rfl, hr⟩, hb⟩
  have D7 := Lib.hid (D6.out.trans (hb.mono D6.out.size)); have S7 := Lib.hid (hb.size)
  replace OS0 := Lib.hid (fown_below OS0.out hb)
  replace Ox1 := Lib.hid (fown_below Ox1.out hb)
  clear hb
  rw [HN.out] at hr
  rw [HOK.out]
  obtain ⟨rsG0, hl, he, ho⟩ := hr
  have LG0 := Lib.hid hl; have EG0 := Lib.hid he; have OG0 := Lib.hid ho; have RG0 := Lib.hid ho.lt
  clear hl he ho
  go_wp2_with fail
  refine (eqF_any _ _ rsG0 rsS0 _ (fown_FS OG0.out EG0.out.lt) (fown_FS OS0.out ES0.out.lt) (LG0.out.trans LS0.out.symm) (by rw [LG0.out]; exact hNb) (eqs_cn EG0.out ES0.out (LG0.out.trans LS0.out.symm))).mono ?_; rintro e w' ⟨rfl, m, rfl⟩
  have hb := below_drewN (Below.refl w7.heap.size w7) m
  generalize w7.drewN m = w8 at hb ⊢
  have D8 := Lib.hid (D7.out.trans (hb.mono D7.out.size)); have S8 := Lib.hid (hb.size)
  replace OS0 := Lib.hid (fown_below OS0.out hb)
  replace Ox1 := Lib.hid (fown_below Ox1.out hb)
  replace OG0 := Lib.hid (fown_below OG0.out hb)
  clear hb
  go_wp2_with fail
  refine (toF_any _ z1 _ (HU1.out.below D8.out) hn1).mono ?_; rintro e w9 ⟨⟨gy1, rfl, ho⟩, hb⟩
  have D9 := Lib.hid (D8.out.trans (hb.mono D8.out.size)); have S9 := Lib.hid (hb.size)
  replace OS0 := Lib.hid (fown_below OS0.out hb)
  replace Ox1 := Lib.hid (fown_below Ox1.out hb)
  replace OG0 := Lib.hid (fown_below OG0.out hb)
  clear hb
  have Oy1 := Lib.hid (show FOwn w8.heap.size w9 (.slice (some ⟨gy1, 0, none⟩) z1.length z1.length) z1 from ho)
  have Ry1 := Lib.hid Oy1.out.lt
  clear ho
  go_wp2_with fail
  refine (eqF_any _ _ z1 z1 _ (fown_FS Ox1.out HW1.out) (fown_FS Oy1.out HW1.out) rfl hn1 (fun _ _ => rfl)).mono ?_; rintro e w' ⟨rfl, m, rfl⟩
  have hb := below_drewN (Below.refl w9.heap.size w9) m
  generalize w9.drewN m = w10 at hb ⊢
  have D10 := Lib.hid (D9.out.trans (hb.mono D9.out.size)); have S10 := Lib.hid (hb.size)
  replace OS0 := Lib.hid (fown_below OS0.out hb)
  replace Ox1 := Lib.hid (fown_below Ox1.out hb)
  replace OG0 := Lib.hid (fown_below OG0.out hb)
  replace Oy1 := Lib.hid (fown_below Oy1.out hb)
  clear hb
  clear Oy1 Ry1
  go_wp2_with fail
  refine (markG_at _ _ z1 (0) _ _ Ox1.out (by omega) (by omega)).mono ?_; rintro e w11 ⟨rfl, ho, hg⟩
  replace OS0 := Lib.hid (fown_grown OS0.out hg (apart RS0.out Rx1.out (by have := S2.out; have := S3.out; have := S4.out; have := S5.out; have := S6.out; have := S7.out; have := S8.out; have := S9.out; have := S10.out; omega)))
  replace OG0 := Lib.hid (fown_grown OG0.out hg (apart RG0.out Rx1.out (by have := S2.out; have := S3.out; have := S4.out; have := S5.out; have := S6.out; have := S7.out; have := S8.out; have := S9.out; have := S10.out; omega)))
  have D11 := Lib.hid (D10.out.grown hg D10.out.size (fun k hk => by have h1 := (Rx1.out k hk).1; have := S2.out; have := S3.out; have := S4.out; have := S5.out; have := S6.out; have := S7.out; have := S8.out; have := S9.out; have := S10.out; omega)); have S11 := Lib.hid hg.size
  replace Ox1 := Lib.hid ho
  clear ho hg
  clear Ox1 Rx1
  go_wp2_with fail
  refine (eqF_any _ _ rsG0 rsS0 _ (fown_FS OG0.out EG0.out.lt) (fown_FS OS0.out ES0.out.lt) (LG0.out.trans LS0.out.symm) (by rw [LG0.out]; exact hNb) (eqs_cn EG0.out ES0.out (LG0.out.trans LS0.out.symm))).mono ?_; rintro e w' ⟨rfl, m, rfl⟩
  have hb := below_drewN (Below.refl w11.heap.size w11) m
  generalize w11.drewN m = w12 at hb ⊢
  have D12 := Lib.hid (D11.out.trans (hb.mono D11.out.size)); have S12 := Lib.hid (hb.size)
  replace OS0 := Lib.hid (fown_below OS0.out hb)
  replace OG0 := Lib.hid (fown_below OG0.out hb)
  clear hb
  go_wp2_with fail
  refine (markG_at _ _ rsG0 (0) _ _ OG0.out (by rw [LG0.out]; omega) (by omega)).mono ?_; rintro e w13 ⟨rfl, ho, hg⟩
  replace OS0 := Lib.hid (fown_grown OS0.out hg (apart RS0.out RG0.out (by have := S2.out; have := S3.out; have := S4.out; have := S5.out; have := S6.out; have := S7.out; have := S8.out; have := S9.out; have := S10.out; have := S11.out; have := S12.out; omega)))
  have D13 := Lib.hid (D12.out.grown hg D12.out.size (fun k hk => by have h1 := (RG0.out k hk).1; have := S2.out; have := S3.out; have := S4.out; have := S5.out; have := S6.out; have := S7.out; have := S8.out; have := S9.out; have := S10.out; have := S11.out; have := S12.out; omega)); have S13 := Lib.hid hg.size
  rw [LG0.out] at ho ⊢
  replace OG0 := Lib.hid ho
  clear ho hg
  go_wp2_with fail
  refine (heldG_at _ (0) N _ _ (fown_FS OG0.out (marksG_lt _ _)) (by omega) (by omega)).mono ?_; rintro e w' ⟨rfl, m, rfl⟩
  have hb := below_drewN (Below.refl w13.heap.size w13) m
  generalize w13.drewN m = w14 at hb ⊢
  have D14 := Lib.hid (D13.out.trans (hb.mono D13.out.size)); have S14 := Lib.hid (hb.size)
  replace OS0 := Lib.hid (fown_below OS0.out hb)
  replace OG0 := Lib.hid (fown_below OG0.out hb)
  clear hb
  have hc0 := (GP.below HG.out D14.out).cells.1; have hc1 := (GP.below HG.out D14.out).cells.2
  go_wp2_with fail
  clear hc0 hc1
  refine (toGrid_any a0 b0 _).mono ?_; rintro e w15 ⟨rfl, hb⟩
  have D15 := Lib.hid (D14.out.trans (hb.mono D14.out.size)); have S15 := Lib.hid (hb.size)
  replace OS0 := Lib.hid (fown_below OS0.out hb)
  replace OG0 := Lib.hid (fown_below OG0.out hb)
  clear hb
  go_wp2_with fail
  refine (toF_any _ z1 _ (HU1.out.below D15.out) hn1).mono ?_; rintro e w16 ⟨⟨gh1, rfl, ho⟩, hb⟩
  have D16 := Lib.hid (D15.out.trans (hb.mono D15.out.size)); have S16 := Lib.hid (hb.size)
  replace OS0 := Lib.hid (fown_below OS0.out hb)
  replace OG0 := Lib.hid (fown_below OG0.out hb)
  clear hb
  have Oh1 := Lib.hid (show FOwn w15.heap.size w16 (.slice (some ⟨gh1, 0, none⟩) z1.length z1.length) z1 from ho)
  have Rh1 := Lib.hid Oh1.out.lt
  clear ho
  go_wp2_with fail
  refine (iMeanRow_any a0 b0 _ z1 _ (fown_FS Oh1.out HW1.out) hn1).mono ?_; rintro e w17 ⟨⟨vH, rfl, hr⟩, hb⟩
  have D17 := Lib.hid (D16.out.trans (hb.mono D16.out.size)); have S17 := Lib.hid (hb.size)
  replace OS0 := Lib.hid (fown_below OS0.out hb)
  replace OG0 := Lib.hid (fown_below OG0.out hb)
  replace Oh1 := Lib.hid (fown_below Oh1.out hb)
  clear hb
  rw [HN.out] at hr
  rw [HOK.out]
  obtain ⟨rsH0, hl, he, ho⟩ := hr
  have LH0 := Lib.hid hl; have EH0 := Lib.hid he; have OH0 := Lib.hid ho; have RH0 := Lib.hid ho.lt
  clear hl he ho
  clear Oh1 Rh1
  go_wp2_with fail
  refine (eqF_any _ _ rsH0 rsS0 _ (fown_FS OH0.out EH0.out.lt) (fown_FS OS0.out ES0.out.lt) (LH0.out.trans LS0.out.symm) (by rw [LH0.out]; exact hNb) (eqs_cn EH0.out ES0.out (LH0.out.trans LS0.out.symm))).mono ?_; rintro e w' ⟨rfl, m, rfl⟩
  have hb := below_drewN (Below.refl w17.heap.size w17) m
  generalize w17.drewN m = w18 at hb ⊢
  have D18 := Lib.hid (D17.out.trans (hb.mono D17.out.size)); have S18 := Lib.hid (hb.size)
  replace OS0 := Lib.hid (fown_below OS0.out hb)
  replace OG0 := Lib.hid (fown_below OG0.out hb)
  replace OH0 := Lib.hid (fown_below OH0.out hb)
  clear hb
  go_wp2_with fail
  refine (heldG_at _ (0) N _ _ (fown_FS OG0.out (marksG_lt _ _)) (by omega) (by omega)).mono ?_; rintro e w' ⟨rfl, m, rfl⟩
  have hb := below_drewN (Below.refl w18.heap.size w18) m
  generalize w18.drewN m = w19 at hb ⊢
  have D19 := Lib.hid (D18.out.trans (hb.mono D18.out.size)); have S19 := Lib.hid (hb.size)
  replace OS0 := Lib.hid (fown_below OS0.out hb)
  replace OG0 := Lib.hid (fown_below OG0.out hb)
  replace OH0 := Lib.hid (fown_below OH0.out hb)
  clear hb
  go_wp2_with fail
  go_ret
  exact ⟨rfl, HB.out.trans (D19.out.mono HB.out.size)⟩

/-! ### from the walk to the statement -/
theorem own : ownKnob Try.prog.godebug = none := by kernel_rfl
theorem laidOut : laidOutB Try.prog = true := by kernel_rfl
set_option maxRecDepth 100000 in
theorem lifted (os : Os) (started : os.Started) (H : Type) (enc : TypeId × Value → H) :
    ReturnsInHanded {} Try.checked os 4 .any (Rows.fnExactMeanRowSpec.pre6 enc Try.prog Try.f4 Rows.fnExactMeanRowRow.domain false) (Rows.fnExactMeanRowSpec.post enc Try.prog Try.f4 false true false false) := by
  refine returnsInHanded_of_change (C := Try.checked) own started (by kernel_rfl) Try.func4
    (ChangeSpec.witness6 (enc := enc) (C := Try.checked) false ⟨#[], #[.agg #[.int .i64 0, .int .i64 0], .slice none 0 0], []⟩ 8 (by kernel_rfl) (by kernel_rfl) (by kernel_rfl) (by kernel_rfl)) ?_
  intro W base args ds gs before hval0 hW hcnd _
  have hval : ∀ (j : Nat) t v, Try.f4.params[j]? = some t → args[j]? = some v → Value.okWide Try.prog W .any base t v := hval0
  have hW' := hW
  obtain ⟨p, q, hA0, hV, rfl, hfz, hnd⟩ := hW
  have hA : DataW.TrodAll enc Try.prog W 0 (fun _ => true) true Try.f4.params.toList args.toList ds p := hA0
  rw [Try.params4] at hA hval
  obtain ⟨v0, vs0, d0, ds0, p0, q0, hargs, rfl, rfl, h0, r0⟩ := trodAll_cons hA
  obtain ⟨v1, vs1, d1, ds1, p1, q1, rfl, rfl, rfl, h1, r1⟩ := trodAll_cons r0
  obtain ⟨rfl, rfl, rfl⟩ := trodAll_nil r1
  obtain rfl : args = #[v0, v1] := by cases args; simp_all
  obtain ⟨rfl, rfl⟩ := trodVars_none hV
  obtain ⟨a0, b0, rfl, rfl, rfl, w0, x0⟩ := open_pair Try.underlying23 Try.underlying2 (by kernel_rfl) (by kernel_rfl) (hval 0 23 v0 rfl rfl) h0
  obtain ⟨a1, len1, cap1, rfl⟩ := okWide_slice Try.underlying24 (hval 1 24 v1 rfl rfl)
  have k1 := h1
  have lt1 : ∀ x ∈ p1, x.block < W.heap.size := by obtain ⟨m, hm⟩ := k1; exact DataW.trod_lt m _ _ _ hm
  obtain ⟨z1, w1⟩ : ∃ zs, FS .f32 W (.slice a1 len1 cap1) zs := open_floats Try.underlying24 Try.underlying46 (by kernel_rfl) h1
  clear hA0 hval0
  refine (walk a0 b0 a1 len1 cap1 z1 W w0 x0 w1).mono fun e W' ⟨he, bel⟩ => ?_
  subst he
  exact ⟨_, rfl, _, _, _, [], _, [], hW', trodAll_mk1 (shut_bool Try.underlying4 _), (trodAll_cons_mk (shut_pair Try.underlying23 Try.underlying2 (by kernel_rfl) (by kernel_rfl) w0 x0) (trodAll_cons_mk (Below.trod laidOut (by kernel_rfl) (of_decide_eq_true (by kernel_rfl)) k1 bel lt1) trodAll_mk0)), rfl, bel.frame _, fun h => by cases h⟩

theorem over : Rows.fnExactMeanRowRow.holds Try.pinned (OpenSpec.ofChange Rows.fnExactMeanRowSpec) :=
  OpenClaim.holds_of_wide 4 Try.f4 rfl rfl rfl rfl rfl rfl rfl ⟨rfl, rfl, rfl, rfl, rfl⟩ rfl rfl rfl rfl rfl (by kernel_rfl) Try.func4 (by kernel_rfl)
    (of_decide_eq_true (by kernel_rfl)) (by unfold Func.isWrapper; first | (rw [if_pos (by decide +kernel)]; kernel_rfl) | (rw [if_neg (by decide +kernel)]; exact ⟨rfl, rfl⟩))
    (fun os started H enc _ => lifted os started H enc)

/-- The statement. -/
theorem proved : Rows.FnExactMeanRowSaid := over
#print axioms proved
end Go.Proofs.Ytlfnbnhbobohlaa.fnExactMeanRow
