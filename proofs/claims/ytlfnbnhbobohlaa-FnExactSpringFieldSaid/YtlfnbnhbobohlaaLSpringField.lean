/- FnExactSpringField: for all arguments the law returns true: SpringField answers as its model does, in all results, its arguments read as before, and its results are memory of their own, apart from each other. No condition. -/
import Derived.Test.YtlfnbnhbobohlaaRows
import Derived.WalkKit
import Derived.ProofKit
import Derived.OpenShut
import Derived.ShutString
import Derived.ChangeOld
import Derived.Below
import Derived.Laws.Cover2
import Derived.Test.YtlfnbnhbobohlaaSprS
import Derived.Test.YtlfnbnhbobohlaaMarkG
import Derived.Test.YtlfnbnhbobohlaaOwn
namespace Go.Proofs.Ytlfnbnhbobohlaa.fnExactSpringField
open Go.ChangeShapes Go.WideShapes Go.ChangeAt Go.RowKit Go.Fl
open Go.ChangeMaps (open_string shut_string)
set_option linter.unusedVariables false

set_option maxHeartbeats 4000000 in
set_option maxRecDepth 100000 in
theorem walk (a0 b0 : Int) (a1 : Nat) (w : World) (w0 : (Lit.int .i64 a0).wf = true) (x0 : (Lit.int .i64 b0).wf = true) (w1 : (Lit.float .f32 a1).wf = true) :
    Calls Try.prog 13 #[GV a0 b0, .float .f32 a1] w fun e w' => e = .returned (.bool true) ∧ Below w.heap.size w w' := by
  clear w0 x0
  have HI1 := Lib.hid (Is.of_lt (wf_lt w1))
  clear w1
  have hNb := lenSpringField_le a0 b0 (cn .f32 a1) 
  obtain ⟨ok, hok⟩ : ∃ ok, okSpringField a0 b0 (cn .f32 a1) = ok := ⟨_, rfl⟩
  have HOK := Lib.hid hok
  obtain ⟨N, hN⟩ : ∃ N, lenSpringField a0 b0 (cn .f32 a1) = N := ⟨_, rfl⟩
  rw [hN] at hNb
  have HN := Lib.hid hN
  clear hok hN
  go_enter Try.func13, Try.ntmps13
  have hb0 := (Below.refl w.heap.size w).alloc (Nat.le_refl _) (.cells #[.int .i64 a0, .int .i64 b0] 23)
  have hp := gp_new w a0 b0 23
  have hc0 := hp.cells.1; have hc1 := hp.cells.2
  have HG := Lib.hid hp; clear hp
  go_wp2_with fail
  clear  hc0 hc1
  generalize w.alloc (.cells #[.int .i64 a0, .int .i64 b0] 23) = w1 at hb0 HG ⊢
  have HB := Lib.hid hb0
  clear hb0 
  have D1 := Lib.hid (Below.refl w1.heap.size w1)
  refine (toGrid_any a0 b0 _).mono ?_; rintro e w2 ⟨rfl, hb⟩
  have D2 := Lib.hid (D1.out.trans (hb.mono D1.out.size)); have S2 := Lib.hid (hb.size)
  clear hb
  go_wp2_with fail
  refine (sSpringField_any a0 b0 a1 _ _ HI1.out).mono ?_; rintro e w3 ⟨⟨uS, vS, rfl, hr, hr2, ha1, ha2⟩, hb⟩
  have D3 := Lib.hid (D2.out.trans (hb.mono D2.out.size)); have S3 := Lib.hid (hb.size)
  clear hb
  rw [HN.out] at hr hr2
  rw [HOK.out]
  obtain ⟨rsS0, hl, he, ho⟩ := hr
  obtain ⟨rsS1, hl2, he2, ho2⟩ := hr2
  have LS0 := Lib.hid hl; have ES0 := Lib.hid he; have OS0 := Lib.hid ho
  have RS0 := Lib.hid ho.lt; have AS1 := Lib.hid ha1; have AS0 := Lib.hid ha2
  have LS1 := Lib.hid hl2; have ES1 := Lib.hid he2; have OS1 := Lib.hid ho2; have RS1 := Lib.hid ho2.lt
  clear hl he ho hl2 he2 ho2 ha1 ha2
  have hc0 := (GP.below HG.out D3.out).cells.1; have hc1 := (GP.below HG.out D3.out).cells.2
  go_wp2_with fail
  clear hc0 hc1
  refine (toGrid_any a0 b0 _).mono ?_; rintro e w4 ⟨rfl, hb⟩
  have D4 := Lib.hid (D3.out.trans (hb.mono D3.out.size)); have S4 := Lib.hid (hb.size)
  replace OS0 := Lib.hid (fown_below OS0.out hb)
  replace OS1 := Lib.hid (fown_below OS1.out hb)
  clear hb
  go_wp2_with fail
  refine (iSpringField_any a0 b0 a1 _ _ HI1.out).mono ?_; rintro e w5 ⟨⟨uG, vG, rfl, hr, hr2, ha1, ha2⟩, hb⟩
  have D5 := Lib.hid (D4.out.trans (hb.mono D4.out.size)); have S5 := Lib.hid (hb.size)
  replace OS0 := Lib.hid (fown_below OS0.out hb)
  replace OS1 := Lib.hid (fown_below OS1.out hb)
  clear hb
  rw [HN.out] at hr hr2
  rw [HOK.out]
  obtain ⟨rsG0, hl, he, ho⟩ := hr
  obtain ⟨rsG1, hl2, he2, ho2⟩ := hr2
  have LG0 := Lib.hid hl; have EG0 := Lib.hid he; have OG0 := Lib.hid ho
  have RG0 := Lib.hid ho.lt; have AG1 := Lib.hid ha1; have AG0 := Lib.hid ha2
  have LG1 := Lib.hid hl2; have EG1 := Lib.hid he2; have OG1 := Lib.hid ho2; have RG1 := Lib.hid ho2.lt
  clear hl he ho hl2 he2 ho2 ha1 ha2
  go_wp2_with fail
  refine (eqF_any _ _ rsG0 rsS0 _ (fown_FS OG0.out EG0.out.lt) (fown_FS OS0.out ES0.out.lt) (LG0.out.trans LS0.out.symm) (by rw [LG0.out]; exact hNb) (eqs_cn EG0.out ES0.out (LG0.out.trans LS0.out.symm))).mono ?_; rintro e w' ⟨rfl, m, rfl⟩
  have hb := below_drewN (Below.refl w5.heap.size w5) m
  generalize w5.drewN m = w6 at hb ⊢
  have D6 := Lib.hid (D5.out.trans (hb.mono D5.out.size)); have S6 := Lib.hid (hb.size)
  replace OS0 := Lib.hid (fown_below OS0.out hb)
  replace OS1 := Lib.hid (fown_below OS1.out hb)
  replace OG0 := Lib.hid (fown_below OG0.out hb)
  replace OG1 := Lib.hid (fown_below OG1.out hb)
  clear hb
  go_wp2_with fail
  refine (eqF_any _ _ rsG1 rsS1 _ (fown_FS OG1.out EG1.out.lt) (fown_FS OS1.out ES1.out.lt) (LG1.out.trans LS1.out.symm) (by rw [LG1.out]; exact hNb) (eqs_cn EG1.out ES1.out (LG1.out.trans LS1.out.symm))).mono ?_; rintro e w' ⟨rfl, m, rfl⟩
  have hb := below_drewN (Below.refl w6.heap.size w6) m
  generalize w6.drewN m = w7 at hb ⊢
  have D7 := Lib.hid (D6.out.trans (hb.mono D6.out.size)); have S7 := Lib.hid (hb.size)
  replace OS0 := Lib.hid (fown_below OS0.out hb)
  replace OS1 := Lib.hid (fown_below OS1.out hb)
  replace OG0 := Lib.hid (fown_below OG0.out hb)
  replace OG1 := Lib.hid (fown_below OG1.out hb)
  clear hb
  go_wp2_with fail
  refine (markG_at _ _ rsG0 (0) _ _ OG0.out (by rw [LG0.out]; omega) (by omega)).mono ?_; rintro e w8 ⟨rfl, ho, hg⟩
  replace OS0 := Lib.hid (fown_grown OS0.out hg (apart RS0.out RG0.out (by have := S2.out; have := S3.out; have := S4.out; have := S5.out; have := S6.out; have := S7.out; omega)))
  replace OS1 := Lib.hid (fown_grown OS1.out hg (apart RS1.out RG0.out (by have := S2.out; have := S3.out; have := S4.out; have := S5.out; have := S6.out; have := S7.out; omega)))
  replace OG1 := Lib.hid (fown_grown OG1.out hg AG1.out)
  have D8 := Lib.hid (D7.out.grown hg D7.out.size (fun k hk => by have h1 := (RG0.out k hk).1; have := S2.out; have := S3.out; have := S4.out; have := S5.out; have := S6.out; have := S7.out; omega)); have S8 := Lib.hid hg.size
  rw [LG0.out] at ho ⊢
  replace OG0 := Lib.hid ho
  clear ho hg
  go_wp2_with fail
  refine (markG_at _ _ rsG1 (0 + N) _ _ OG1.out (by rw [LG1.out]; omega) (by omega)).mono ?_; rintro e w9 ⟨rfl, ho, hg⟩
  replace OS0 := Lib.hid (fown_grown OS0.out hg (apart RS0.out RG1.out (by have := S2.out; have := S3.out; have := S4.out; have := S5.out; have := S6.out; have := S7.out; have := S8.out; omega)))
  replace OS1 := Lib.hid (fown_grown OS1.out hg (apart RS1.out RG1.out (by have := S2.out; have := S3.out; have := S4.out; have := S5.out; have := S6.out; have := S7.out; have := S8.out; omega)))
  replace OG0 := Lib.hid (fown_grown OG0.out hg AG0.out)
  have D9 := Lib.hid (D8.out.grown hg D8.out.size (fun k hk => by have h1 := (RG1.out k hk).1; have := S2.out; have := S3.out; have := S4.out; have := S5.out; have := S6.out; have := S7.out; have := S8.out; omega)); have S9 := Lib.hid hg.size
  rw [LG1.out] at ho ⊢
  replace OG1 := Lib.hid ho
  clear ho hg
  go_wp2_with fail
  refine (heldG_at _ (0) N _ _ (fown_FS OG0.out (marksG_lt _ _)) (by omega) (by omega)).mono ?_; rintro e w' ⟨rfl, m, rfl⟩
  have hb := below_drewN (Below.refl w9.heap.size w9) m
  generalize w9.drewN m = w10 at hb ⊢
  have D10 := Lib.hid (D9.out.trans (hb.mono D9.out.size)); have S10 := Lib.hid (hb.size)
  replace OS0 := Lib.hid (fown_below OS0.out hb)
  replace OS1 := Lib.hid (fown_below OS1.out hb)
  replace OG0 := Lib.hid (fown_below OG0.out hb)
  replace OG1 := Lib.hid (fown_below OG1.out hb)
  clear hb
  go_wp2_with fail
  refine (heldG_at _ (0 + N) N _ _ (fown_FS OG1.out (marksG_lt _ _)) (by omega) (by omega)).mono ?_; rintro e w' ⟨rfl, m, rfl⟩
  have hb := below_drewN (Below.refl w10.heap.size w10) m
  generalize w10.drewN m = w11 at hb ⊢
  have D11 := Lib.hid (D10.out.trans (hb.mono D10.out.size)); have S11 := Lib.hid (hb.size)
  replace OS0 := Lib.hid (fown_below OS0.out hb)
  replace OS1 := Lib.hid (fown_below OS1.out hb)
  replace OG0 := Lib.hid (fown_below OG0.out hb)
  replace OG1 := Lib.hid (fown_below OG1.out hb)
  clear hb
  have hc0 := (GP.below HG.out D11.out).cells.1; have hc1 := (GP.below HG.out D11.out).cells.2
  go_wp2_with fail
  clear hc0 hc1
  refine (toGrid_any a0 b0 _).mono ?_; rintro e w12 ⟨rfl, hb⟩
  have D12 := Lib.hid (D11.out.trans (hb.mono D11.out.size)); have S12 := Lib.hid (hb.size)
  replace OS0 := Lib.hid (fown_below OS0.out hb)
  replace OS1 := Lib.hid (fown_below OS1.out hb)
  replace OG0 := Lib.hid (fown_below OG0.out hb)
  replace OG1 := Lib.hid (fown_below OG1.out hb)
  clear hb
  go_wp2_with fail
  refine (iSpringField_any a0 b0 a1 _ _ HI1.out).mono ?_; rintro e w13 ⟨⟨uH, vH, rfl, hr, hr2, ha1, ha2⟩, hb⟩
  have D13 := Lib.hid (D12.out.trans (hb.mono D12.out.size)); have S13 := Lib.hid (hb.size)
  replace OS0 := Lib.hid (fown_below OS0.out hb)
  replace OS1 := Lib.hid (fown_below OS1.out hb)
  replace OG0 := Lib.hid (fown_below OG0.out hb)
  replace OG1 := Lib.hid (fown_below OG1.out hb)
  clear hb
  rw [HN.out] at hr hr2
  rw [HOK.out]
  obtain ⟨rsH0, hl, he, ho⟩ := hr
  obtain ⟨rsH1, hl2, he2, ho2⟩ := hr2
  have LH0 := Lib.hid hl; have EH0 := Lib.hid he; have OH0 := Lib.hid ho
  have RH0 := Lib.hid ho.lt; have AH1 := Lib.hid ha1; have AH0 := Lib.hid ha2
  have LH1 := Lib.hid hl2; have EH1 := Lib.hid he2; have OH1 := Lib.hid ho2; have RH1 := Lib.hid ho2.lt
  clear hl he ho hl2 he2 ho2 ha1 ha2
  go_wp2_with fail
  refine (eqF_any _ _ rsH0 rsS0 _ (fown_FS OH0.out EH0.out.lt) (fown_FS OS0.out ES0.out.lt) (LH0.out.trans LS0.out.symm) (by rw [LH0.out]; exact hNb) (eqs_cn EH0.out ES0.out (LH0.out.trans LS0.out.symm))).mono ?_; rintro e w' ⟨rfl, m, rfl⟩
  have hb := below_drewN (Below.refl w13.heap.size w13) m
  generalize w13.drewN m = w14 at hb ⊢
  have D14 := Lib.hid (D13.out.trans (hb.mono D13.out.size)); have S14 := Lib.hid (hb.size)
  replace OS0 := Lib.hid (fown_below OS0.out hb)
  replace OS1 := Lib.hid (fown_below OS1.out hb)
  replace OG0 := Lib.hid (fown_below OG0.out hb)
  replace OG1 := Lib.hid (fown_below OG1.out hb)
  replace OH0 := Lib.hid (fown_below OH0.out hb)
  replace OH1 := Lib.hid (fown_below OH1.out hb)
  clear hb
  go_wp2_with fail
  refine (eqF_any _ _ rsH1 rsS1 _ (fown_FS OH1.out EH1.out.lt) (fown_FS OS1.out ES1.out.lt) (LH1.out.trans LS1.out.symm) (by rw [LH1.out]; exact hNb) (eqs_cn EH1.out ES1.out (LH1.out.trans LS1.out.symm))).mono ?_; rintro e w' ⟨rfl, m, rfl⟩
  have hb := below_drewN (Below.refl w14.heap.size w14) m
  generalize w14.drewN m = w15 at hb ⊢
  have D15 := Lib.hid (D14.out.trans (hb.mono D14.out.size)); have S15 := Lib.hid (hb.size)
  replace OS0 := Lib.hid (fown_below OS0.out hb)
  replace OS1 := Lib.hid (fown_below OS1.out hb)
  replace OG0 := Lib.hid (fown_below OG0.out hb)
  replace OG1 := Lib.hid (fown_below OG1.out hb)
  replace OH0 := Lib.hid (fown_below OH0.out hb)
  replace OH1 := Lib.hid (fown_below OH1.out hb)
  clear hb
  go_wp2_with fail
  refine (heldG_at _ (0) N _ _ (fown_FS OG0.out (marksG_lt _ _)) (by omega) (by omega)).mono ?_; rintro e w' ⟨rfl, m, rfl⟩
  have hb := below_drewN (Below.refl w15.heap.size w15) m
  generalize w15.drewN m = w16 at hb ⊢
  have D16 := Lib.hid (D15.out.trans (hb.mono D15.out.size)); have S16 := Lib.hid (hb.size)
  replace OS0 := Lib.hid (fown_below OS0.out hb)
  replace OS1 := Lib.hid (fown_below OS1.out hb)
  replace OG0 := Lib.hid (fown_below OG0.out hb)
  replace OG1 := Lib.hid (fown_below OG1.out hb)
  replace OH0 := Lib.hid (fown_below OH0.out hb)
  replace OH1 := Lib.hid (fown_below OH1.out hb)
  clear hb
  go_wp2_with fail
  refine (heldG_at _ (0 + N) N _ _ (fown_FS OG1.out (marksG_lt _ _)) (by omega) (by omega)).mono ?_; rintro e w' ⟨rfl, m, rfl⟩
  have hb := below_drewN (Below.refl w16.heap.size w16) m
  generalize w16.drewN m = w17 at hb ⊢
  have D17 := Lib.hid (D16.out.trans (hb.mono D16.out.size)); have S17 := Lib.hid (hb.size)
  replace OS0 := Lib.hid (fown_below OS0.out hb)
  replace OS1 := Lib.hid (fown_below OS1.out hb)
  replace OG0 := Lib.hid (fown_below OG0.out hb)
  replace OG1 := Lib.hid (fown_below OG1.out hb)
  replace OH0 := Lib.hid (fown_below OH0.out hb)
  replace OH1 := Lib.hid (fown_below OH1.out hb)
  clear hb
  go_wp2_with fail
  go_ret
  exact ⟨rfl, HB.out.trans (D17.out.mono HB.out.size)⟩

/-! ### from the walk to the statement -/
theorem own : ownKnob Try.prog.godebug = none := by kernel_rfl
theorem laidOut : laidOutB Try.prog = true := by kernel_rfl
set_option maxRecDepth 100000 in
theorem lifted (os : Os) (started : os.Started) (H : Type) (enc : TypeId × Value → H) :
    ReturnsInHanded {} Try.checked os 13 .any (Rows.fnExactSpringFieldSpec.pre6 enc Try.prog Try.f13 Rows.fnExactSpringFieldRow.domain false) (Rows.fnExactSpringFieldSpec.post enc Try.prog Try.f13 false true false false) := by
  refine returnsInHanded_of_change (C := Try.checked) own started (by kernel_rfl) Try.func13
    (ChangeSpec.witness6 (enc := enc) (C := Try.checked) false ⟨#[], #[.agg #[.int .i64 0, .int .i64 0], .float .f32 0], []⟩ 8 (by kernel_rfl) (by kernel_rfl) (by kernel_rfl) (by kernel_rfl)) ?_
  intro W base args ds gs before hval0 hW hcnd _
  have hval : ∀ (j : Nat) t v, Try.f13.params[j]? = some t → args[j]? = some v → Value.okWide Try.prog W .any base t v := hval0
  have hW' := hW
  obtain ⟨p, q, hA0, hV, rfl, hfz, hnd⟩ := hW
  have hA : DataW.TrodAll enc Try.prog W 0 (fun _ => true) true Try.f13.params.toList args.toList ds p := hA0
  rw [Try.params13] at hA hval
  obtain ⟨v0, vs0, d0, ds0, p0, q0, hargs, rfl, rfl, h0, r0⟩ := trodAll_cons hA
  obtain ⟨v1, vs1, d1, ds1, p1, q1, rfl, rfl, rfl, h1, r1⟩ := trodAll_cons r0
  obtain ⟨rfl, rfl, rfl⟩ := trodAll_nil r1
  obtain rfl : args = #[v0, v1] := by cases args; simp_all
  obtain ⟨rfl, rfl⟩ := trodVars_none hV
  obtain ⟨a0, b0, rfl, rfl, rfl, w0, x0⟩ := open_pair Try.underlying23 Try.underlying2 (by kernel_rfl) (by kernel_rfl) (hval 0 23 v0 rfl rfl) h0
  obtain ⟨a1, rfl, rfl, rfl, w1⟩ := open_float Try.underlying46 (hval 1 46 v1 rfl rfl) h1
  clear hA0 hval0
  refine (walk a0 b0 a1 W w0 x0 w1).mono fun e W' ⟨he, bel⟩ => ?_
  subst he
  exact ⟨_, rfl, _, _, _, [], _, [], hW', trodAll_mk1 (shut_bool Try.underlying4 _), (trodAll_cons_mk (shut_pair Try.underlying23 Try.underlying2 (by kernel_rfl) (by kernel_rfl) w0 x0) (trodAll_cons_mk (shut_float Try.underlying46 w1) trodAll_mk0)), rfl, bel.frame _, fun h => by cases h⟩

theorem over : Rows.fnExactSpringFieldRow.holds Try.pinned (OpenSpec.ofChange Rows.fnExactSpringFieldSpec) :=
  OpenClaim.holds_of_wide 13 Try.f13 rfl rfl rfl rfl rfl rfl rfl ⟨rfl, rfl, rfl, rfl, rfl⟩ rfl rfl rfl rfl rfl (by kernel_rfl) Try.func13 (by kernel_rfl)
    (of_decide_eq_true (by kernel_rfl)) (by unfold Func.isWrapper; first | (rw [if_pos (by decide +kernel)]; kernel_rfl) | (rw [if_neg (by decide +kernel)]; exact ⟨rfl, rfl⟩))
    (fun os started H enc _ => lifted os started H enc)

/-- The statement. -/
theorem proved : Rows.FnExactSpringFieldSaid := over
#print axioms proved
end Go.Proofs.Ytlfnbnhbobohlaa.fnExactSpringField
