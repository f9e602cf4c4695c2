/- FnExactDotNumbers: for every two lists of 32-bit numbers the law returns true: DotNumbers answers as its model does, in both results, and its arguments read as before. No condition. -/
import Derived.Test.YtnipdbphfnppeabRows
import Derived.WalkKit
import Derived.ProofKit
import Derived.OpenShut
import Derived.ShutString
import Derived.ChangeOld
import Derived.Below
import Derived.Laws.Cover2
import Derived.Test.YtnipdbphfnppeabDot
namespace Go.Proofs.Ytnipdbphfnppeab.fnExactDotNumbers
open Go.ChangeShapes Go.WideShapes Go.ChangeAt Go.RowKit Go.Fl
open Go.ChangeMaps (open_string shut_string)
set_option linter.unusedVariables false

theorem walk (a0 : Option Addr) (len0 cap0 : Nat) (z0 : List Nat) (a1 : Option Addr) (len1 cap1 : Nat) (z1 : List Nat) (w : World) (w0 : FS .f32 w (.slice a0 len0 cap0) z0) (w1 : FS .f32 w (.slice a1 len1 cap1) z1) :
    Calls Try.prog 5 #[.slice a0 len0 cap0, .slice a1 len1 cap1] w fun e w' => e = .returned (.bool true) ∧ Below w.heap.size w w' := by
  have hu := w0
  have hv := w1
  obtain ⟨a, cap, hs, hlc, hcm, hwf, hmem⟩ := w0
  simp only [Value.slice.injEq] at hs
  obtain ⟨rfl, rfl, rfl⟩ := hs
  obtain ⟨a, cap, hs, hlc', hcm', hwf', hmem'⟩ := w1
  simp only [Value.slice.injEq] at hs
  obtain ⟨rfl, rfl, rfl⟩ := hs
  have W0 := Lib.hid hwf
  have W1 := Lib.hid hwf'
  clear hmem hlc hwf hmem' hlc' hwf'
  unfold maxLen at hcm hcm'
  by_cases hlen : 1048576 < z0.length
  · have hd : decide ((1048576 : Int) < (z0.length : Int)) = true := by simp; omega
    go_enter Try.func5, Try.ntmps5
    go_wp2_with fail
    go_ret
    exact ⟨rfl, Below.refl _ _⟩
  · have hd : decide ((1048576 : Int) < (z0.length : Int)) = false := by simp; omega
    have hn : z0.length ≤ 1048576 := by omega
    clear hlen
    by_cases hlen : 1048576 < z1.length
    · have hd : decide ((1048576 : Int) < (z1.length : Int)) = true := by simp; omega
      go_enter Try.func5, Try.ntmps5
      go_wp2_with fail
      go_ret
      exact ⟨rfl, Below.refl _ _⟩
    have hd1 : decide ((1048576 : Int) < (z1.length : Int)) = false := by simp; omega
    have hn1 : z1.length ≤ 1048576 := by omega
    clear hlen
    by_cases hq : z0.length = z1.length ∧ z0.length ≤ 256
    · have HQ := Lib.hid hq
      clear hq
      go_enter Try.func5, Try.ntmps5
      go_wp2_with fail
      refine (toF_any _ _ _ hu hn).mono ?_; rintro e x1 ⟨⟨g1, rfl, ho1⟩, hb1⟩
      have hf1 := own_FS ho1 W0.out
      go_wp2_with fail
      refine (toF_any _ _ _ (hv.below hb1) hn1).mono ?_; rintro e x2 ⟨⟨g2, rfl, ho2⟩, hb2⟩
      have hf2 := own_FS ho2 W1.out
      have hc2 := hb1.trans (hb2.mono hb1.size)
      go_wp2_with fail
      refine (sDotNumbers_yes _ _ _ _ _ (hf1.below hb2) hf2 HQ.out.1 HQ.out.2).mono ?_; rintro e w' ⟨⟨r1, rfl, hr1⟩, n1, rfl⟩
      go_wp2_with fail
      refine (toF_any _ _ _ ((hu.below hc2).drewN _) hn).mono ?_; rintro e x3 ⟨⟨g3, rfl, ho3⟩, hb3⟩
      have hf3 := own_FS ho3 W0.out
      have hc3 := (below_drewN hc2 n1).trans (hb3.mono hc2.size)
      go_wp2_with fail
      refine (toF_any _ _ _ (hv.below hc3) hn1).mono ?_; rintro e x4 ⟨⟨g4, rfl, ho4⟩, hb4⟩
      have hf4 := own_FS ho4 W1.out
      have hc4 := hc3.trans (hb4.mono hc3.size)
      have hf3' := hf3.below hb4
      go_wp2_with fail
      refine (iDotNumbers_yes _ _ _ _ _ hf3' hf4 HQ.out.1 HQ.out.2).mono ?_; rintro e w' ⟨⟨r2, rfl, hr2⟩, n2, rfl⟩
      go_wp2_with (first | (apply wpList_wid; rfl; rfl; (first | with_reducible assumption | exact Is.const rfl); exact U32; exact U64; intro r n hr) | fail)
      refine (sameFloat_any _ _ _ (by assumption) (by assumption) _).mono ?_; rintro e w' ⟨rfl, n3, rfl⟩
      go_wp2_with fail
      refine (toF_any _ _ _ ((hu.below hc4).drewN _) hn).mono ?_; rintro e x5 ⟨⟨g5, rfl, ho5⟩, hb5⟩
      have hf5 := own_FS ho5 W0.out
      have hc5 := (below_drewN hc4 _).trans (hb5.mono hc4.size)
      go_wp2_with fail
      refine (eqF_any _ _ z0 z0 _ ((hf3'.drewN _).below hb5) hf5 rfl hn (fun _ _ => rfl)).mono ?_; rintro e w' ⟨rfl, n4, rfl⟩
      go_wp2_with fail
      refine (toF_any _ _ _ ((hv.below hc5).drewN _) hn1).mono ?_; rintro e x6 ⟨⟨g6, rfl, ho6⟩, hb6⟩
      have hf6 := own_FS ho6 W1.out
      have hc6 := (below_drewN hc5 n4).trans (hb6.mono hc5.size)
      go_wp2_with fail
      refine (eqF_any _ _ z1 z1 _ ((((hf4.drewN _).below hb5).drewN _).below hb6) hf6 rfl hn1 (fun _ _ => rfl)).mono ?_; rintro e w' ⟨rfl, n5, rfl⟩
      go_wp2_with fail
      go_ret
      exact ⟨rfl, below_drewN hc6 _⟩
    · have HQ := Lib.hid hq
      clear hq
      go_enter Try.func5, Try.ntmps5
      go_wp2_with fail
      refine (toF_any _ _ _ hu hn).mono ?_; rintro e x1 ⟨⟨g1, rfl, ho1⟩, hb1⟩
      have hf1 := own_FS ho1 W0.out
      go_wp2_with fail
      refine (toF_any _ _ _ (hv.below hb1) hn1).mono ?_; rintro e x2 ⟨⟨g2, rfl, ho2⟩, hb2⟩
      have hf2 := own_FS ho2 W1.out
      have hc2 := hb1.trans (hb2.mono hb1.size)
      go_wp2_with fail
      refine (sDotNumbers_no _ _ _ _ _ (hf1.below hb2) hf2 HQ.out hn).mono ?_; rintro e w' ⟨rfl, rfl⟩
      go_wp2_with fail
      refine (toF_any _ _ _ (hu.below hc2) hn).mono ?_; rintro e x3 ⟨⟨g3, rfl, ho3⟩, hb3⟩
      have hf3 := own_FS ho3 W0.out
      have hc3 := hc2.trans (hb3.mono hc2.size)
      go_wp2_with fail
      refine (toF_any _ _ _ (hv.below hc3) hn1).mono ?_; rintro e x4 ⟨⟨g4, rfl, ho4⟩, hb4⟩
      have hf4 := own_FS ho4 W1.out
      have hc4 := hc3.trans (hb4.mono hc3.size)
      have hf3' := hf3.below hb4
      go_wp2_with fail
      refine (iDotNumbers_no _ _ _ _ _ hf3' hf4 HQ.out).mono ?_; rintro e w' ⟨rfl, rfl⟩
      go_wp2_with (first | (apply wpList_wid; rfl; rfl; (first | with_reducible assumption | exact Is.const rfl); exact U32; exact U64; intro r n hr) | fail)
      refine (sameFloat_any _ _ _ (by assumption) (by assumption) _).mono ?_; rintro e w' ⟨rfl, n3, rfl⟩
      go_wp2_with fail
      refine (toF_any _ _ _ ((hu.below hc4).drewN _) hn).mono ?_; rintro e x5 ⟨⟨g5, rfl, ho5⟩, hb5⟩
      have hf5 := own_FS ho5 W0.out
      have hc5 := (below_drewN hc4 _).trans (hb5.mono hc4.size)
      go_wp2_with fail
      refine (eqF_any _ _ z0 z0 _ ((hf3'.drewN _).below hb5) hf5 rfl hn (fun _ _ => rfl)).mono ?_; rintro e w' ⟨rfl, n4, rfl⟩
      go_wp2_with fail
      refine (toF_any _ _ _ ((hv.below hc5).drewN _) hn1).mono ?_; rintro e x6 ⟨⟨g6, rfl, ho6⟩, hb6⟩
      have hf6 := own_FS ho6 W1.out
      have hc6 := (below_drewN hc5 n4).trans (hb6.mono hc5.size)
      go_wp2_with fail
      refine (eqF_any _ _ z1 z1 _ ((((hf4.drewN _).below hb5).drewN _).below hb6) hf6 rfl hn1 (fun _ _ => rfl)).mono ?_; rintro e w' ⟨rfl, n5, rfl⟩
      go_wp2_with fail
      go_ret
      exact ⟨rfl, below_drewN hc6 _⟩

/-! ### from the walk to the statement -/
theorem own : ownKnob Try.prog.godebug = none := by kernel_rfl
theorem laidOut : laidOutB Try.prog = true := by kernel_rfl
set_option maxRecDepth 100000 in
theorem lifted (os : Os) (started : os.Started) (H : Type) (enc : TypeId × Value → H) :
    ReturnsInHanded {} Try.checked os 5 .any (Rows.fnExactDotNumbersSpec.pre6 enc Try.prog Try.f5 Rows.fnExactDotNumbersRow.domain false) (Rows.fnExactDotNumbersSpec.post enc Try.prog Try.f5 false true false false) := by
  refine returnsInHanded_of_change (C := Try.checked) own started (by kernel_rfl) Try.func5
    (ChangeSpec.witness6 (enc := enc) (C := Try.checked) false ⟨#[], #[.slice none 0 0, .slice none 0 0], []⟩ 8 (by kernel_rfl) (by kernel_rfl) (by kernel_rfl) (by kernel_rfl)) ?_
  intro W base args ds gs before hval0 hW hcnd _
  have hval : ∀ (j : Nat) t v, Try.f5.params[j]? = some t → args[j]? = some v → Value.okWide Try.prog W .any base t v := hval0
  have hW' := hW
  obtain ⟨p, q, hA0, hV, rfl, hfz, hnd⟩ := hW
  have hA : DataW.TrodAll enc Try.prog W 0 (fun _ => true) true Try.f5.params.toList args.toList ds p := hA0
  rw [Try.params5] at hA hval
  obtain ⟨v0, vs0, d0, ds0, p0, q0, hargs, rfl, rfl, h0, r0⟩ := trodAll_cons hA
  obtain ⟨v1, vs1, d1, ds1, p1, q1, rfl, rfl, rfl, h1, r1⟩ := trodAll_cons r0
  obtain ⟨rfl, rfl, rfl⟩ := trodAll_nil r1
  obtain rfl : args = #[v0, v1] := by cases args; simp_all
  obtain ⟨rfl, rfl⟩ := trodVars_none hV
  obtain ⟨a0, len0, cap0, rfl⟩ := okWide_slice Try.underlying27 (hval 0 27 v0 rfl rfl)
  have k0 := h0
  have lt0 : ∀ x ∈ p0, x.block < W.heap.size := by obtain ⟨m, hm⟩ := k0; exact DataW.trod_lt m _ _ _ hm
  obtain ⟨z0, w0⟩ : ∃ zs, FS .f32 W (.slice a0 len0 cap0) zs := open_floats Try.underlying27 Try.underlying22 (by kernel_rfl) h0
  obtain ⟨a1, len1, cap1, rfl⟩ := okWide_slice Try.underlying27 (hval 1 27 v1 rfl rfl)
  have k1 := h1
  have lt1 : ∀ x ∈ p1, x.block < W.heap.size := by obtain ⟨m, hm⟩ := k1; exact DataW.trod_lt m _ _ _ hm
  obtain ⟨z1, w1⟩ : ∃ zs, FS .f32 W (.slice a1 len1 cap1) zs := open_floats Try.underlying27 Try.underlying22 (by kernel_rfl) h1
  clear hA0 hval0
  refine (walk a0 len0 cap0 z0 a1 len1 cap1 z1 W w0 w1).mono fun e W' ⟨he, bel⟩ => ?_
  subst he
  exact ⟨_, rfl, _, _, _, [], _, [], hW', trodAll_mk1 (shut_bool Try.underlying4 _), (trodAll_cons_mk (Below.trod laidOut (by kernel_rfl) (of_decide_eq_true (by kernel_rfl)) k0 bel lt0) (trodAll_cons_mk (Below.trod laidOut (by kernel_rfl) (of_decide_eq_true (by kernel_rfl)) k1 bel lt1) trodAll_mk0)), rfl, bel.frame _, fun h => by cases h⟩

theorem over : Rows.fnExactDotNumbersRow.holds Try.pinned (OpenSpec.ofChange Rows.fnExactDotNumbersSpec) :=
  OpenClaim.holds_of_wide 5 Try.f5 rfl rfl rfl rfl rfl rfl rfl ⟨rfl, rfl, rfl, rfl, rfl⟩ rfl rfl rfl rfl rfl (by kernel_rfl) Try.func5 (by kernel_rfl)
    (of_decide_eq_true (by kernel_rfl)) (by unfold Func.isWrapper; first | (rw [if_pos (by decide +kernel)]; kernel_rfl) | (rw [if_neg (by decide +kernel)]; exact ⟨rfl, rfl⟩))
    (fun os started H enc _ => lifted os started H enc)

/-- The statement. -/
theorem proved : Rows.FnExactDotNumbersSaid := over
#print axioms proved
end Go.Proofs.Ytnipdbphfnppeab.fnExactDotNumbers
