/- FnExactLaneSum: for every list of 32-bit numbers the law returns true: LaneSum answers as its model does, in both results, and its argument reads as before. No condition. -/
import Derived.Test.YtnknhfhllifnhaaRows
import Derived.WalkKit
import Derived.ProofKit
import Derived.OpenShut
import Derived.ShutString
import Derived.ChangeOld
import Derived.Below
import Derived.Laws.Cover2
import Derived.Test.YtnknhfhllifnhaaLan
namespace Go.Proofs.Ytnknhfhllifnhaa.fnExactLaneSum
open Go.ChangeShapes Go.WideShapes Go.ChangeAt Go.RowKit Go.Fl
open Go.ChangeMaps (open_string shut_string)
set_option linter.unusedVariables false

theorem walk (a0 : Option Addr) (len0 cap0 : Nat) (z0 : List Nat) (w : World) (w0 : FS .f32 w (.slice a0 len0 cap0) z0) :
    Calls Try.prog 8 #[.slice a0 len0 cap0] w fun e w' => e = .returned (.bool true) ∧ Below w.heap.size w w' := by
  have hv := w0
  obtain ⟨a, cap, hs, hlc, hcm, hwf, hmem⟩ := w0
  simp only [Value.slice.injEq] at hs
  obtain ⟨rfl, rfl, rfl⟩ := hs
  have W := Lib.hid hwf
  clear hmem hlc hwf
  unfold maxLen at hcm
  by_cases hlen : 1048576 < z0.length
  · have hd : decide ((1048576 : Int) < (z0.length : Int)) = true := by simp; omega
    go_enter Try.func8, Try.ntmps8
    go_wp2_with fail
    go_ret
    exact ⟨rfl, Below.refl _ _⟩
  · have hd : decide ((1048576 : Int) < (z0.length : Int)) = false := by simp; omega
    have hn : z0.length ≤ 1048576 := by omega
    clear hlen
    by_cases hq : z0.length ≤ 256
    · go_enter Try.func8, Try.ntmps8
      go_wp2_with fail
      refine (toF_any _ _ _ hv hn).mono ?_; rintro e w1 ⟨⟨g1, rfl, ho1⟩, hb1⟩
      have hf1 := own_FS ho1 W.out
      have D1 := Lib.hid hb1
      clear ho1 hb1
      go_wp2_with fail
      refine (sLaneSum_yes _ _ _ hf1 hq).mono ?_; rintro e w2 ⟨⟨r1, rfl, hr1⟩, hb2⟩
      have D2 := Lib.hid (D1.out.trans (hb2.mono D1.out.size))
      clear hf1 hb2
      go_wp2_with fail
      refine (toF_any _ _ _ (hv.below D2.out) hn).mono ?_; rintro e w3 ⟨⟨g2, rfl, ho2⟩, hb3⟩
      have hf2 := own_FS ho2 W.out
      have D3 := Lib.hid (D2.out.trans (hb3.mono D2.out.size))
      clear ho2 hb3
      go_wp2_with fail
      refine (iLaneSum_yes _ _ _ hf2 hq).mono ?_; rintro e w4 ⟨⟨r2, rfl, hr2⟩, hb4⟩
      have D4 := Lib.hid (D3.out.trans (hb4.mono D3.out.size))
      have HF := Lib.hid (hf2.below hb4)
      clear hf2 hb4
      go_wp2_with (first | (apply wpList_wid; rfl; rfl; (first | with_reducible assumption | exact Is.const rfl); exact U32; exact U64; intro r n hr) | fail)
      refine (sameFloat_any _ _ _ (by assumption) (by assumption) _).mono ?_; rintro e w' ⟨rfl, n3, rfl⟩
      go_wp2_with fail
      refine (toF_any _ _ _ (hv.below (below_drewN D4.out _)) hn).mono ?_; rintro e w5 ⟨⟨g3, rfl, ho3⟩, hb5⟩
      have hf3 := own_FS ho3 W.out
      go_wp2_with fail
      refine (eqF_any _ _ z0 z0 _ ((HF.out.drewN _).below hb5) hf3 rfl hn (fun _ _ => rfl)).mono ?_; rintro e w' ⟨rfl, n4, rfl⟩
      go_wp2_with fail
      go_ret
      exact ⟨rfl, below_drewN ((below_drewN D4.out _).trans (hb5.mono D4.out.size)) _⟩
    · go_enter Try.func8, Try.ntmps8
      go_wp2_with fail
      refine (toF_any _ _ _ hv hn).mono ?_; rintro e w1 ⟨⟨g1, rfl, ho1⟩, hb1⟩
      have hf1 := own_FS ho1 W.out
      have D1 := Lib.hid hb1
      clear ho1 hb1
      go_wp2_with fail
      refine (sLaneSum_no _ _ _ hf1 (by omega)).mono ?_; rintro e w2 ⟨rfl, rfl⟩
      have D2 := D1
      clear hf1
      go_wp2_with fail
      refine (toF_any _ _ _ (hv.below D2.out) hn).mono ?_; rintro e w3 ⟨⟨g2, rfl, ho2⟩, hb3⟩
      have hf2 := own_FS ho2 W.out
      have D3 := Lib.hid (D2.out.trans (hb3.mono D2.out.size))
      clear ho2 hb3
      go_wp2_with fail
      refine (iLaneSum_no _ _ _ hf2 (by omega)).mono ?_; rintro e w4 ⟨rfl, rfl⟩
      have D4 := D3
      have HF := Lib.hid hf2
      clear hf2
      go_wp2_with (first | (apply wpList_wid; rfl; rfl; (first | with_reducible assumption | exact Is.const rfl); exact U32; exact U64; intro r n hr) | fail)
      refine (sameFloat_any _ _ _ (by assumption) (by assumption) _).mono ?_; rintro e w' ⟨rfl, n3, rfl⟩
      go_wp2_with fail
      refine (toF_any _ _ _ (hv.below (below_drewN D4.out _)) hn).mono ?_; rintro e w5 ⟨⟨g3, rfl, ho3⟩, hb5⟩
      have hf3 := own_FS ho3 W.out
      go_wp2_with fail
      refine (eqF_any _ _ z0 z0 _ ((HF.out.drewN _).below hb5) hf3 rfl hn (fun _ _ => rfl)).mono ?_; rintro e w' ⟨rfl, n4, rfl⟩
      go_wp2_with fail
      go_ret
      exact ⟨rfl, below_drewN ((below_drewN D4.out _).trans (hb5.mono D4.out.size)) _⟩

/-! ### from the walk to the statement -/
theorem own : ownKnob Try.prog.godebug = none := by kernel_rfl
theorem laidOut : laidOutB Try.prog = true := by kernel_rfl
set_option maxRecDepth 100000 in
theorem lifted (os : Os) (started : os.Started) (H : Type) (enc : TypeId × Value → H) :
    ReturnsInHanded {} Try.checked os 8 .any (Rows.fnExactLaneSumSpec.pre6 enc Try.prog Try.f8 Rows.fnExactLaneSumRow.domain false) (Rows.fnExactLaneSumSpec.post enc Try.prog Try.f8 false true false false) := by
  refine returnsInHanded_of_change (C := Try.checked) own started (by kernel_rfl) Try.func8
    (ChangeSpec.witness6 (enc := enc) (C := Try.checked) false ⟨#[], #[.slice none 0 0], []⟩ 8 (by kernel_rfl) (by kernel_rfl) (by kernel_rfl) (by kernel_rfl)) ?_
  intro W base args ds gs before hval0 hW hcnd _
  have hval : ∀ (j : Nat) t v, Try.f8.params[j]? = some t → args[j]? = some v → Value.okWide Try.prog W .any base t v := hval0
  have hW' := hW
  obtain ⟨p, q, hA0, hV, rfl, hfz, hnd⟩ := hW
  have hA : DataW.TrodAll enc Try.prog W 0 (fun _ => true) true Try.f8.params.toList args.toList ds p := hA0
  rw [Try.params8] at hA hval
  obtain ⟨v0, vs0, d0, ds0, p0, q0, hargs, rfl, rfl, h0, r0⟩ := trodAll_cons hA
  obtain ⟨rfl, rfl, rfl⟩ := trodAll_nil r0
  obtain rfl : args = #[v0] := by cases args; simp_all
  obtain ⟨rfl, rfl⟩ := trodVars_none hV
  obtain ⟨a0, len0, cap0, rfl⟩ := okWide_slice Try.underlying29 (hval 0 29 v0 rfl rfl)
  have k0 := h0
  have lt0 : ∀ x ∈ p0, x.block < W.heap.size := by obtain ⟨m, hm⟩ := k0; exact DataW.trod_lt m _ _ _ hm
  obtain ⟨z0, w0⟩ : ∃ zs, FS .f32 W (.slice a0 len0 cap0) zs := open_floats Try.underlying29 Try.underlying32 (by kernel_rfl) h0
  clear hA0 hval0
  refine (walk a0 len0 cap0 z0 W w0).mono fun e W' ⟨he, bel⟩ => ?_
  subst he
  exact ⟨_, rfl, _, _, _, [], _, [], hW', trodAll_mk1 (shut_bool Try.underlying4 _), (trodAll_cons_mk (Below.trod laidOut (by kernel_rfl) (of_decide_eq_true (by kernel_rfl)) k0 bel lt0) trodAll_mk0), rfl, bel.frame _, fun h => by cases h⟩

theorem over : Rows.fnExactLaneSumRow.holds Try.pinned (OpenSpec.ofChange Rows.fnExactLaneSumSpec) :=
  OpenClaim.holds_of_wide 8 Try.f8 rfl rfl rfl rfl rfl rfl rfl ⟨rfl, rfl, rfl, rfl, rfl⟩ rfl rfl rfl rfl rfl (by kernel_rfl) Try.func8 (by kernel_rfl)
    (of_decide_eq_true (by kernel_rfl)) (by unfold Func.isWrapper; first | (rw [if_pos (by decide +kernel)]; kernel_rfl) | (rw [if_neg (by decide +kernel)]; exact ⟨rfl, rfl⟩))
    (fun os started H enc _ => lifted os started H enc)

/-- The statement. -/
theorem proved : Rows.FnExactLaneSumSaid := over
#print axioms proved
end Go.Proofs.Ytnknhfhllifnhaa.fnExactLaneSum
