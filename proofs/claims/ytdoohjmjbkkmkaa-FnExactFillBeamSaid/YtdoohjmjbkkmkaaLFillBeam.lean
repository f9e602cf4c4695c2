/- FnExactFillBeam: for all arguments the law returns true: FillBeam answers as its model does, in both results, and what it returns is memory of its own. No condition. -/
import Derived.Test.YtdoohjmjbkkmkaaRows
import Derived.WalkKit
import Derived.ProofKit
import Derived.OpenShut
import Derived.ShutString
import Derived.ChangeOld
import Derived.Below
import Derived.Laws.Cover2
import Derived.Test.YtdoohjmjbkkmkaaFil
namespace Go.Proofs.Ytdoohjmjbkkmkaa.fnExactFillBeam
open Go.ChangeShapes Go.WideShapes Go.ChangeAt Go.RowKit Go.Fl
open Go.ChangeMaps (open_string shut_string)
set_option linter.unusedVariables false

set_option maxHeartbeats 4000000 in
set_option maxRecDepth 100000 in
theorem walk (a0 : Int) (a1 a2 : Nat) (w : World) (w0 : (Lit.int .i64 a0).wf = true) (w1 : (Lit.float .f32 a1).wf = true) (w2 : (Lit.float .f32 a2).wf = true) :
    Calls Try.prog 11 #[.int .i64 a0, .float .f32 a1, .float .f32 a2] w fun e w' => e = .returned (.bool true) ∧ Below w.heap.size w w' := by
  have HI0 := Lib.hid (wf_i64 w0)
  have HI1 := Lib.hid (Is.of_lt (wf_lt w1)); have HI2 := Lib.hid (Is.of_lt (wf_lt w2))
  clear w0 w1 w2
  obtain ⟨ok, hok⟩ : ∃ ok, okFill a0 (cn .f32 a1) (cn .f32 a2) = ok := ⟨_, rfl⟩
  have HOK := Lib.hid hok; clear hok
  have hNb := lenFill_le a0 (cn .f32 a1) (cn .f32 a2)
  obtain ⟨N, hN⟩ : ∃ N, lenFill a0 (cn .f32 a1) (cn .f32 a2) = N := ⟨_, rfl⟩
  rw [hN] at hNb
  have HN := Lib.hid hN; clear hN
  go_enter Try.func11, Try.ntmps11
  go_wp2_with fail
  refine (sFillBeam_any a0 a1 _ a2 _ _ HI0.out HI1.out HI2.out).mono ?_; rintro e v1 ⟨⟨vS, rfl, hr⟩, hb⟩
  rw [HN.out] at hr; rw [HOK.out]
  obtain ⟨tS, hl, he, ho⟩ := hr
  have LS := Lib.hid hl; have ES := Lib.hid he; have OS := Lib.hid ho; have D1 := Lib.hid hb; have RS := Lib.hid (World.ownsRow.lt ho)
  clear hl he ho hb
  go_wp2_with fail
  refine (iFillBeam_any a0 a1 _ a2 _ _ HI0.out HI1.out HI2.out).mono ?_; rintro e v2 ⟨⟨vG, rfl, hr⟩, hb⟩
  rw [HN.out] at hr; rw [HOK.out]
  obtain ⟨tG, hl, he, ho⟩ := hr
  have LG := Lib.hid hl; have EG := Lib.hid he; have OG := Lib.hid ho; have RG := Lib.hid (World.ownsRow.lt ho)
  replace OS := Lib.hid (ry_below OS.out hb)
  have D2 := Lib.hid (D1.out.trans (hb.mono D1.out.size)); have S2 := Lib.hid hb.size
  clear hl he ho hb
  go_wp2_with fail
  refine (eqRyS_any _ _ _ _ tG tS _ _ OG.out OS.out (LG.out.trans LS.out.symm) EG.out ES.out (by rw [LG.out]; omega)).mono ?_; rintro e v3 ⟨rfl, hb⟩
  replace OS := Lib.hid (ry_below OS.out hb); replace OG := Lib.hid (ry_below OG.out hb)
  have D3 := Lib.hid (D2.out.trans (hb.mono D2.out.size)); have S3 := Lib.hid hb.size
  clear hb
  go_wp2_with fail
  refine (markRyS_any _ _ tG _ OG.out (by rw [LG.out]; exact hNb)).mono ?_; rintro e v4 ⟨rfl, ho, hg⟩
  rw [LG.out] at ho ⊢
  replace OS := Lib.hid (ry_grown OS.out hg (apart RS.out RG.out (by omega)))
  have D4 := Lib.hid (D3.out.grown hg D3.out.size (fun k hk => by have h1 := (RG.out k hk).1; have := D1.out.size; omega)); have S4 := Lib.hid hg.size
  replace OG := Lib.hid ho
  clear ho hg
  go_wp2_with fail
  refine (heldRyS_any _ _ N _ OG.out hNb).mono ?_; rintro e w' ⟨rfl, m, rfl⟩
  have hb := below_drewN (Below.refl v4.heap.size v4) m
  generalize v4.drewN m = v5 at hb ⊢
  replace OS := Lib.hid (ry_below OS.out hb); replace OG := Lib.hid (ry_below OG.out hb)
  have D5 := Lib.hid (D4.out.trans (hb.mono D4.out.size)); have S5 := Lib.hid hb.size
  have hge : decide (3 * (N : Int) + 1 < 0) = false := decide_eq_false (by omega)
  clear hb
  go_wp2_with fail
  refine (iFillBeam_any a0 a1 _ a2 _ _ HI0.out HI1.out HI2.out).mono ?_; rintro e v6 ⟨⟨vH, rfl, hr⟩, hb⟩
  rw [HN.out] at hr; rw [HOK.out]
  obtain ⟨tH, hl, he, ho⟩ := hr
  have LH := Lib.hid hl; have EH := Lib.hid he; have OH := Lib.hid ho
  replace OS := Lib.hid (ry_below OS.out hb); replace OG := Lib.hid (ry_below OG.out hb)
  have D6 := Lib.hid (D5.out.trans (hb.mono D5.out.size))
  clear hl he ho hb
  go_wp2_with fail
  refine (eqRyS_any _ _ _ _ tH tS _ _ OH.out OS.out (LH.out.trans LS.out.symm) EH.out ES.out (by rw [LH.out]; omega)).mono ?_; rintro e v7 ⟨rfl, hb⟩
  replace OG := Lib.hid (ry_below OG.out hb)
  have D7 := Lib.hid (D6.out.trans (hb.mono D6.out.size))
  clear hb
  go_wp2_with fail
  refine (heldRyS_any _ _ N _ OG.out hNb).mono ?_; rintro e w' ⟨rfl, m7, rfl⟩
  go_wp2_with fail
  go_ret
  exact ⟨rfl, below_drewN D7.out _⟩

/-! ### from the walk to the statement -/
theorem own : ownKnob Try.prog.godebug = none := by kernel_rfl
theorem laidOut : laidOutB Try.prog = true := by kernel_rfl
set_option maxRecDepth 100000 in
theorem lifted (os : Os) (started : os.Started) (H : Type) (enc : TypeId × Value → H) :
    ReturnsInHanded {} Try.checked os 11 .any (Rows.fnExactFillBeamSpec.pre6 enc Try.prog Try.f11 Rows.fnExactFillBeamRow.domain false) (Rows.fnExactFillBeamSpec.post enc Try.prog Try.f11 false true false false) := by
  refine returnsInHanded_of_change (C := Try.checked) own started (by kernel_rfl) Try.func11
    (ChangeSpec.witness6 (enc := enc) (C := Try.checked) false ⟨#[], #[.int .i64 0, .float .f32 0, .float .f32 0], []⟩ 8 (by kernel_rfl) (by kernel_rfl) (by kernel_rfl) (by kernel_rfl)) ?_
  intro W base args ds gs before hval0 hW hcnd _
  have hval : ∀ (j : Nat) t v, Try.f11.params[j]? = some t → args[j]? = some v → Value.okWide Try.prog W .any base t v := hval0
  have hW' := hW
  obtain ⟨p, q, hA0, hV, rfl, hfz, hnd⟩ := hW
  have hA : DataW.TrodAll enc Try.prog W 0 (fun _ => true) true Try.f11.params.toList args.toList ds p := hA0
  rw [Try.params11] at hA hval
  obtain ⟨v0, vs0, d0, ds0, p0, q0, hargs, rfl, rfl, h0, r0⟩ := trodAll_cons hA
  obtain ⟨v1, vs1, d1, ds1, p1, q1, rfl, rfl, rfl, h1, r1⟩ := trodAll_cons r0
  obtain ⟨v2, vs2, d2, ds2, p2, q2, rfl, rfl, rfl, h2, r2⟩ := trodAll_cons r1
  obtain ⟨rfl, rfl, rfl⟩ := trodAll_nil r2
  obtain rfl : args = #[v0, v1, v2] := by cases args; simp_all
  obtain ⟨rfl, rfl⟩ := trodVars_none hV
  obtain ⟨a0, rfl, rfl, rfl, w0⟩ := open_int Try.underlying2 (hval 0 2 v0 rfl rfl) h0
  obtain ⟨a1, rfl, rfl, rfl, w1⟩ := open_float Try.underlying23 (hval 1 23 v1 rfl rfl) h1
  obtain ⟨a2, rfl, rfl, rfl, w2⟩ := open_float Try.underlying23 (hval 2 23 v2 rfl rfl) h2
  clear hA0 hval0
  refine (walk a0 a1 a2 W w0 w1 w2).mono fun e W' ⟨he, bel⟩ => ?_
  subst he
  exact ⟨_, rfl, _, _, _, [], _, [], hW', trodAll_mk1 (shut_bool Try.underlying4 _), (trodAll_cons_mk (shut_int Try.underlying2 w0) (trodAll_cons_mk (shut_float Try.underlying23 w1) (trodAll_cons_mk (shut_float Try.underlying23 w2) trodAll_mk0))), rfl, bel.frame _, fun h => by cases h⟩

theorem over : Rows.fnExactFillBeamRow.holds Try.pinned (OpenSpec.ofChange Rows.fnExactFillBeamSpec) :=
  OpenClaim.holds_of_wide 11 Try.f11 rfl rfl rfl rfl rfl rfl rfl ⟨rfl, rfl, rfl, rfl, rfl⟩ rfl rfl rfl rfl rfl (by kernel_rfl) Try.func11 (by kernel_rfl)
    (of_decide_eq_true (by kernel_rfl)) (by unfold Func.isWrapper; first | (rw [if_pos (by decide +kernel)]; kernel_rfl) | (rw [if_neg (by decide +kernel)]; exact ⟨rfl, rfl⟩))
    (fun os started H enc _ => lifted os started H enc)

/-- The statement. -/
theorem proved : Rows.FnExactFillBeamSaid := over
#print axioms proved
end Go.Proofs.Ytdoohjmjbkkmkaa.fnExactFillBeam
