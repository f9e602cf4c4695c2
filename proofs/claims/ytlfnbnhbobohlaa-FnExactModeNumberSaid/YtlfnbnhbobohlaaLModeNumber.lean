/- FnExactModeNumber: for all arguments the law returns true: ModeNumber answers as its model does, in all results, its arguments read as before, and nothing else turns. No condition. -/
import Derived.Test.YtlfnbnhbobohlaaRows
import Derived.WalkKit
import Derived.ProofKit
import Derived.OpenShut
import Derived.ShutString
import Derived.ChangeOld
import Derived.Below
import Derived.Laws.Cover2
import Derived.Test.YtlfnbnhbobohlaaMdn
import Derived.Test.YtlfnbnhbobohlaaMarkG
import Derived.Test.YtlfnbnhbobohlaaOwn
namespace Go.Proofs.Ytlfnbnhbobohlaa.fnExactModeNumber
open Go.ChangeShapes Go.WideShapes Go.ChangeAt Go.RowKit Go.Fl
open Go.ChangeMaps (open_string shut_string)
set_option linter.unusedVariables false

set_option maxHeartbeats 4000000 in
set_option maxRecDepth 100000 in
theorem walk (a0 b0 : Int) (a1 : Int) (a2 : Int) (w : World) (w0 : (Lit.int .i64 a0).wf = true) (x0 : (Lit.int .i64 b0).wf = true) (w1 : (Lit.int .i64 a1).wf = true) (w2 : (Lit.int .i64 a2).wf = true) :
    Calls Try.prog 9 #[GV a0 b0, .int .i64 a1, .int .i64 a2] w fun e w' => e = .returned (.bool true) ∧ Below w.heap.size w w' := by
  clear w0 x0
  have HI1 := Lib.hid (wf_i64 w1)
  clear w1
  have HI2 := Lib.hid (wf_i64 w2)
  clear w2
  obtain ⟨ok, hok⟩ : ∃ ok, okModeNumber a0 b0 a1 a2 = ok := ⟨_, rfl⟩
  have HOK := Lib.hid hok
  clear hok
  go_enter Try.func9, Try.ntmps9
  have hb0 := (Below.refl w.heap.size w).alloc (Nat.le_refl _) (.cells #[.int .i64 a0, .int .i64 b0] 23)
  have hp := gp_new w a0 b0 23
  have hc0 := hp.cells.1; have hc1 := hp.cells.2
  have HG := Lib.hid hp; clear hp
  go_wp2_with fail
  clear  hc0 hc1
  generalize w.alloc (.cells #[.int .i64 a0, .int .i64 b0] 23) = w1 at hb0 HG ⊢
  have HB := Lib.hid hb0
  clear hb0 
  have D1 := Lib.hid (Below.refl w1.heap.size w1)
  refine (toGrid_any a0 b0 _).mono ?_; rintro e w2 ⟨rfl, hb⟩
  have D2 := Lib.hid (D1.out.trans (hb.mono D1.out.size)); have S2 := Lib.hid (hb.size)
  clear hb
  go_wp2_with fail
  refine (sModeNumber_any a0 b0 a1 a2 _ HI1.out HI2.out).mono ?_; rintro e w3 ⟨⟨rS, rfl, hr⟩, hb⟩
  have D3 := Lib.hid (D2.out.trans (hb.mono D2.out.size)); have S3 := Lib.hid (hb.size)
  clear hb
  rw [HOK.out]
  have IS := Lib.hid hr; clear hr
  have hc0 := (GP.below HG.out D3.out).cells.1; have hc1 := (GP.below HG.out D3.out).cells.2
  go_wp2_with fail
  clear hc0 hc1
  refine (toGrid_any a0 b0 _).mono ?_; rintro e w4 ⟨rfl, hb⟩
  have D4 := Lib.hid (D3.out.trans (hb.mono D3.out.size)); have S4 := Lib.hid (hb.size)
  clear hb
  go_wp2_with fail
  refine (iModeNumber_any a0 b0 a1 a2 _ HI1.out HI2.out).mono ?_; rintro e w5 ⟨⟨rG, rfl, hr⟩, hb⟩
  have D5 := Lib.hid (D4.out.trans (hb.mono D4.out.size)); have S5 := Lib.hid (hb.size)
  clear hb
  rw [HOK.out]
  have IG := Lib.hid hr; clear hr
  have i1 := IG.out; have i2 := IS.out
  go_wp2_with (first | (apply wpList_wid; rfl; rfl; (first | with_reducible assumption | exact Is.const rfl); exact U32; exact U64; intro r n hr) | fail)
  refine (sameFloat_any _ _ _ (by assumption) (by assumption) _).mono ?_; rintro e w6 ⟨rfl, hd⟩
  have hb : Below w5.heap.size w5 w6 := by obtain ⟨m, rfl⟩ := hd; first | exact below_drewN (below_drewN (below_drewN (Below.refl _ _) _) _) _ | exact below_drewN (below_drewN (Below.refl _ _) _) _
  clear i1 i2 hd
  have D6 := Lib.hid (D5.out.trans (hb.mono D5.out.size)); have S6 := Lib.hid (hb.size)
  clear hb
  go_wp2_with fail
  go_ret
  exact ⟨rfl, HB.out.trans (D6.out.mono HB.out.size)⟩

/-! ### from the walk to the statement -/
theorem own : ownKnob Try.prog.godebug = none := by kernel_rfl
theorem laidOut : laidOutB Try.prog = true := by kernel_rfl
set_option maxRecDepth 100000 in
theorem lifted (os : Os) (started : os.Started) (H : Type) (enc : TypeId × Value → H) :
    ReturnsInHanded {} Try.checked os 9 .any (Rows.fnExactModeNumberSpec.pre6 enc Try.prog Try.f9 Rows.fnExactModeNumberRow.domain false) (Rows.fnExactModeNumberSpec.post enc Try.prog Try.f9 false true false false) := by
  refine returnsInHanded_of_change (C := Try.checked) own started (by kernel_rfl) Try.func9
    (ChangeSpec.witness6 (enc := enc) (C := Try.checked) false ⟨#[], #[.agg #[.int .i64 0, .int .i64 0], .int .i64 0, .int .i64 0], []⟩ 8 (by kernel_rfl) (by kernel_rfl) (by kernel_rfl) (by kernel_rfl)) ?_
  intro W base args ds gs before hval0 hW hcnd _
  have hval : ∀ (j : Nat) t v, Try.f9.params[j]? = some t → args[j]? = some v → Value.okWide Try.prog W .any base t v := hval0
  have hW' := hW
  obtain ⟨p, q, hA0, hV, rfl, hfz, hnd⟩ := hW
  have hA : DataW.TrodAll enc Try.prog W 0 (fun _ => true) true Try.f9.params.toList args.toList ds p := hA0
  rw [Try.params9] at hA hval
  obtain ⟨v0, vs0, d0, ds0, p0, q0, hargs, rfl, rfl, h0, r0⟩ := trodAll_cons hA
  obtain ⟨v1, vs1, d1, ds1, p1, q1, rfl, rfl, rfl, h1, r1⟩ := trodAll_cons r0
  obtain ⟨v2, vs2, d2, ds2, p2, q2, rfl, rfl, rfl, h2, r2⟩ := trodAll_cons r1
  obtain ⟨rfl, rfl, rfl⟩ := trodAll_nil r2
  obtain rfl : args = #[v0, v1, v2] := by cases args; simp_all
  obtain ⟨rfl, rfl⟩ := trodVars_none hV
  obtain ⟨a0, b0, rfl, rfl, rfl, w0, x0⟩ := open_pair Try.underlying23 Try.underlying2 (by kernel_rfl) (by kernel_rfl) (hval 0 23 v0 rfl rfl) h0
  obtain ⟨a1, rfl, rfl, rfl, w1⟩ := open_int Try.underlying2 (hval 1 2 v1 rfl rfl) h1
  obtain ⟨a2, rfl, rfl, rfl, w2⟩ := open_int Try.underlying2 (hval 2 2 v2 rfl rfl) h2
  clear hA0 hval0
  refine (walk a0 b0 a1 a2 W w0 x0 w1 w2).mono fun e W' ⟨he, bel⟩ => ?_
  subst he
  exact ⟨_, rfl, _, _, _, [], _, [], hW', trodAll_mk1 (shut_bool Try.underlying4 _), (trodAll_cons_mk (shut_pair Try.underlying23 Try.underlying2 (by kernel_rfl) (by kernel_rfl) w0 x0) (trodAll_cons_mk (shut_int Try.underlying2 w1) (trodAll_cons_mk (shut_int Try.underlying2 w2) trodAll_mk0))), rfl, bel.frame _, fun h => by cases h⟩

theorem over : Rows.fnExactModeNumberRow.holds Try.pinned (OpenSpec.ofChange Rows.fnExactModeNumberSpec) :=
  OpenClaim.holds_of_wide 9 Try.f9 rfl rfl rfl rfl rfl rfl rfl ⟨rfl, rfl, rfl, rfl, rfl⟩ rfl rfl rfl rfl rfl (by kernel_rfl) Try.func9 (by kernel_rfl)
    (of_decide_eq_true (by kernel_rfl)) (by unfold Func.isWrapper; first | (rw [if_pos (by decide +kernel)]; kernel_rfl) | (rw [if_neg (by decide +kernel)]; exact ⟨rfl, rfl⟩))
    (fun os started H enc _ => lifted os started H enc)

/-- The statement. -/
theorem proved : Rows.FnExactModeNumberSaid := over
#print axioms proved
end Go.Proofs.Ytlfnbnhbobohlaa.fnExactModeNumber
