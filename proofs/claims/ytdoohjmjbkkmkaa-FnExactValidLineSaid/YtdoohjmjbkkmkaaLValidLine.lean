/- FnExactValidLine: for all lists of elements the law returns true: ValidLine answers as its model does, in all results, its argument reads as before, and what it returns is memory of its own. No condition. -/
import Derived.Test.YtdoohjmjbkkmkaaRows
import Derived.WalkKit
import Derived.ProofKit
import Derived.OpenShut
import Derived.ShutString
import Derived.ChangeOld
import Derived.Below
import Derived.Laws.Cover2
import Derived.Test.YtdoohjmjbkkmkaaPrt
namespace Go.Proofs.Ytdoohjmjbkkmkaa.fnExactValidLine
open Go.ChangeShapes Go.WideShapes Go.ChangeAt Go.RowKit Go.Fl
open Go.ChangeMaps (open_string shut_string)
set_option linter.unusedVariables false

set_option maxHeartbeats 4000000 in
set_option maxRecDepth 100000 in
theorem walk (a0 : Option Addr) (len0 cap0 : Nat) (z0 : List El) (w : World) (w0 : ES w (.slice a0 len0 cap0) z0) :
    Calls Try.prog 6 #[.slice a0 len0 cap0] w fun e w' => e = .returned (.bool true) ∧ Below w.heap.size w w' := by
  obtain ⟨e0, hcm, hwf⟩ := es_open w0
  subst e0
  have HV := Lib.hid w0; have HO := Lib.hid hwf; have HLN := Lib.hid (es_len w0)
  clear w0 hwf
  by_cases q0 : 1048576 < z0.length
  · go_enter Try.func6, Try.ntmps6
    go_wp2_with fail
    refine (szE_any a0 z0.length cap0 w HLN.out).mono ?_; rw [if_neg (by omega)]; rintro e w' ⟨rfl, rfl⟩
    go_wp2_with fail
    go_ret
    exact ⟨rfl, Below.refl _ _⟩
  have hn0 : z0.length ≤ 1048576 := by omega
  have hd0 : decide (1048576 - (z0.length : Int) < 0) = false := decide_eq_false (by omega)
  have HN0 := Lib.hid hn0
  clear q0
  obtain ⟨ok, hok⟩ : ∃ ok, okValidLine z0 = ok := ⟨_, rfl⟩
  have HOK := Lib.hid hok
  clear hok
  go_enter Try.func6, Try.ntmps6
  go_wp2_with fail
  refine (szE_any a0 z0.length cap0 w HLN.out).mono ?_; rw [if_pos hn0]; rintro e w' ⟨rfl, rfl⟩
  go_wp2_with fail
  clear hd0
  obtain ⟨w1, e1⟩ : ∃ w1, w1 = w := ⟨_, rfl⟩
  subst e1
  have D1 := Lib.hid (Below.refl w1.heap.size w1)
  refine (toES_any _ z0 _ (HV.out.below D1.out) HN0.out).mono ?_; rintro e w2 ⟨⟨gs, rfl, ho⟩, hb⟩
  have D2 := Lib.hid (D1.out.trans (hb.mono D1.out.size)); have S2 := Lib.hid (hb.size)
  clear hb
  have Os := Lib.hid ho; have Rs := Lib.hid (World.ownsRow.lt ho)
  clear ho
  go_wp2_with fail
  refine (sValidLine_any _ _ z0 _ Os.out HO.out HN0.out).mono ?_; rintro e w3 ⟨rfl, hb⟩
  have D3 := Lib.hid (D2.out.trans (hb.mono D2.out.size)); have S3 := Lib.hid (hb.size)
  replace Os := Lib.hid (e_below Os.out hb)
  clear hb
  rw [HOK.out]
  clear Os Rs
  go_wp2_with fail
  refine (toES_any _ z0 _ (HV.out.below D3.out) HN0.out).mono ?_; rintro e w4 ⟨⟨gx, rfl, ho⟩, hb⟩
  have D4 := Lib.hid (D3.out.trans (hb.mono D3.out.size)); have S4 := Lib.hid (hb.size)
  clear hb
  have Ox := Lib.hid ho; have Rx := Lib.hid (World.ownsRow.lt ho)
  clear ho
  go_wp2_with fail
  refine (iValidLine_any _ _ z0 _ Ox.out HO.out HN0.out).mono ?_; rintro e w5 ⟨rfl, hb⟩
  have D5 := Lib.hid (D4.out.trans (hb.mono D4.out.size)); have S5 := Lib.hid (hb.size)
  replace Ox := Lib.hid (e_below Ox.out hb)
  clear hb
  rw [HOK.out]
  go_wp2_with fail
  refine (toES_any _ z0 _ (HV.out.below D5.out) HN0.out).mono ?_; rintro e w6 ⟨⟨gy, rfl, ho⟩, hb⟩
  have D6 := Lib.hid (D5.out.trans (hb.mono D5.out.size)); have S6 := Lib.hid (hb.size)
  replace Ox := Lib.hid (e_below Ox.out hb)
  clear hb
  have Oy := Lib.hid ho; have Ry := Lib.hid (World.ownsRow.lt ho)
  clear ho
  go_wp2_with fail
  refine (eqES_any _ _ _ _ z0 _ Ox.out Oy.out HO.out HN0.out).mono ?_; rintro e w7 ⟨rfl, hb⟩
  have D7 := Lib.hid (D6.out.trans (hb.mono D6.out.size)); have S7 := Lib.hid (hb.size)
  replace Ox := Lib.hid (e_below Ox.out hb)
  replace Oy := Lib.hid (e_below Oy.out hb)
  clear hb
  clear Oy Ry
  go_wp2_with fail
  go_ret
  exact ⟨rfl, D7.out⟩

/-! ### from the walk to the statement -/
theorem own : ownKnob Try.prog.godebug = none := by kernel_rfl
theorem laidOut : laidOutB Try.prog = true := by kernel_rfl
set_option maxRecDepth 100000 in
theorem lifted (os : Os) (started : os.Started) (H : Type) (enc : TypeId × Value → H) :
    ReturnsInHanded {} Try.checked os 6 .any (Rows.fnExactValidLineSpec.pre6 enc Try.prog Try.f6 Rows.fnExactValidLineRow.domain false) (Rows.fnExactValidLineSpec.post enc Try.prog Try.f6 false true false false) := by
  refine returnsInHanded_of_change (C := Try.checked) own started (by kernel_rfl) Try.func6
    (ChangeSpec.witness6 (enc := enc) (C := Try.checked) false ⟨#[], #[.slice none 0 0], []⟩ 8 (by kernel_rfl) (by kernel_rfl) (by kernel_rfl) (by kernel_rfl)) ?_
  intro W base args ds gs before hval0 hW hcnd _
  have hval : ∀ (j : Nat) t v, Try.f6.params[j]? = some t → args[j]? = some v → Value.okWide Try.prog W .any base t v := hval0
  have hW' := hW
  obtain ⟨p, q, hA0, hV, rfl, hfz, hnd⟩ := hW
  have hA : DataW.TrodAll enc Try.prog W 0 (fun _ => true) true Try.f6.params.toList args.toList ds p := hA0
  rw [Try.params6] at hA hval
  obtain ⟨v0, vs0, d0, ds0, p0, q0, hargs, rfl, rfl, h0, r0⟩ := trodAll_cons hA
  obtain ⟨rfl, rfl, rfl⟩ := trodAll_nil r0
  obtain rfl : args = #[v0] := by cases args; simp_all
  obtain ⟨rfl, rfl⟩ := trodVars_none hV
  obtain ⟨a0, len0, cap0, rfl⟩ := okWide_slice Try.underlying34 (hval 0 34 v0 rfl rfl)
  have k0 := h0
  have lt0 : ∀ x ∈ p0, x.block < W.heap.size := by obtain ⟨m, hm⟩ := k0; exact DataW.trod_lt m _ _ _ hm
  obtain ⟨z0, w0⟩ : ∃ zs, ES W (.slice a0 len0 cap0) zs := open_elems Try.underlying34 Try.underlying85 (by kernel_rfl) (by kernel_rfl) Try.underlying2 Try.underlying23 Try.underlying23 h0
  clear hA0 hval0
  refine (walk a0 len0 cap0 z0 W w0).mono fun e W' ⟨he, bel⟩ => ?_
  subst he
  exact ⟨_, rfl, _, _, _, [], _, [], hW', trodAll_mk1 (shut_bool Try.underlying4 _), (trodAll_cons_mk (Below.trod laidOut (by kernel_rfl) (of_decide_eq_true (by kernel_rfl)) k0 bel lt0) trodAll_mk0), rfl, bel.frame _, fun h => by cases h⟩

theorem over : Rows.fnExactValidLineRow.holds Try.pinned (OpenSpec.ofChange Rows.fnExactValidLineSpec) :=
  OpenClaim.holds_of_wide 6 Try.f6 rfl rfl rfl rfl rfl rfl rfl ⟨rfl, rfl, rfl, rfl, rfl⟩ rfl rfl rfl rfl rfl (by kernel_rfl) Try.func6 (by kernel_rfl)
    (of_decide_eq_true (by kernel_rfl)) (by unfold Func.isWrapper; first | (rw [if_pos (by decide +kernel)]; kernel_rfl) | (rw [if_neg (by decide +kernel)]; exact ⟨rfl, rfl⟩))
    (fun os started H enc _ => lifted os started H enc)

/-- The statement. -/
theorem proved : Rows.FnExactValidLineSaid := over
#print axioms proved
end Go.Proofs.Ytdoohjmjbkkmkaa.fnExactValidLine
