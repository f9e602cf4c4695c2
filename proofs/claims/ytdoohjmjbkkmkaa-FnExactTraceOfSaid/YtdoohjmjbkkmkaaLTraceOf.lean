/- FnExactTraceOf: for all arguments the law returns true: TraceOf answers as its model does, in all results, its arguments read as before, and nothing else turns. No condition. -/
import Derived.Test.YtdoohjmjbkkmkaaRows
import Derived.WalkKit
import Derived.ProofKit
import Derived.OpenShut
import Derived.ShutString
import Derived.ChangeOld
import Derived.Below
import Derived.Laws.Cover2
import Derived.Test.YtdoohjmjbkkmkaaMat
import Derived.Test.YtdoohjmjbkkmkaaMarkG
import Derived.Test.YtdoohjmjbkkmkaaOwn
namespace Go.Proofs.Ytdoohjmjbkkmkaa.fnExactTraceOf
open Go.ChangeShapes Go.WideShapes Go.ChangeAt Go.RowKit Go.Fl
open Go.ChangeMaps (open_string shut_string)
set_option linter.unusedVariables false

set_option maxHeartbeats 4000000 in
set_option maxRecDepth 100000 in
theorem walk (a0 : Option Addr) (len0 cap0 : Nat) (z0 : List Nat) (w : World) (w0 : FS .f32 w (.slice a0 len0 cap0) z0) :
    Calls Try.prog 4 #[.slice a0 len0 cap0] w fun e w' => e = .returned (.bool true) ∧ Below w.heap.size w w' := by
  obtain ⟨e0, W0⟩ := fs_open w0
  subst e0
  have HV0 := Lib.hid w0; have HW0 := Lib.hid W0.2; have hcm0 := W0.1
  clear w0 W0
  by_cases q0 : 1048576 < z0.length
  · have hd0 : decide ((1048576 : Int) < (z0.length : Int)) = true := by simp; omega
    go_enter Try.func4, Try.ntmps4
    go_wp2_with fail
    go_ret
    exact ⟨rfl, Below.refl _ _⟩
  have hd0 : decide ((1048576 : Int) < (z0.length : Int)) = false := by simp; omega
  have hn0 : z0.length ≤ 1048576 := by omega
  clear q0
  obtain ⟨ok, hok⟩ : ∃ ok, okTraceOf z0 = ok := ⟨_, rfl⟩
  have HOK := Lib.hid hok
  clear hok
  go_enter Try.func4, Try.ntmps4
  go_wp2_with fail
  clear hd0
  have HB := Lib.hid (Below.refl w.heap.size w)
  have HU0 := HV0
  obtain ⟨w1, e1⟩ : ∃ w1, w1 = w := ⟨_, rfl⟩
  subst e1
  have D1 := Lib.hid (Below.refl w1.heap.size w1)
  refine (toF_any _ z0 _ (HU0.out.below D1.out) hn0).mono ?_; rintro e w2 ⟨⟨gs0, rfl, ho⟩, hb⟩
  have D2 := Lib.hid (D1.out.trans (hb.mono D1.out.size)); have S2 := Lib.hid (hb.size)
  clear hb
  have Os0 := Lib.hid (show FOwn w1.heap.size w2 (.slice (some ⟨gs0, 0, none⟩) z0.length z0.length) z0 from ho)
  have Rs0 := Lib.hid Os0.out.lt
  clear ho
  go_wp2_with fail
  refine (sTraceOf_any _ z0 _ (fown_FS Os0.out HW0.out) hn0).mono ?_; rintro e w3 ⟨⟨rS, rfl, hr⟩, hb⟩
  have D3 := Lib.hid (D2.out.trans (hb.mono D2.out.size)); have S3 := Lib.hid (hb.size)
  replace Os0 := Lib.hid (fown_below Os0.out hb)
  clear hb
  rw [HOK.out]
  have IS := Lib.hid hr; clear hr
  clear Os0 Rs0
  go_wp2_with fail
  refine (toF_any _ z0 _ (HU0.out.below D3.out) hn0).mono ?_; rintro e w4 ⟨⟨gx0, rfl, ho⟩, hb⟩
  have D4 := Lib.hid (D3.out.trans (hb.mono D3.out.size)); have S4 := Lib.hid (hb.size)
  clear hb
  have Ox0 := Lib.hid (show FOwn w3.heap.size w4 (.slice (some ⟨gx0, 0, none⟩) z0.length z0.length) z0 from ho)
  have Rx0 := Lib.hid Ox0.out.lt
  clear ho
  go_wp2_with fail
  refine (iTraceOf_any _ z0 _ (fown_FS Ox0.out HW0.out) hn0).mono ?_; rintro e w5 ⟨⟨rG, rfl, hr⟩, hb⟩
  have D5 := Lib.hid (D4.out.trans (hb.mono D4.out.size)); have S5 := Lib.hid (hb.size)
  replace Ox0 := Lib.hid (fown_below Ox0.out hb)
  clear hb
  rw [HOK.out]
  have IG := Lib.hid hr; clear hr
  have i1 := IG.out; have i2 := IS.out
  go_wp2_with (first | (apply wpList_wid; rfl; rfl; (first | with_reducible assumption | exact Is.const rfl); exact U32; exact U64; intro r n hr) | fail)
  refine (sameFloat_any _ _ _ (by assumption) (by assumption) _).mono ?_; rintro e w6 ⟨rfl, hd⟩
  have hb : Below w5.heap.size w5 w6 := by obtain ⟨m, rfl⟩ := hd; first | exact below_drewN (below_drewN (below_drewN (Below.refl _ _) _) _) _ | exact below_drewN (below_drewN (Below.refl _ _) _) _
  clear i1 i2 hd
  have D6 := Lib.hid (D5.out.trans (hb.mono D5.out.size)); have S6 := Lib.hid (hb.size)
  replace Ox0 := Lib.hid (fown_below Ox0.out hb)
  clear hb
  go_wp2_with fail
  refine (toF_any _ z0 _ (HU0.out.below D6.out) hn0).mono ?_; rintro e w7 ⟨⟨gy0, rfl, ho⟩, hb⟩
  have D7 := Lib.hid (D6.out.trans (hb.mono D6.out.size)); have S7 := Lib.hid (hb.size)
  replace Ox0 := Lib.hid (fown_below Ox0.out hb)
  clear hb
  have Oy0 := Lib.hid (show FOwn w6.heap.size w7 (.slice (some ⟨gy0, 0, none⟩) z0.length z0.length) z0 from ho)
  have Ry0 := Lib.hid Oy0.out.lt
  clear ho
  go_wp2_with fail
  refine (eqF_any _ _ z0 z0 _ (fown_FS Ox0.out HW0.out) (fown_FS Oy0.out HW0.out) rfl hn0 (fun _ _ => rfl)).mono ?_; rintro e w' ⟨rfl, m, rfl⟩
  have hb := below_drewN (Below.refl w7.heap.size w7) m
  generalize w7.drewN m = w8 at hb ⊢
  have D8 := Lib.hid (D7.out.trans (hb.mono D7.out.size)); have S8 := Lib.hid (hb.size)
  replace Ox0 := Lib.hid (fown_below Ox0.out hb)
  replace Oy0 := Lib.hid (fown_below Oy0.out hb)
  clear hb
  clear Oy0 Ry0
  go_wp2_with fail
  go_ret
  exact ⟨rfl, HB.out.trans (D8.out.mono HB.out.size)⟩

/-! ### from the walk to the statement -/
theorem own : ownKnob Try.prog.godebug = none := by kernel_rfl
theorem laidOut : laidOutB Try.prog = true := by kernel_rfl
set_option maxRecDepth 100000 in
theorem lifted (os : Os) (started : os.Started) (H : Type) (enc : TypeId × Value → H) :
    ReturnsInHanded {} Try.checked os 4 .any (Rows.fnExactTraceOfSpec.pre6 enc Try.prog Try.f4 Rows.fnExactTraceOfRow.domain false) (Rows.fnExactTraceOfSpec.post enc Try.prog Try.f4 false true false false) := by
  refine returnsInHanded_of_change (C := Try.checked) own started (by kernel_rfl) Try.func4
    (ChangeSpec.witness6 (enc := enc) (C := Try.checked) false ⟨#[], #[.slice none 0 0], []⟩ 8 (by kernel_rfl) (by kernel_rfl) (by kernel_rfl) (by kernel_rfl)) ?_
  intro W base args ds gs before hval0 hW hcnd _
  have hval : ∀ (j : Nat) t v, Try.f4.params[j]? = some t → args[j]? = some v → Value.okWide Try.prog W .any base t v := hval0
  have hW' := hW
  obtain ⟨p, q, hA0, hV, rfl, hfz, hnd⟩ := hW
  have hA : DataW.TrodAll enc Try.prog W 0 (fun _ => true) true Try.f4.params.toList args.toList ds p := hA0
  rw [Try.params4] at hA hval
  obtain ⟨v0, vs0, d0, ds0, p0, q0, hargs, rfl, rfl, h0, r0⟩ := trodAll_cons hA
  obtain ⟨rfl, rfl, rfl⟩ := trodAll_nil r0
  obtain rfl : args = #[v0] := by cases args; simp_all
  obtain ⟨rfl, rfl⟩ := trodVars_none hV
  obtain ⟨a0, len0, cap0, rfl⟩ := okWide_slice Try.underlying22 (hval 0 22 v0 rfl rfl)
  have k0 := h0
  have lt0 : ∀ x ∈ p0, x.block < W.heap.size := by obtain ⟨m, hm⟩ := k0; exact DataW.trod_lt m _ _ _ hm
  obtain ⟨z0, w0⟩ : ∃ zs, FS .f32 W (.slice a0 len0 cap0) zs := open_floats Try.underlying22 Try.underlying23 (by kernel_rfl) h0
  clear hA0 hval0
  refine (walk a0 len0 cap0 z0 W w0).mono fun e W' ⟨he, bel⟩ => ?_
  subst he
  exact ⟨_, rfl, _, _, _, [], _, [], hW', trodAll_mk1 (shut_bool Try.underlying4 _), (trodAll_cons_mk (Below.trod laidOut (by kernel_rfl) (of_decide_eq_true (by kernel_rfl)) k0 bel lt0) trodAll_mk0), rfl, bel.frame _, fun h => by cases h⟩

theorem over : Rows.fnExactTraceOfRow.holds Try.pinned (OpenSpec.ofChange Rows.fnExactTraceOfSpec) :=
  OpenClaim.holds_of_wide 4 Try.f4 rfl rfl rfl rfl rfl rfl rfl ⟨rfl, rfl, rfl, rfl, rfl⟩ rfl rfl rfl rfl rfl (by kernel_rfl) Try.func4 (by kernel_rfl)
    (of_decide_eq_true (by kernel_rfl)) (by unfold Func.isWrapper; first | (rw [if_pos (by decide +kernel)]; kernel_rfl) | (rw [if_neg (by decide +kernel)]; exact ⟨rfl, rfl⟩))
    (fun os started H enc _ => lifted os started H enc)

/-- The statement. -/
theorem proved : Rows.FnExactTraceOfSaid := over
#print axioms proved
end Go.Proofs.Ytdoohjmjbkkmkaa.fnExactTraceOf
