/- FnExactBackLine: for all lists of elements the law returns true: BackLine answers as its model does, in all results, its argument reads as before, and what it returns is memory of its own. No condition. -/
import Derived.Test.YtdoohjmjbkkmkaaRows
import Derived.WalkKit
import Derived.ProofKit
import Derived.OpenShut
import Derived.ShutString
import Derived.ChangeOld
import Derived.Below
import Derived.Laws.Cover2
import Derived.Test.YtdoohjmjbkkmkaaBkp
namespace Go.Proofs.Ytdoohjmjbkkmkaa.fnExactBackLine
open Go.ChangeShapes Go.WideShapes Go.ChangeAt Go.RowKit Go.Fl
open Go.ChangeMaps (open_string shut_string)
set_option linter.unusedVariables false

set_option maxHeartbeats 4000000 in
set_option maxRecDepth 100000 in
theorem walk (a0 : Option Addr) (len0 cap0 : Nat) (z0 : List El) (w : World) (w0 : ES w (.slice a0 len0 cap0) z0) :
    Calls Try.prog 7 #[.slice a0 len0 cap0] w fun e w' => e = .returned (.bool true) ∧ Below w.heap.size w w' := by
  obtain ⟨e0, hcm, hwf⟩ := es_open w0
  subst e0
  have HV := Lib.hid w0; have HO := Lib.hid hwf; have HLN := Lib.hid (es_len w0)
  clear w0 hwf
  by_cases q0 : 1048576 < z0.length
  · go_enter Try.func7, Try.ntmps7
    go_wp2_with fail
    refine (szE_any a0 z0.length cap0 w HLN.out).mono ?_; rw [if_neg (by omega)]; rintro e w' ⟨rfl, rfl⟩
    go_wp2_with fail
    go_ret
    exact ⟨rfl, Below.refl _ _⟩
  have hn0 : z0.length ≤ 1048576 := by omega
  have hd0 : decide (1048576 - (z0.length : Int) < 0) = false := decide_eq_false (by omega)
  have HN0 := Lib.hid hn0
  clear q0
  obtain ⟨ok, hok⟩ : ∃ ok, okBackLine z0 = ok := ⟨_, rfl⟩
  have HOK := Lib.hid hok
  clear hok
  have hNb := outBackLine_le z0
  have HRK := Lib.hid (outBackLine_ok z0 HO.out)
  obtain ⟨R, hR⟩ : ∃ R, outBackLine z0 = R := ⟨_, rfl⟩
  rw [hR] at hNb HRK
  have HR := Lib.hid hR
  clear hR
  go_enter Try.func7, Try.ntmps7
  go_wp2_with fail
  refine (szE_any a0 z0.length cap0 w HLN.out).mono ?_; rw [if_pos hn0]; rintro e w' ⟨rfl, rfl⟩
  go_wp2_with fail
  clear hd0
  obtain ⟨w1, e1⟩ : ∃ w1, w1 = w := ⟨_, rfl⟩
  subst e1
  have D1 := Lib.hid (Below.refl w1.heap.size w1)
  refine (toES_any _ z0 _ (HV.out.below D1.out) HN0.out).mono ?_; rintro e w2 ⟨⟨gs, rfl, ho⟩, hb⟩
  have D2 := Lib.hid (D1.out.trans (hb.mono D1.out.size)); have S2 := Lib.hid (hb.size)
  clear hb
  have Os := Lib.hid ho; have Rs := Lib.hid (World.ownsRow.lt ho)
  clear ho
  go_wp2_with fail
  refine (sBackLine_any _ _ z0 _ Os.out HO.out HN0.out).mono ?_; rintro e w3 ⟨⟨vS, rfl, hr⟩, hb⟩
  have D3 := Lib.hid (D2.out.trans (hb.mono D2.out.size)); have S3 := Lib.hid (hb.size)
  replace Os := Lib.hid (e_below Os.out hb)
  clear hb
  rw [HOK.out]
  rw [HR.out] at hr
  have OS := Lib.hid hr; have RS := Lib.hid (World.ownsRow.lt hr)
  clear hr
  clear Os Rs
  go_wp2_with fail
  refine (toES_any _ z0 _ (HV.out.below D3.out) HN0.out).mono ?_; rintro e w4 ⟨⟨gx, rfl, ho⟩, hb⟩
  have D4 := Lib.hid (D3.out.trans (hb.mono D3.out.size)); have S4 := Lib.hid (hb.size)
  replace OS := Lib.hid (e_below OS.out hb)
  clear hb
  have Ox := Lib.hid ho; have Rx := Lib.hid (World.ownsRow.lt ho)
  clear ho
  go_wp2_with fail
  refine (iBackLine_any _ _ z0 _ Ox.out HO.out HN0.out).mono ?_; rintro e w5 ⟨⟨vG, rfl, hr⟩, hb⟩
  have D5 := Lib.hid (D4.out.trans (hb.mono D4.out.size)); have S5 := Lib.hid (hb.size)
  replace OS := Lib.hid (e_below OS.out hb)
  replace Ox := Lib.hid (e_below Ox.out hb)
  clear hb
  rw [HOK.out]
  rw [HR.out] at hr
  have OG := Lib.hid hr; have RG := Lib.hid (World.ownsRow.lt hr)
  clear hr
  go_wp2_with fail
  refine (eqES_any _ _ _ _ R _ OG.out OS.out HRK.out (by omega)).mono ?_; rintro e w6 ⟨rfl, hb⟩
  have D6 := Lib.hid (D5.out.trans (hb.mono D5.out.size)); have S6 := Lib.hid (hb.size)
  replace OS := Lib.hid (e_below OS.out hb)
  replace Ox := Lib.hid (e_below Ox.out hb)
  replace OG := Lib.hid (e_below OG.out hb)
  clear hb
  go_wp2_with fail
  refine (toES_any _ z0 _ (HV.out.below D6.out) HN0.out).mono ?_; rintro e w7 ⟨⟨gy, rfl, ho⟩, hb⟩
  have D7 := Lib.hid (D6.out.trans (hb.mono D6.out.size)); have S7 := Lib.hid (hb.size)
  replace OS := Lib.hid (e_below OS.out hb)
  replace Ox := Lib.hid (e_below Ox.out hb)
  replace OG := Lib.hid (e_below OG.out hb)
  clear hb
  have Oy := Lib.hid ho; have Ry := Lib.hid (World.ownsRow.lt ho)
  clear ho
  go_wp2_with fail
  refine (eqES_any _ _ _ _ z0 _ Ox.out Oy.out HO.out HN0.out).mono ?_; rintro e w8 ⟨rfl, hb⟩
  have D8 := Lib.hid (D7.out.trans (hb.mono D7.out.size)); have S8 := Lib.hid (hb.size)
  replace OS := Lib.hid (e_below OS.out hb)
  replace Ox := Lib.hid (e_below Ox.out hb)
  replace OG := Lib.hid (e_below OG.out hb)
  replace Oy := Lib.hid (e_below Oy.out hb)
  clear hb
  clear Oy Ry
  go_wp2_with fail
  refine (markES_any _ _ z0 _ Ox.out HN0.out).mono ?_; rintro e w9 ⟨rfl, ho, hg⟩
  replace OS := Lib.hid (e_grown OS.out hg (apart RS.out Rx.out (by have := S2.out; have := S3.out; have := S4.out; have := S5.out; have := S6.out; have := S7.out; have := S8.out; omega)))
  replace OG := Lib.hid (e_grown OG.out hg (apart RG.out Rx.out (by have := S2.out; have := S3.out; have := S4.out; have := S5.out; have := S6.out; have := S7.out; have := S8.out; omega)))
  have D9 := Lib.hid (D8.out.grown hg D8.out.size (fun k hk => by have h1 := (Rx.out k hk).1; have := S2.out; have := S3.out; have := S4.out; have := S5.out; have := S6.out; have := S7.out; have := S8.out; omega)); have S9 := Lib.hid hg.size
  replace Ox := Lib.hid ho
  clear ho hg
  clear Ox Rx
  have hge : decide (3 * (z0.length : Int) + 1 < 0) = false := decide_eq_false (by omega)
  go_wp2_with fail
  refine (eqES_any _ _ _ _ R _ OG.out OS.out HRK.out (by omega)).mono ?_; rintro e w10 ⟨rfl, hb⟩
  have D10 := Lib.hid (D9.out.trans (hb.mono D9.out.size)); have S10 := Lib.hid (hb.size)
  replace OS := Lib.hid (e_below OS.out hb)
  replace OG := Lib.hid (e_below OG.out hb)
  clear hb
  go_wp2_with fail
  refine (markES_any _ _ R _ OG.out (by omega)).mono ?_; rintro e w11 ⟨rfl, ho, hg⟩
  replace OS := Lib.hid (e_grown OS.out hg (apart RS.out RG.out (by have := S2.out; have := S3.out; have := S4.out; have := S5.out; have := S6.out; have := S7.out; have := S8.out; have := S9.out; have := S10.out; omega)))
  have D11 := Lib.hid (D10.out.grown hg D10.out.size (fun k hk => by have h1 := (RG.out k hk).1; have := S2.out; have := S3.out; have := S4.out; have := S5.out; have := S6.out; have := S7.out; have := S8.out; have := S9.out; have := S10.out; omega)); have S11 := Lib.hid hg.size
  replace OG := Lib.hid ho
  clear ho hg
  go_wp2_with fail
  refine (heldES_any _ _ R.length _ OG.out (by omega)).mono ?_; rintro e w' ⟨rfl, m, rfl⟩
  have hb := below_drewN (Below.refl w11.heap.size w11) m
  generalize w11.drewN m = w12 at hb ⊢
  have D12 := Lib.hid (D11.out.trans (hb.mono D11.out.size)); have S12 := Lib.hid (hb.size)
  replace OS := Lib.hid (e_below OS.out hb)
  replace OG := Lib.hid (e_below OG.out hb)
  clear hb
  go_wp2_with fail
  refine (toES_any _ z0 _ (HV.out.below D12.out) HN0.out).mono ?_; rintro e w13 ⟨⟨gh, rfl, ho⟩, hb⟩
  have D13 := Lib.hid (D12.out.trans (hb.mono D12.out.size)); have S13 := Lib.hid (hb.size)
  replace OS := Lib.hid (e_below OS.out hb)
  replace OG := Lib.hid (e_below OG.out hb)
  clear hb
  have Oh := Lib.hid ho; have Rh := Lib.hid (World.ownsRow.lt ho)
  clear ho
  go_wp2_with fail
  refine (iBackLine_any _ _ z0 _ Oh.out HO.out HN0.out).mono ?_; rintro e w14 ⟨⟨vH, rfl, hr⟩, hb⟩
  have D14 := Lib.hid (D13.out.trans (hb.mono D13.out.size)); have S14 := Lib.hid (hb.size)
  replace OS := Lib.hid (e_below OS.out hb)
  replace OG := Lib.hid (e_below OG.out hb)
  replace Oh := Lib.hid (e_below Oh.out hb)
  clear hb
  rw [HOK.out]
  rw [HR.out] at hr
  have OH := Lib.hid hr; have RH := Lib.hid (World.ownsRow.lt hr)
  clear hr
  clear Oh Rh
  go_wp2_with fail
  refine (eqES_any _ _ _ _ R _ OH.out OS.out HRK.out (by omega)).mono ?_; rintro e w15 ⟨rfl, hb⟩
  have D15 := Lib.hid (D14.out.trans (hb.mono D14.out.size)); have S15 := Lib.hid (hb.size)
  replace OS := Lib.hid (e_below OS.out hb)
  replace OG := Lib.hid (e_below OG.out hb)
  replace OH := Lib.hid (e_below OH.out hb)
  clear hb
  go_wp2_with fail
  refine (heldES_any _ _ R.length _ OG.out (by omega)).mono ?_; rintro e w' ⟨rfl, m, rfl⟩
  have hb := below_drewN (Below.refl w15.heap.size w15) m
  generalize w15.drewN m = w16 at hb ⊢
  have D16 := Lib.hid (D15.out.trans (hb.mono D15.out.size)); have S16 := Lib.hid (hb.size)
  replace OS := Lib.hid (e_below OS.out hb)
  replace OG := Lib.hid (e_below OG.out hb)
  replace OH := Lib.hid (e_below OH.out hb)
  clear hb
  go_wp2_with fail
  go_ret
  exact ⟨rfl, D16.out⟩

/-! ### from the walk to the statement -/
theorem own : ownKnob Try.prog.godebug = none := by kernel_rfl
theorem laidOut : laidOutB Try.prog = true := by kernel_rfl
set_option maxRecDepth 100000 in
theorem lifted (os : Os) (started : os.Started) (H : Type) (enc : TypeId × Value → H) :
    ReturnsInHanded {} Try.checked os 7 .any (Rows.fnExactBackLineSpec.pre6 enc Try.prog Try.f7 Rows.fnExactBackLineRow.domain false) (Rows.fnExactBackLineSpec.post enc Try.prog Try.f7 false true false false) := by
  refine returnsInHanded_of_change (C := Try.checked) own started (by kernel_rfl) Try.func7
    (ChangeSpec.witness6 (enc := enc) (C := Try.checked) false ⟨#[], #[.slice none 0 0], []⟩ 8 (by kernel_rfl) (by kernel_rfl) (by kernel_rfl) (by kernel_rfl)) ?_
  intro W base args ds gs before hval0 hW hcnd _
  have hval : ∀ (j : Nat) t v, Try.f7.params[j]? = some t → args[j]? = some v → Value.okWide Try.prog W .any base t v := hval0
  have hW' := hW
  obtain ⟨p, q, hA0, hV, rfl, hfz, hnd⟩ := hW
  have hA : DataW.TrodAll enc Try.prog W 0 (fun _ => true) true Try.f7.params.toList args.toList ds p := hA0
  rw [Try.params7] at hA hval
  obtain ⟨v0, vs0, d0, ds0, p0, q0, hargs, rfl, rfl, h0, r0⟩ := trodAll_cons hA
  obtain ⟨rfl, rfl, rfl⟩ := trodAll_nil r0
  obtain rfl : args = #[v0] := by cases args; simp_all
  obtain ⟨rfl, rfl⟩ := trodVars_none hV
  obtain ⟨a0, len0, cap0, rfl⟩ := okWide_slice Try.underlying34 (hval 0 34 v0 rfl rfl)
  have k0 := h0
  have lt0 : ∀ x ∈ p0, x.block < W.heap.size := by obtain ⟨m, hm⟩ := k0; exact DataW.trod_lt m _ _ _ hm
  obtain ⟨z0, w0⟩ : ∃ zs, ES W (.slice a0 len0 cap0) zs := open_elems Try.underlying34 Try.underlying85 (by kernel_rfl) (by kernel_rfl) Try.underlying2 Try.underlying23 Try.underlying23 h0
  clear hA0 hval0
  refine (walk a0 len0 cap0 z0 W w0).mono fun e W' ⟨he, bel⟩ => ?_
  subst he
  exact ⟨_, rfl, _, _, _, [], _, [], hW', trodAll_mk1 (shut_bool Try.underlying4 _), (trodAll_cons_mk (Below.trod laidOut (by kernel_rfl) (of_decide_eq_true (by kernel_rfl)) k0 bel lt0) trodAll_mk0), rfl, bel.frame _, fun h => by cases h⟩

theorem over : Rows.fnExactBackLineRow.holds Try.pinned (OpenSpec.ofChange Rows.fnExactBackLineSpec) :=
  OpenClaim.holds_of_wide 7 Try.f7 rfl rfl rfl rfl rfl rfl rfl ⟨rfl, rfl, rfl, rfl, rfl⟩ rfl rfl rfl rfl rfl (by kernel_rfl) Try.func7 (by kernel_rfl)
    (of_decide_eq_true (by kernel_rfl)) (by unfold Func.isWrapper; first | (rw [if_pos (by decide +kernel)]; kernel_rfl) | (rw [if_neg (by decide +kernel)]; exact ⟨rfl, rfl⟩))
    (fun os started H enc _ => lifted os started H enc)

/-- The statement. -/
theorem proved : Rows.FnExactBackLineSaid := over
#print axioms proved
end Go.Proofs.Ytdoohjmjbkkmkaa.fnExactBackLine
