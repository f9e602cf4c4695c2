/- FnExactListText: for every list of integers the law returns true: ListText answers as its model does, in both results, and its argument reads as before. The library's table of powers of ten is as the program's text lays it (the card ties it). No other condition. -/
import Derived.Test.YtnipdbphfnppeadDoorRows
import Derived.Test.YtnipdbphfnppeadDoorCards
import Derived.Test.YtnipdbphfnppeadDoorTie
import Derived.WalkKit
import Derived.ProofKit
import Derived.OpenShut
import Derived.ShutString
import Derived.ChangeOld
import Derived.Below
import Derived.Laws.Cover2
import Derived.LaidMore
import Derived.LaidSub
import Derived.MakeChecks
import Derived.Stop.Joined
import Derived.SevenTiedAt
import Derived.Lib.LaidTab
import Derived.Test.YtnipdbphfnppeadDoorTxtI
namespace Go.Proofs.YtnipdbphfnppeadDoor.fnExactListText
open Go.ChangeShapes Go.WideShapes Go.ChangeAt Go.RowKit Go.Dec Go.Nl
open Go.ChangeMaps (open_string shut_string)
set_option linter.unusedVariables false

theorem table {W : World} (h : laidMetH Tryd.prog Rows.fnExactListTextRow.laid W) : Lib.TabIs Tryd.prog W "internal/strconv.uint64pow10" .u64 Lib.pow10Tab := by
  have h1 := h.filter (fun x => x.1 == "internal/strconv.uint64pow10")
  rw [MakeChecks.laidMetH_plain _ _ _ (by kernel_rfl)] at h1
  exact Lib.tabIs_of_head (rest := []) gPow (show (Tryd.prog.globals[1]?).map (·.type) = some 83 by kernel_rfl) Tryd.underlying83 Tryd.underlying65 (by kernel_rfl) (by kernel_rfl) h1

theorem walk (a0 : Option Addr) (len0 cap0 : Nat) (z0 : List Int) (w : World) (w0 : NS .i64 w (.slice a0 len0 cap0) z0) (hL : laidMetH Tryd.prog Rows.fnExactListTextRow.laid w) :
    Calls Tryd.prog 3 #[.slice a0 len0 cap0] w fun e w' => e = .returned (.bool true) ∧ Below w.heap.size w w' := by
  have hT := table hL
  clear hL
  have hv := w0
  obtain ⟨a, cap, hs, hlc, hcm, hwf, hmem⟩ := w0
  simp only [Value.slice.injEq] at hs
  obtain ⟨rfl, rfl, rfl⟩ := hs
  have W := Lib.hid hwf
  clear hmem hlc hwf
  unfold maxLen at hcm
  by_cases hlen : 1048576 < z0.length
  · have hd : decide ((1048576 : Int) < (z0.length : Int)) = true := by simp; omega
    clear hT
    go_enter Tryd.func3, Tryd.ntmps3
    go_wp2_with fail
    go_ret
    exact ⟨rfl, Below.refl _ _⟩
  · have hd : decide ((1048576 : Int) < (z0.length : Int)) = false := by simp; omega
    have hn : z0.length ≤ 1048576 := by omega
    clear hlen
    by_cases hok : okL z0 = true
    · have HK := Lib.hid hok
      clear hok
      go_enter Tryd.func3, Tryd.ntmps3
      go_wp2_with fail
      refine (toI_any _ _ _ hv hn).mono ?_; rintro e w1 ⟨⟨g1, rfl, ho1⟩, hb1⟩
      have hf1 := own_NS ho1 W.out
      go_wp2_with fail
      refine (sListText_yes _ _ _ hf1 HK.out).mono ?_; rintro e w2 ⟨rfl, hb2⟩
      have hB2 := hb1.trans (hb2.mono hb1.size)
      have hv2 := hv.below hB2
      go_wp2_with fail
      refine (toI_any _ _ _ hv2 hn).mono ?_; rintro e w3 ⟨⟨g3, rfl, ho3⟩, hb3⟩
      have hf3 := own_NS ho3 W.out
      have hB3 := hB2.trans (hb3.mono hB2.size)
      have hT3 := Lib.hid (pow_tab hT hB3)
      go_wp2_with fail
      refine (iListText_yes _ _ _ hf3 HK.out hT3.out).mono ?_; rintro e w4 ⟨rfl, hb4⟩
      have hB4 := hB3.trans (hb4.mono hB3.size)
      go_wp2_with fail
      refine (toI_any _ _ _ (hv.below hB4) hn).mono ?_; rintro e w5 ⟨⟨g5, rfl, ho5⟩, hb5⟩
      have hf5 := own_NS ho5 W.out
      have hB5 := hB4.trans (hb5.mono hB4.size)
      go_wp2_with fail
      refine (eqI_any _ _ z0 _ ((hf3.below hb4).below hb5) hf5 hn).mono ?_; rintro e w' ⟨rfl, n4, rfl⟩
      go_wp2_with fail
      go_ret
      exact ⟨rfl, below_drewN hB5 _⟩
    · have HK := Lib.hid (show okL z0 = false by simpa using hok)
      clear hok
      go_enter Tryd.func3, Tryd.ntmps3
      go_wp2_with fail
      refine (toI_any _ _ _ hv hn).mono ?_; rintro e w1 ⟨⟨g1, rfl, ho1⟩, hb1⟩
      have hf1 := own_NS ho1 W.out
      go_wp2_with fail
      refine (sListText_no _ _ _ hf1 hn HK.out).mono ?_; rintro e w2 ⟨rfl, hb2⟩
      have hB2 := hb1.trans (hb2.mono hb1.size)
      have hv2 := hv.below hB2
      go_wp2_with fail
      refine (toI_any _ _ _ hv2 hn).mono ?_; rintro e w3 ⟨⟨g3, rfl, ho3⟩, hb3⟩
      have hf3 := own_NS ho3 W.out
      have hB3 := hB2.trans (hb3.mono hB2.size)
      go_wp2_with fail
      refine (iListText_no _ _ _ hf3 HK.out).mono ?_; rintro e w4 ⟨rfl, rfl⟩
      go_wp2_with fail
      refine (toI_any _ _ _ (hv.below hB3) hn).mono ?_; rintro e w5 ⟨⟨g5, rfl, ho5⟩, hb5⟩
      have hf5 := own_NS ho5 W.out
      have hB5 := hB3.trans (hb5.mono hB3.size)
      go_wp2_with fail
      refine (eqI_any _ _ z0 _ (hf3.below hb5) hf5 hn).mono ?_; rintro e w' ⟨rfl, n4, rfl⟩
      go_wp2_with fail
      go_ret
      exact ⟨rfl, below_drewN hB5 _⟩

/-! ### from the walk to the statement -/
theorem own : ownKnob Tryd.prog.godebug = none := by kernel_rfl
theorem laidOut : laidOutB Tryd.prog = true := by kernel_rfl
theorem door_met (os : Os) (args : Array Value) : laidMetH Tryd.prog Rows.fnExactListTextRow.laid ((World.doorLaid Tryd.prog 72 os).forCall (fun _ _ => 0) ⟨#[], args, []⟩).memory :=
  laidMetH_of_parts3 (fuel := 8) (laidMet_of_run' 8 (by kernel_rfl) (by kernel_rfl)) (by kernel_rfl) (by kernel_rfl)
set_option maxRecDepth 100000 in
theorem lifted (os : Os) (started : os.Started) (H : Type) (enc : TypeId × Value → H) :
    ReturnsInHanded {} Tryd.checked os 3 .any (fun w args => (Rows.fnExactListTextSpec.pre enc Tryd.prog Tryd.f3 [] false w args ∧ laidMetH Tryd.prog Rows.fnExactListTextRow.laid w) ∧ sizedMet enc Tryd.prog Tryd.f3 (OpenSpec.ofChange Rows.fnExactListTextSpec) false w args)
      (Rows.fnExactListTextSpec.post enc Tryd.prog Tryd.f3 false true false false) := by
  refine returnsInHanded_of_change_and (C := Tryd.checked) (X := fun w _ => laidMetH Tryd.prog Rows.fnExactListTextRow.laid w) (fun _ _ _ hh h => h.of_heap hh) own started (by kernel_rfl) Tryd.func3
    (ChangeSpec.witness_shaped (enc := enc) (C := Tryd.checked) (os := os) (X := fun w _ => laidMetH Tryd.prog Rows.fnExactListTextRow.laid w) false (World.doorLaid Tryd.prog 72 os) #[.slice none 0 0] 8 rfl (World.shaped_of_RefB (by kernel_rfl) (by kernel_rfl)) (by kernel_rfl) (by kernel_rfl) (by kernel_rfl) (door_met os _)) ?_
  intro W base args ds gs before hval0 hW _ hsz hL _
  have hval : ∀ (j : Nat) t v, Tryd.f3.params[j]? = some t → args[j]? = some v → Value.okWide Tryd.prog W .any base t v := hval0
  have hW' := hW
  obtain ⟨p, q, hA0, hV, rfl, hfz, hnd⟩ := hW
  have hA : DataW.TrodAll enc Tryd.prog W 0 (fun _ => true) true Tryd.f3.params.toList args.toList ds p := hA0
  rw [Tryd.params3] at hA hval
  obtain ⟨v0, vs0, d0, ds0, p0, q0, hargs, rfl, rfl, h0, r0⟩ := trodAll_cons hA
  obtain ⟨rfl, rfl, rfl⟩ := trodAll_nil r0
  obtain rfl : args = #[v0] := by cases args; simp_all
  obtain ⟨rfl, rfl⟩ := trodVars_none hV
  obtain ⟨a0, len0, cap0, rfl⟩ := okWide_slice Tryd.underlying22 (hval 0 22 v0 rfl rfl)
  have k0 := h0
  have lt0 : ∀ x ∈ p0, x.block < W.heap.size := by obtain ⟨m, hm⟩ := k0; exact DataW.trod_lt m _ _ _ hm
  obtain ⟨z0, w0⟩ : ∃ zs, Nl.NS .i64 W (.slice a0 len0 cap0) zs := Nl.open_nums Tryd.underlying22 Tryd.underlying2 (by kernel_rfl) h0
  clear hA0 hval0
  refine (walk a0 len0 cap0 z0 W w0 hL).mono fun e W' ⟨he, bel⟩ => ?_
  subst he
  exact ⟨_, rfl, _, _, _, [], _, [], hW', trodAll_mk1 (shut_bool Tryd.underlying4 _), (trodAll_cons_mk (Below.trod laidOut (by kernel_rfl) (of_decide_eq_true (by kernel_rfl)) k0 bel lt0) trodAll_mk0), rfl, bel.frame _, fun h => by cases h⟩

theorem over : Rows.FnExactListTextSaid :=
  OpenClaim.holds_of_wide 3 Tryd.f3 rfl rfl rfl rfl rfl rfl rfl ⟨rfl, rfl, rfl, rfl, rfl⟩ rfl rfl rfl rfl rfl (by kernel_rfl) Tryd.func3 (by kernel_rfl)
    (of_decide_eq_true (by kernel_rfl)) (by unfold Func.isWrapper; first | (rw [if_pos (by decide +kernel)]; kernel_rfl) | (rw [if_neg (by decide +kernel)]; exact ⟨rfl, rfl⟩))
    (fun os started H enc _ => lifted os started H enc)

/-- The card: what the program's text lays is tied to it. -/
theorem proved : Rows.FnExactListTextCardSaid :=
  Claim7.holds_tied_plain_at .later [] _ _ _ _ over (fun _ h => by cases h) (by kernel_rfl) (fun _ h => by cases h) fnExactListText_row_tie rfl ⟨rfl, rfl⟩ (by kernel_rfl) rfl
    (fun f fn hf hfn => by
      obtain rfl : f = 3 := Option.some.inj ((show Tryd.prog.funcNamed Rows.fnExactListTextRow.func = some 3 by kernel_rfl).symm.trans hf) |>.symm
      obtain rfl : fn = Tryd.f3 := (Option.some.inj (Tryd.func3.symm.trans hfn)).symm
      exact ⟨by kernel_rfl, fun j t ht => by
        rw [Tryd.params3] at ht
        have hm : t ∈ Tryd.f3.params.toList := by rw [Tryd.params3]; simpa using Array.mem_of_getElem? ht
        rw [Tryd.params3] at hm
        have hall : ((Tryd.f3.params.toList).all fun u => !Tryd.prog.wantsStandIn u) = true := by kernel_rfl
        rw [Tryd.params3] at hall
        exact (show Tryd.prog.wantsStandIn t = false by simpa using List.all_eq_true.1 hall t hm)⟩)
    (by kernel_rfl)
#print axioms proved
end Go.Proofs.YtnipdbphfnppeadDoor.fnExactListText
