/- FnExactNumbersText: for every list of 32-bit numbers the law returns true: NumbersText answers as its model does, in both results, and its argument reads as before. The library's tables are as the program's text lays them (the card ties them). No other condition. -/
import Derived.Test.YtnipdbphfnppeacDoorRows
import Derived.Test.YtnipdbphfnppeacDoorCards
import Derived.Test.YtnipdbphfnppeacDoorTie
import Derived.WalkKit
import Derived.ProofKit
import Derived.OpenShut
import Derived.ShutString
import Derived.ChangeOld
import Derived.Below
import Derived.Laws.Cover2
import Derived.LaidMore
import Derived.LaidSub
import Derived.MakeChecks
import Derived.Stop.Joined
import Derived.SevenTiedAt
import Derived.Lib.LaidTab
import Derived.Test.YtnipdbphfnppeacDoorNTxt
namespace Go.Proofs.YtnipdbphfnppeacDoor.fnExactNumbersText
open Go.ChangeShapes Go.WideShapes Go.ChangeAt Go.RowKit Go.Fl
open Go.ChangeMaps (open_string shut_string)
set_option linter.unusedVariables false

def dB64 : List Int := [0, 1, 56, 2, 57, 49, 28, 3, 61, 58, 42, 50, 38, 29, 17, 4, 62, 47, 59, 36, 45, 43, 51, 22, 53, 39, 33, 30, 24, 18, 12, 5, 63, 55, 48, 27, 60, 41, 37, 16, 46, 35, 44, 21, 52, 32, 23, 11, 54, 26, 40, 15, 34, 20, 31, 10, 25, 14, 19, 9, 13, 8, 7, 6]
theorem gTz : Tryd.prog.globalNamed "math/bits.deBruijn64tab" = some 6 := by kernel_rfl

theorem tzAt {W : World} (h : laidMetH Tryd.prog Rows.fnExactNumbersTextRow.laid W) : TzAt W := by
  have h1 := h.filter (fun x => x.1 == "math/bits.deBruijn64tab")
  rw [MakeChecks.laidMetH_plain _ _ _ (by kernel_rfl)] at h1
  have h2 : Lib.TabIs Tryd.prog W "math/bits.deBruijn64tab" .u8 dB64 := Lib.tabIs_of_head (rest := []) gTz (show (Tryd.prog.globals[6]?).map (·.type) = some 130 by kernel_rfl) Tryd.underlying130 Tryd.underlying5 (by kernel_rfl) (by kernel_rfl) h1
  exact h2.cell gTz 15 (by decide)

theorem walk (a0 : Option Addr) (len0 cap0 : Nat) (z0 : List Nat) (w : World) (w0 : FS .f32 w (.slice a0 len0 cap0) z0) (hL : laidMetH Tryd.prog Rows.fnExactNumbersTextRow.laid w) :
    Calls Tryd.prog 6 #[.slice a0 len0 cap0] w fun e w' => e = .returned (.bool true) ∧ Below w.heap.size w w' := by
  have hT := tzAt hL
  clear hL
  have hv := w0
  obtain ⟨a, cap, hs, hlc, hcm, hwf, hmem⟩ := w0
  simp only [Value.slice.injEq] at hs
  obtain ⟨rfl, rfl, rfl⟩ := hs
  have W := Lib.hid hwf
  clear hmem hlc hwf
  unfold maxLen at hcm
  have HT := Lib.hid hT
  clear hT
  by_cases hlen : 1048576 < z0.length
  · have hd : decide ((1048576 : Int) < (z0.length : Int)) = true := by simp; omega
    go_enter Tryd.func6, Tryd.ntmps6
    go_wp2_with fail
    go_ret
    exact ⟨rfl, Below.refl _ _⟩
  · have hd : decide ((1048576 : Int) < (z0.length : Int)) = false := by simp; omega
    have hn : z0.length ≤ 1048576 := by omega
    clear hlen
    by_cases hok : z0.length ≤ 256
    · go_enter Tryd.func6, Tryd.ntmps6
      go_wp2_with fail
      refine (toF_any _ _ _ hv hn).mono ?_; rintro e w1 ⟨⟨g1, rfl, ho1⟩, hb1⟩
      have hf1 := own_FS ho1 W.out
      go_wp2_with fail
      refine (sNumbersText_yes _ _ _ hf1 hok).mono ?_; rintro e w2 ⟨rfl, hb2⟩
      have hB2 := hb1.trans (hb2.mono hb1.size)
      have hv2 := hv.below hB2
      go_wp2_with fail
      refine (toF_any _ _ _ hv2 hn).mono ?_; rintro e w3 ⟨⟨g3, rfl, ho3⟩, hb3⟩
      have hf3 := own_FS ho3 W.out
      have hB3 := hB2.trans (hb3.mono hB2.size)
      have hT3 := Lib.hid (HT.out.on hB3)
      go_wp2_with fail
      refine (iNumbersText_yes _ _ _ hf3 hok hT3.out).mono ?_; rintro e w4 ⟨rfl, hb4⟩
      have hB4 := hB3.trans (hb4.mono hB3.size)
      go_wp2_with fail
      refine (toF_any _ _ _ (hv.below hB4) hn).mono ?_; rintro e w5 ⟨⟨g5, rfl, ho5⟩, hb5⟩
      have hf5 := own_FS ho5 W.out
      have hB5 := hB4.trans (hb5.mono hB4.size)
      go_wp2_with fail
      refine (eqF_any _ _ z0 z0 _ ((hf3.below hb4).below hb5) hf5 rfl hn (fun _ _ => rfl)).mono ?_; rintro e w' ⟨rfl, n4, rfl⟩
      go_wp2_with fail
      go_ret
      exact ⟨rfl, below_drewN hB5 _⟩
    · have hok2 : 256 < z0.length := by omega
      clear hok
      go_enter Tryd.func6, Tryd.ntmps6
      go_wp2_with fail
      refine (toF_any _ _ _ hv hn).mono ?_; rintro e w1 ⟨⟨g1, rfl, ho1⟩, hb1⟩
      have hf1 := own_FS ho1 W.out
      go_wp2_with fail
      refine (sNumbersText_no _ _ _ hf1 hok2 hn).mono ?_; rintro e w2 ⟨rfl, rfl⟩
      have hv2 := hv.below hb1
      go_wp2_with fail
      refine (toF_any _ _ _ hv2 hn).mono ?_; rintro e w3 ⟨⟨g3, rfl, ho3⟩, hb3⟩
      have hf3 := own_FS ho3 W.out
      have hB3 := hb1.trans (hb3.mono hb1.size)
      go_wp2_with fail
      refine (iNumbersText_no _ _ _ hf3 hok2).mono ?_; rintro e w4 ⟨rfl, rfl⟩
      go_wp2_with fail
      refine (toF_any _ _ _ (hv.below hB3) hn).mono ?_; rintro e w5 ⟨⟨g5, rfl, ho5⟩, hb5⟩
      have hf5 := own_FS ho5 W.out
      have hB5 := hB3.trans (hb5.mono hB3.size)
      go_wp2_with fail
      refine (eqF_any _ _ z0 z0 _ (hf3.below hb5) hf5 rfl hn (fun _ _ => rfl)).mono ?_; rintro e w' ⟨rfl, n4, rfl⟩
      go_wp2_with fail
      go_ret
      exact ⟨rfl, below_drewN hB5 _⟩

/-! ### from the walk to the statement -/
theorem own : ownKnob Tryd.prog.godebug = none := by kernel_rfl
theorem laidOut : laidOutB Tryd.prog = true := by kernel_rfl
theorem door_met (os : Os) (args : Array Value) : laidMetH Tryd.prog Rows.fnExactNumbersTextRow.laid ((World.doorLaid Tryd.prog 72 os).forCall (fun _ _ => 0) ⟨#[], args, []⟩).memory :=
  laidMetH_of_parts3 (fuel := 8) (laidMet_of_run' 8 (by kernel_rfl) (by kernel_rfl)) (by kernel_rfl) (by kernel_rfl)
set_option maxRecDepth 100000 in
theorem lifted (os : Os) (started : os.Started) (H : Type) (enc : TypeId × Value → H) :
    ReturnsInHanded {} Tryd.checked os 6 .any (fun w args => (Rows.fnExactNumbersTextSpec.pre enc Tryd.prog Tryd.f6 [] false w args ∧ laidMetH Tryd.prog Rows.fnExactNumbersTextRow.laid w) ∧ sizedMet enc Tryd.prog Tryd.f6 (OpenSpec.ofChange Rows.fnExactNumbersTextSpec) false w args)
      (Rows.fnExactNumbersTextSpec.post enc Tryd.prog Tryd.f6 false true false false) := by
  refine returnsInHanded_of_change_and (C := Tryd.checked) (X := fun w _ => laidMetH Tryd.prog Rows.fnExactNumbersTextRow.laid w) (fun _ _ _ hh h => h.of_heap hh) own started (by kernel_rfl) Tryd.func6
    (ChangeSpec.witness_shaped (enc := enc) (C := Tryd.checked) (os := os) (X := fun w _ => laidMetH Tryd.prog Rows.fnExactNumbersTextRow.laid w) false (World.doorLaid Tryd.prog 72 os) #[.slice none 0 0] 8 rfl (World.shaped_of_RefB (by kernel_rfl) (by kernel_rfl)) (by kernel_rfl) (by kernel_rfl) (by kernel_rfl) (door_met os _)) ?_
  intro W base args ds gs before hval0 hW _ hsz hL _
  have hval : ∀ (j : Nat) t v, Tryd.f6.params[j]? = some t → args[j]? = some v → Value.okWide Tryd.prog W .any base t v := hval0
  have hW' := hW
  obtain ⟨p, q, hA0, hV, rfl, hfz, hnd⟩ := hW
  have hA : DataW.TrodAll enc Tryd.prog W 0 (fun _ => true) true Tryd.f6.params.toList args.toList ds p := hA0
  rw [Tryd.params6] at hA hval
  obtain ⟨v0, vs0, d0, ds0, p0, q0, hargs, rfl, rfl, h0, r0⟩ := trodAll_cons hA
  obtain ⟨rfl, rfl, rfl⟩ := trodAll_nil r0
  obtain rfl : args = #[v0] := by cases args; simp_all
  obtain ⟨rfl, rfl⟩ := trodVars_none hV
  obtain ⟨a0, len0, cap0, rfl⟩ := okWide_slice Tryd.underlying32 (hval 0 32 v0 rfl rfl)
  have k0 := h0
  have lt0 : ∀ x ∈ p0, x.block < W.heap.size := by obtain ⟨m, hm⟩ := k0; exact DataW.trod_lt m _ _ _ hm
  obtain ⟨z0, w0⟩ : ∃ zs, FS .f32 W (.slice a0 len0 cap0) zs := open_floats Tryd.underlying32 Tryd.underlying53 (by kernel_rfl) h0
  clear hA0 hval0
  refine (walk a0 len0 cap0 z0 W w0 hL).mono fun e W' ⟨he, bel⟩ => ?_
  subst he
  exact ⟨_, rfl, _, _, _, [], _, [], hW', trodAll_mk1 (shut_bool Tryd.underlying4 _), (trodAll_cons_mk (Below.trod laidOut (by kernel_rfl) (of_decide_eq_true (by kernel_rfl)) k0 bel lt0) trodAll_mk0), rfl, bel.frame _, fun h => by cases h⟩

theorem over : Rows.FnExactNumbersTextSaid :=
  OpenClaim.holds_of_wide 6 Tryd.f6 rfl rfl rfl rfl rfl rfl rfl ⟨rfl, rfl, rfl, rfl, rfl⟩ rfl rfl rfl rfl rfl (by kernel_rfl) Tryd.func6 (by kernel_rfl)
    (of_decide_eq_true (by kernel_rfl)) (by unfold Func.isWrapper; first | (rw [if_pos (by decide +kernel)]; kernel_rfl) | (rw [if_neg (by decide +kernel)]; exact ⟨rfl, rfl⟩))
    (fun os started H enc _ => lifted os started H enc)

/-- The card: what the program's text lays is tied to it. -/
theorem proved : Rows.FnExactNumbersTextCardSaid :=
  Claim7.holds_tied_plain_at .later [] _ _ _ _ over (fun _ h => by cases h) (by kernel_rfl) (fun _ h => by cases h) fnExactNumbersText_row_tie rfl ⟨rfl, rfl⟩ (by kernel_rfl) rfl
    (fun f fn hf hfn => by
      obtain rfl : f = 6 := Option.some.inj ((show Tryd.prog.funcNamed Rows.fnExactNumbersTextRow.func = some 6 by kernel_rfl).symm.trans hf) |>.symm
      obtain rfl : fn = Tryd.f6 := (Option.some.inj (Tryd.func6.symm.trans hfn)).symm
      exact ⟨by kernel_rfl, fun j t ht => by
        rw [Tryd.params6] at ht
        have hm : t ∈ Tryd.f6.params.toList := by rw [Tryd.params6]; simpa using Array.mem_of_getElem? ht
        rw [Tryd.params6] at hm
        have hall : ((Tryd.f6.params.toList).all fun u => !Tryd.prog.wantsStandIn u) = true := by kernel_rfl
        rw [Tryd.params6] at hall
        exact (show Tryd.prog.wantsStandIn t = false by simpa using List.all_eq_true.1 hall t hm)⟩)
    (by kernel_rfl)
#print axioms proved
end Go.Proofs.YtnipdbphfnppeacDoor.fnExactNumbersText
