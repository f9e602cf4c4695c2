/- FnExactReadList: for every text the law returns true: ReadList answers as its model does, in both results, the list that it returns can be written to, and no later call turns it. The library's tables and errors are as the program's text lays them (the card ties them). No other condition. -/
import Derived.Test.YtnipdbphfnppeadDoorRows
import Derived.Test.YtnipdbphfnppeadDoorCards
import Derived.Test.YtnipdbphfnppeadDoorTie
import Derived.WalkKit
import Derived.ProofKit
import Derived.OpenShut
import Derived.ShutString
import Derived.ChangeOld
import Derived.Below
import Derived.Laws.Cover2
import Derived.LaidMore
import Derived.LaidSub
import Derived.MakeChecks
import Derived.Stop.Joined
import Derived.SevenTiedAt
import Derived.Lib.LaidTab
import Derived.Test.YtnipdbphfnppeadDoorRt
import Derived.Test.YtnipdbphfnppeadDoorMark
import Derived.Test.YtnipdbphfnppeadDoorHs
import Derived.Shelf.Vars
import Derived.Lay
namespace Go.Proofs.YtnipdbphfnppeadDoor.fnExactReadList
open Go.ChangeShapes Go.WideShapes Go.ChangeAt Go.RowKit Go.Dec Go.Nl
open Go.ChangeMaps (open_string shut_string)
set_option linter.unusedVariables false

theorem lays {W : World} (h : laidMetH Tryd.prog Rows.fnExactReadListRow.laid W) : Lays W := lays_of (by kernel_rfl) h (by rfl) (by rfl) (by rfl)

def resX (l : List UInt8) : List Int := (readL l).getD []
def resB (l : List UInt8) : Bool := (readL l).isSome

theorem rd_form {B : Nat} {l : List UInt8} {e : Ending} {w : World} (h : RdOut B l e w) : ∃ v, e = .returned (.tuple #[v, .bool (resB l)]) ∧ ROwn B w v (resX l) := by
  rcases h with ⟨xs, v, h1, h2, h3⟩ | ⟨h1, h2⟩
  · exact ⟨v, by rw [h2]; unfold resB; rw [h1]; rfl, by unfold resX; rw [h1]; exact h3⟩
  · exact ⟨_, by rw [h2]; unfold resB; rw [h1]; rfl, by unfold resX; rw [h1]; exact ⟨by simp, .inl ⟨rfl, rfl⟩⟩⟩

theorem resX_ok (l : List UInt8) : (resX l).length ≤ 64 ∧ ∀ x ∈ resX l, (Lit.int .i64 x).wf = true := by
  unfold resX readL
  by_cases h0 : l = [110, 111, 110, 101]
  · rw [if_pos h0]; simp
  · rw [if_neg h0]
    by_cases h1 : 64 < (cutL l).length
    · rw [if_pos h1]; simp
    · rw [if_neg h1]
      by_cases h2 : (cutL l).all readB = true
      · rw [if_pos h2]
        refine ⟨by simp; omega, ?_⟩
        intro x hx
        obtain ⟨p, hp, rfl⟩ := List.mem_map.1 (show x ∈ (cutL l).map valD from hx)
        obtain ⟨_, _, h3, h4, _⟩ := readB_true (List.all_eq_true.1 h2 p hp)
        simp [Lit.wf, IntKind.min, IntKind.max, IntKind.bits, IntKind.signed]
        omega
      · rw [if_neg h2]; simp

set_option maxHeartbeats 1000000 in
set_option maxRecDepth 100000 in
theorem walk (a0 : ByteArray) (W : World) (w0 : a0.size ≤ maxLen) (hL : laidMetH Tryd.prog Rows.fnExactReadListRow.laid W) (m : Int) (hm : W.cell? ⟨0, 0, none⟩ = some (.int .i64 m)) :
    Calls Tryd.prog 4 #[.string a0] W fun e w' => e = .returned (.bool true) ∧ Below W.heap.size W w' := by
  have hT := Lib.hid (lays hL)
  clear hL
  unfold maxLen at w0
  by_cases h : 1048576 < a0.size
  · have hd : decide ((1048576 : Int) < (a0.size : Int)) = true := decide_eq_true (by omega)
    clear hT
    go_enter Tryd.func4, Tryd.ntmps4
    go_wp2_with fail
    go_ret
    exact ⟨rfl, Below.refl _ _⟩
  · have hd : decide ((1048576 : Int) < (a0.size : Int)) = false := decide_eq_false (by omega)
    have hs : a0.size ≤ 1048576 := by omega
    clear h w0
    obtain ⟨hX1, hX2⟩ := resX_ok a0.data.toList
    have hlt0 : 0 < W.heap.size := block_lt_of_cell hm
    have HM := Lib.hid hm
    clear hm
    obtain ⟨xs, hxs⟩ : ∃ xs, resX a0.data.toList = xs := ⟨_, rfl⟩
    obtain ⟨b, hb⟩ : ∃ b, resB a0.data.toList = b := ⟨_, rfl⟩
    rw [hxs] at hX1 hX2
    have HX := Lib.hid hxs
    have HR := Lib.hid hb
    have HW := Lib.hid hX2
    clear hxs hb hX2
    have hq1 : decide ((xs.length : Int) + 1 < 0) = false := decide_eq_false (by omega)
    have hq2 : ((xs.length : Int) + 1 == (xs.length : Int) + 1) = true := by simp
    have hbb : (b == b) = true := by simp
    go_enter Tryd.func4, Tryd.ntmps4
    go_wp2_with fail
    refine (sReadList_any a0 _ hs).mono ?_; rintro e w1 ⟨h1, b1⟩; obtain ⟨v1, rfl, ho1⟩ := rd_form h1
    rw [HX.out] at ho1; rw [HR.out]
    have HT1 := Lib.hid (lays_on hT.out b1)
    have hm1 : w1.cell? ⟨0, 0, none⟩ = some (.int .i64 m) := by rw [b1.cell (p := ⟨0, 0, none⟩) hlt0]; exact HM.out
    have HO1 := Lib.hid ho1
    have HM1 := Lib.hid hm1
    have HB1 := Lib.hid b1
    have hz1 := b1.size
    clear h1 ho1 hm1 b1
    go_wp2_with fail
    refine (iReadList_any a0 _ hs HT1.out m HM1.out).mono ?_; rintro e w2 ⟨h2, b2⟩; obtain ⟨v2, rfl, ho2⟩ := rd_form h2
    rw [HX.out] at ho2; rw [HR.out]
    have HN1 := Lib.hid ((rown_NS HO1.out HW.out).below b2)
    have HN2 := Lib.hid (rown_NS ho2 HW.out)
    have HO2 := Lib.hid ho2
    have HB2 := Lib.hid b2
    have hz2 := b2.size
    clear h2 ho2 b2
    go_wp2_with fail
    refine (eqI_any v2 v1 xs _ HN2.out HN1.out (by omega)).mono ?_; rintro e w' ⟨rfl, n2, rfl⟩
    go_wp2_with fail
    refine (markI_any w1.heap.size v2 xs (w2.drewN n2) HO2.out (by omega)).mono ?_; rintro e w3 ⟨rfl, ho3, b3⟩
    have HB3 := Lib.hid ((below_drewN HB2.out n2).trans b3)
    have HN3 := Lib.hid (rown_NS ho3 (marksI_wf (by omega : xs.length ≤ 1048576)))
    have hz3 : w2.heap.size ≤ w3.heap.size := b3.size
    clear ho3 b3
    go_wp2_with fail
    refine (heldI_any v2 xs.length _ HN3.out (by omega)).mono ?_; rintro e w' ⟨rfl, n3, rfl⟩
    have HB4 := Lib.hid (HB1.out.trans ((below_drewN HB3.out n3).mono hz1))
    have HT4 := Lib.hid (lays_on hT.out HB4.out)
    have hm4 : (w3.drewN n3).cell? ⟨0, 0, none⟩ = some (.int .i64 m) := by rw [HB4.out.cell (p := ⟨0, 0, none⟩) hlt0]; exact HM.out
    have HM4 := Lib.hid hm4
    clear hm4
    go_wp2_with fail
    refine (iReadList_any a0 _ hs HT4.out m HM4.out).mono ?_; rintro e w5 ⟨h5, b5⟩; obtain ⟨v5, rfl, ho5⟩ := rd_form h5
    rw [HX.out] at ho5; rw [HR.out]
    have hz5 : w3.heap.size ≤ w5.heap.size := b5.size
    have HN5 := Lib.hid (rown_NS ho5 HW.out)
    have HN6 := Lib.hid ((rown_NS HO1.out HW.out).below ((below_drewN HB3.out n3).trans (b5.mono (Nat.le_trans hz2 hz3))))
    have HN7 := Lib.hid ((HN3.out.drewN n3).below b5)
    have HB5 := Lib.hid (HB4.out.trans (b5.mono (Nat.le_trans hz1 (Nat.le_trans hz2 hz3))))
    clear h5 ho5 b5
    go_wp2_with fail
    refine (eqI_any v5 v1 xs _ HN5.out HN6.out (by omega)).mono ?_; rintro e w' ⟨rfl, n5, rfl⟩
    go_wp2_with fail
    refine (heldI_any v2 xs.length (w5.drewN n5) (HN7.out.drewN n5) (by omega)).mono ?_; rintro e w' ⟨rfl, n6, rfl⟩
    go_wp2_with fail
    go_ret
    exact ⟨rfl, below_drewN HB5.out _⟩

/-! ### from the walk to the statement -/
theorem own : ownKnob Tryd.prog.godebug = none := by kernel_rfl
theorem laidOut : laidOutB Tryd.prog = true := by kernel_rfl
set_option maxRecDepth 100000 in
theorem lifted (os : Os) (started : os.Started) (H : Type) (enc : TypeId × Value → H) :
    ReturnsInHanded {} Tryd.checked os 4 .any (fun w args => (Rows.fnExactReadListSpec.pre enc Tryd.prog Tryd.f4 [] false w args ∧ laidMetH Tryd.prog Rows.fnExactReadListRow.laid w) ∧ sizedMet enc Tryd.prog Tryd.f4 (OpenSpec.ofChange Rows.fnExactReadListSpec) false w args)
      (Rows.fnExactReadListSpec.post enc Tryd.prog Tryd.f4 false true false false) := by
  refine handed_shaped (C := Tryd.checked) own started (by kernel_rfl) Tryd.func4
    (ChangeSpec.witness_shaped (enc := enc) (C := Tryd.checked) (os := os) (X := fun w _ => laidMetH Tryd.prog Rows.fnExactReadListRow.laid w) false (World.laidAll Tryd.prog os Rows.fnExactReadListRow.laid) #[.string ByteArray.empty] 8 (World.laidAll_os _ _ _) (World.shaped_of_ZipB (by kernel_rfl) (by kernel_rfl)) (by kernel_rfl) (by kernel_rfl) (by kernel_rfl) (by rw [MakeChecks.laidMetH_plain _ _ _ (by kernel_rfl)]; exact laidMet_laidAll _ (by kernel_rfl) (by kernel_rfl))) ?_
  intro W base args ds gs before hval0 hW hL hS
  obtain ⟨m, hm⟩ := cell_of_shapedOpen_int (k := .i64) (g := 0) (t := 3) (zero := #[.int .i64 0]) hS (of_decide_eq_true (by kernel_rfl)) (by kernel_rfl) rfl (by kernel_rfl) (by kernel_rfl) Tryd.underlying3
  have hval : ∀ (j : Nat) t v, Tryd.f4.params[j]? = some t → args[j]? = some v → Value.okWide Tryd.prog W .any base t v := hval0
  have hW' := hW
  obtain ⟨p, q, hA0, hV, rfl, hfz, hnd⟩ := hW
  have hA : DataW.TrodAll enc Tryd.prog W 0 (fun _ => true) true Tryd.f4.params.toList args.toList ds p := hA0
  rw [Tryd.params4] at hA hval
  obtain ⟨v0, vs0, d0, ds0, p0, q0, hargs, rfl, rfl, h0, r0⟩ := trodAll_cons hA
  obtain ⟨rfl, rfl, rfl⟩ := trodAll_nil r0
  obtain rfl : args = #[v0] := by cases args; simp_all
  obtain ⟨rfl, rfl⟩ := trodVars_none hV
  obtain ⟨a0, rfl, rfl, rfl, w0⟩ := open_string Tryd.underlying9 (hval 0 9 v0 rfl rfl) h0
  clear hA0 hval0
  refine (walk a0 W w0 hL m hm).mono fun e W' ⟨he, bel⟩ => ?_
  subst he
  exact ⟨_, rfl, _, _, _, [], _, [], hW', trodAll_mk1 (shut_bool Tryd.underlying4 _), (trodAll_cons_mk (shut_string Tryd.underlying9 w0) trodAll_mk0), rfl, bel.frame _, fun h => by cases h⟩

theorem over : Rows.FnExactReadListSaid :=
  OpenClaim.holds_of_wide 4 Tryd.f4 rfl rfl rfl rfl rfl rfl rfl ⟨rfl, rfl, rfl, rfl, rfl⟩ rfl rfl rfl rfl rfl (by kernel_rfl) Tryd.func4 (by kernel_rfl)
    (of_decide_eq_true (by kernel_rfl)) (by unfold Func.isWrapper; first | (rw [if_pos (by decide +kernel)]; kernel_rfl) | (rw [if_neg (by decide +kernel)]; exact ⟨rfl, rfl⟩))
    (fun os started H enc _ => lifted os started H enc)

/-- The card: what the program's text lays is tied to it. -/
theorem proved : Rows.FnExactReadListCardSaid :=
  Claim7.holds_tied_plain_at .later [] _ _ _ _ over (fun _ h => by cases h) (by kernel_rfl) (fun _ h => by cases h) fnExactReadList_row_tie rfl ⟨rfl, rfl⟩ (by kernel_rfl) rfl
    (fun f fn hf hfn => by
      obtain rfl : f = 4 := Option.some.inj ((show Tryd.prog.funcNamed Rows.fnExactReadListRow.func = some 4 by kernel_rfl).symm.trans hf) |>.symm
      obtain rfl : fn = Tryd.f4 := (Option.some.inj (Tryd.func4.symm.trans hfn)).symm
      exact ⟨by kernel_rfl, fun j t ht => by
        rw [Tryd.params4] at ht
        have hm : t ∈ Tryd.f4.params.toList := by rw [Tryd.params4]; simpa using Array.mem_of_getElem? ht
        rw [Tryd.params4] at hm
        have hall : ((Tryd.f4.params.toList).all fun u => !Tryd.prog.wantsStandIn u) = true := by kernel_rfl
        rw [Tryd.params4] at hall
        exact (show Tryd.prog.wantsStandIn t = false by simpa using List.all_eq_true.1 hall t hm)⟩)
    (by kernel_rfl)
#print axioms proved
end Go.Proofs.YtnipdbphfnppeadDoor.fnExactReadList
