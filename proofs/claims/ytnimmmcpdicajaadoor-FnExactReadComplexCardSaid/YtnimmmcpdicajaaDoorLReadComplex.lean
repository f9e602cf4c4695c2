/- FnExactReadComplex: for every text the law returns true: ReadComplex answers as its model does, in both results, the list that it returns can be written to, and no later call turns it. The library's tables and errors are as the program's text lays them (the card ties them). No other condition. -/
import Derived.Test.YtnimmmcpdicajaaDoorRows
import Derived.Test.YtnimmmcpdicajaaDoorCards
import Derived.Test.YtnimmmcpdicajaaDoorTie
import Derived.WalkKit
import Derived.ProofKit
import Derived.OpenShut
import Derived.ShutString
import Derived.ChangeOld
import Derived.Below
import Derived.Laws.Cover2
import Derived.LaidMore
import Derived.LaidSub
import Derived.MakeChecks
import Derived.Stop.Joined
import Derived.SevenTiedAt
import Derived.Lib.LaidTab
import Derived.Test.YtnimmmcpdicajaaDoorRdCS
import Derived.Test.YtnimmmcpdicajaaDoorClM
import Derived.Test.YtnimmmcpdicajaaDoorHs
import Derived.Stop.LaidErr
import Derived.Shelf.Vars
import Derived.Lay
namespace Go.Proofs.YtnimmmcpdicajaaDoor.fnExactReadComplex
open Go.ChangeShapes Go.WideShapes Go.ChangeAt Go.RowKit Go.Fl
open Go.ChangeMaps (open_string shut_string)
set_option linter.unusedVariables false

def dB64 : List Int := [0, 1, 56, 2, 57, 49, 28, 3, 61, 58, 42, 50, 38, 29, 17, 4, 62, 47, 59, 36, 45, 43, 51, 22, 53, 39, 33, 30, 24, 18, 12, 5, 63, 55, 48, 27, 60, 41, 37, 16, 46, 35, 44, 21, 52, 32, 23, 11, 54, 26, 40, 15, 34, 20, 31, 10, 25, 14, 19, 9, 13, 8, 7, 6]
theorem gTz : Tryd.prog.globalNamed "math/bits.deBruijn64tab" = some 8 := by kernel_rfl
theorem gSyn : Tryd.prog.globalNamed "strconv.ErrSyntax" = some 2 := by kernel_rfl
theorem synType : (Tryd.prog.globals[2]?).map (·.type) = some 52 := by kernel_rfl
theorem gRng : Tryd.prog.globalNamed "strconv.ErrRange" = some 3 := by kernel_rfl
theorem rngType : (Tryd.prog.globals[3]?).map (·.type) = some 52 := by kernel_rfl
theorem star : "*" ++ "errors.errorString" = "*errors.errorString" := by decide
theorem errRow (u : TypeId) (h : Tryd.prog.typeName? 3 u = some "*errors.errorString") : u = 104 :=
  typeName_ptr_named (P := Tryd.prog) (nm := "errors.errorString") (by rw [star]; kernel_rfl) (by kernel_rfl) (by decide) u (by rw [star]; exact h)

theorem lays {W : World} (h : laidMetH Tryd.prog Rows.fnExactReadComplexRow.laid W) : LaysF W := by
  have h1 := h.filter (fun x => x.1 == "math/bits.deBruijn64tab")
  rw [MakeChecks.laidMetH_plain _ _ _ (by kernel_rfl)] at h1 h
  have h2 : Lib.TabIs Tryd.prog W "math/bits.deBruijn64tab" .u8 dB64 := Lib.tabIs_of_head (rest := []) gTz (show (Tryd.prog.globals[8]?).map (·.type) = some 121 by kernel_rfl) Tryd.underlying121 Tryd.underlying5 (by kernel_rfl) (by kernel_rfl) h1
  have k2 := h.filter (fun x => x.1 == "strconv.ErrSyntax")
  have k3 := h.filter (fun x => x.1 == "strconv.ErrRange")
  rw [show List.filter (fun x => x.1 == "strconv.ErrSyntax") Rows.fnExactReadComplexRow.laid = [("strconv.ErrSyntax", Rows.laid_strconv_ErrSyntax)] from by rfl] at k2
  rw [show List.filter (fun x => x.1 == "strconv.ErrRange") Rows.fnExactReadComplexRow.laid = [("strconv.ErrRange", Rows.laid_strconv_ErrRange)] from by rfl] at k3
  obtain ⟨a1, s1, v1, _⟩ := laid_sentinel k2 gSyn synType Tryd.underlying52 errRow Tryd.underlying104 Tryd.underlying106 rfl rfl Tryd.underlying9 (by kernel_rfl) (by kernel_rfl)
  obtain ⟨a2, s2, v2, _⟩ := laid_sentinel k3 gRng rngType Tryd.underlying52 errRow Tryd.underlying104 Tryd.underlying106 rfl rfl Tryd.underlying9 (by kernel_rfl) (by kernel_rfl)
  exact ⟨⟨_, _, show W.cell? ⟨2, 0, none⟩ = _ from by have h0 := World.var?_cell gSyn v1 0; simpa using h0⟩, ⟨_, _, show W.cell? ⟨3, 0, none⟩ = _ from by have h0 := World.var?_cell gRng v2 0; simpa using h0⟩, h2.cell gTz 15 (by decide)⟩

def resX (l : List UInt8) : List (Nat × Nat) := (readC l).getD []
def resB (l : List UInt8) : Bool := (readC l).isSome

theorem rd_form {B : Nat} {l : List UInt8} {e : Ending} {w : World} (h : RdC B l e w) : ∃ v, e = .returned (.tuple #[v, .bool (resB l)]) ∧ COwn B w v (resX l) := by
  rcases h with ⟨xs, v, h1, h2, h3⟩ | ⟨h1, h2⟩
  · exact ⟨v, by rw [h2]; unfold resB; rw [h1]; rfl, by unfold resX; rw [h1]; exact h3⟩
  · exact ⟨_, by rw [h2]; unfold resB; rw [h1]; rfl, by unfold resX; rw [h1]; exact ⟨by simp, .inl ⟨rfl, rfl⟩⟩⟩
theorem resX_ok (l : List UInt8) : (resX l).length ≤ 256 ∧ c32 (resX l) := by
  unfold resX
  cases h : readC l with
  | none => exact ⟨by simp, fun p hp => by cases hp⟩
  | some xs => exact readC_ok l xs h

set_option maxHeartbeats 2000000 in
set_option maxRecDepth 100000 in
theorem walk (a0 : ByteArray) (W : World) (w0 : a0.size ≤ maxLen) (hL : laidMetH Tryd.prog Rows.fnExactReadComplexRow.laid W) (m : Int) (hm : W.cell? ⟨1, 0, none⟩ = some (.int .i64 m)) :
    Calls Tryd.prog 4 #[.string a0] W fun e w' => e = .returned (.bool true) ∧ Below W.heap.size W w' := by
  have hT := Lib.hid (lays hL)
  clear hL
  unfold maxLen at w0
  by_cases h : 1048576 < a0.size
  · have hd : decide ((1048576 : Int) < (a0.size : Int)) = true := decide_eq_true (by omega)
    clear hT
    go_enter Tryd.func4, Tryd.ntmps4
    go_wp2_with fail
    go_ret
    exact ⟨rfl, Below.refl _ _⟩
  · have hd : decide ((1048576 : Int) < (a0.size : Int)) = false := decide_eq_false (by omega)
    have hs : a0.size ≤ 1048576 := by omega
    clear h w0
    obtain ⟨hX1, hX2⟩ := resX_ok a0.data.toList
    have hlt0 : 1 < W.heap.size := block_lt_of_cell hm
    have HM := Lib.hid hm
    clear hm
    obtain ⟨xs, hxs⟩ : ∃ xs, resX a0.data.toList = xs := ⟨_, rfl⟩
    obtain ⟨b, hb⟩ : ∃ b, resB a0.data.toList = b := ⟨_, rfl⟩
    rw [hxs] at hX1 hX2
    have HX := Lib.hid hxs
    have HR := Lib.hid hb
    have HW := Lib.hid hX2
    clear hxs hb hX2
    go_enter Tryd.func4, Tryd.ntmps4
    go_wp2_with fail
    refine (sReadComplex_any a0 _ hs).mono ?_; rintro e w1 ⟨h1, b1⟩; obtain ⟨v1, rfl, ho1⟩ := rd_form h1
    rw [HX.out] at ho1; rw [HR.out]
    have HO1 := Lib.hid ho1
    have R1 := Lib.hid ho1.lt
    have D1 := Lib.hid b1
    clear h1 ho1 b1
    go_wp2_with fail
    refine (iReadComplex_any a0 _ hs (hT.out.on D1.out) m (by rw [D1.out.cell (p := ⟨_, 0, none⟩) hlt0]; exact HM.out)).mono ?_; rintro e w2 ⟨h2, b2⟩; obtain ⟨v2, rfl, ho2⟩ := rd_form h2
    rw [HX.out] at ho2; rw [HR.out]
    have D2 := Lib.hid (D1.out.trans (b2.mono D1.out.size))
    have S2 := Lib.hid b2.size
    replace HO1 := Lib.hid (cown_below HO1.out b2)
    have HO2 := Lib.hid ho2
    have R2 := Lib.hid ho2.lt
    clear h2 ho2 b2
    go_wp2_with fail
    refine (eqC_any _ _ v2 v1 xs _ HO2.out HO1.out HW.out (by omega)).mono ?_; rintro e w' ⟨rfl, n2, rfl⟩
    have D3 := Lib.hid (below_drewN D2.out n2)
    have HO1' := Lib.hid (cown_below HO1.out (below_drewN (Below.refl w2.heap.size w2) n2))
    have HO2' := Lib.hid (cown_below HO2.out (below_drewN (Below.refl w2.heap.size w2) n2))
    have S3 := Lib.hid (show w2.heap.size ≤ (w2.drewN n2).heap.size from Nat.le_refl _)
    generalize w2.drewN n2 = w3 at D3 HO1' HO2' S3 ⊢
    go_wp2_with fail
    refine (markC_any _ v2 xs _ HO2'.out (by omega)).mono ?_; rintro e w4 ⟨rfl, ho, hg⟩
    have HO1'' := Lib.hid (cown_grown HO1'.out hg (apart R1.out R2.out (.inl (Nat.le_refl _))))
    have D4 := Lib.hid (D3.out.grown hg D3.out.size (fun k hk => by have h1 := (R2.out k hk).1; have := D1.out.size; omega))
    have HM4 := Lib.hid ho
    clear ho hg HO2 HO2' HO1 HO1'
    go_wp2_with fail
    refine (heldC_any _ v2 xs.length _ HM4.out (by omega)).mono ?_; rintro e w' ⟨rfl, n4, rfl⟩
    have D5 := Lib.hid (below_drewN D4.out n4)
    have HO15 := Lib.hid (cown_below HO1''.out (below_drewN (Below.refl w4.heap.size w4) n4))
    have HM5 := Lib.hid (cown_below HM4.out (below_drewN (Below.refl w4.heap.size w4) n4))
    generalize w4.drewN n4 = w5 at D5 HO15 HM5 ⊢
    go_wp2_with fail
    refine (iReadComplex_any a0 _ hs (hT.out.on D5.out) m (by rw [D5.out.cell (p := ⟨_, 0, none⟩) hlt0]; exact HM.out)).mono ?_; rintro e w6 ⟨h6, b6⟩; obtain ⟨v6, rfl, ho6⟩ := rd_form h6
    rw [HX.out] at ho6; rw [HR.out]
    have D6 := Lib.hid (D5.out.trans (b6.mono D5.out.size))
    have HO16 := Lib.hid (cown_below HO15.out b6)
    have HM6 := Lib.hid (cown_below HM5.out b6)
    have HO6 := Lib.hid ho6
    clear h6 ho6 b6 HO15 HM5 HM4 HO1''
    go_wp2_with fail
    refine (eqC_any _ _ v6 v1 xs _ HO6.out HO16.out HW.out (by omega)).mono ?_; rintro e w' ⟨rfl, n6, rfl⟩
    have D7 := Lib.hid (below_drewN D6.out n6)
    have HM7 := Lib.hid (cown_below HM6.out (below_drewN (Below.refl w6.heap.size w6) n6))
    generalize w6.drewN n6 = w7 at D7 HM7 ⊢
    go_wp2_with fail
    refine (heldC_any _ v2 xs.length _ HM7.out (by omega)).mono ?_; rintro e w' ⟨rfl, n7, rfl⟩
    go_wp2_with fail
    go_ret
    exact ⟨rfl, below_drewN D7.out _⟩

/-! ### from the walk to the statement -/
theorem own : ownKnob Tryd.prog.godebug = none := by kernel_rfl
theorem laidOut : laidOutB Tryd.prog = true := by kernel_rfl
set_option maxRecDepth 100000 in
theorem lifted (os : Os) (started : os.Started) (H : Type) (enc : TypeId × Value → H) :
    ReturnsInHanded {} Tryd.checked os 4 .any (fun w args => (Rows.fnExactReadComplexSpec.pre enc Tryd.prog Tryd.f4 [] false w args ∧ laidMetH Tryd.prog Rows.fnExactReadComplexRow.laid w) ∧ sizedMet enc Tryd.prog Tryd.f4 (OpenSpec.ofChange Rows.fnExactReadComplexSpec) false w args)
      (Rows.fnExactReadComplexSpec.post enc Tryd.prog Tryd.f4 false true false false) := by
  refine handed_shaped (C := Tryd.checked) own started (by kernel_rfl) Tryd.func4
    (ChangeSpec.witness_shaped (enc := enc) (C := Tryd.checked) (os := os) (X := fun w _ => laidMetH Tryd.prog Rows.fnExactReadComplexRow.laid w) false (World.laidAll Tryd.prog os Rows.fnExactReadComplexRow.laid) #[.string ByteArray.empty] 8 (World.laidAll_os _ _ _) (World.shaped_of_ZipB (by kernel_rfl) (by kernel_rfl)) (by kernel_rfl) (by kernel_rfl) (by kernel_rfl) (by rw [MakeChecks.laidMetH_plain _ _ _ (by kernel_rfl)]; exact laidMet_laidAll _ (by kernel_rfl) (by kernel_rfl))) ?_
  intro W base args ds gs before hval0 hW hL hS
  obtain ⟨m, hm⟩ := cell_of_shapedOpen_int (k := .i64) (g := 1) (t := 3) (zero := #[.int .i64 0]) hS (of_decide_eq_true (by kernel_rfl)) (by kernel_rfl) rfl (by kernel_rfl) (by kernel_rfl) Tryd.underlying3
  have hval : ∀ (j : Nat) t v, Tryd.f4.params[j]? = some t → args[j]? = some v → Value.okWide Tryd.prog W .any base t v := hval0
  have hW' := hW
  obtain ⟨p, q, hA0, hV, rfl, hfz, hnd⟩ := hW
  have hA : DataW.TrodAll enc Tryd.prog W 0 (fun _ => true) true Tryd.f4.params.toList args.toList ds p := hA0
  rw [Tryd.params4] at hA hval
  obtain ⟨v0, vs0, d0, ds0, p0, q0, hargs, rfl, rfl, h0, r0⟩ := trodAll_cons hA
  obtain ⟨rfl, rfl, rfl⟩ := trodAll_nil r0
  obtain rfl : args = #[v0] := by cases args; simp_all
  obtain ⟨rfl, rfl⟩ := trodVars_none hV
  obtain ⟨a0, rfl, rfl, rfl, w0⟩ := open_string Tryd.underlying9 (hval 0 9 v0 rfl rfl) h0
  clear hA0 hval0
  refine (walk a0 W w0 hL m hm).mono fun e W' ⟨he, bel⟩ => ?_
  subst he
  exact ⟨_, rfl, _, _, _, [], _, [], hW', trodAll_mk1 (shut_bool Tryd.underlying4 _), (trodAll_cons_mk (shut_string Tryd.underlying9 w0) trodAll_mk0), rfl, bel.frame _, fun h => by cases h⟩

theorem over : Rows.FnExactReadComplexSaid :=
  OpenClaim.holds_of_wide 4 Tryd.f4 rfl rfl rfl rfl rfl rfl rfl ⟨rfl, rfl, rfl, rfl, rfl⟩ rfl rfl rfl rfl rfl (by kernel_rfl) Tryd.func4 (by kernel_rfl)
    (of_decide_eq_true (by kernel_rfl)) (by unfold Func.isWrapper; first | (rw [if_pos (by decide +kernel)]; kernel_rfl) | (rw [if_neg (by decide +kernel)]; exact ⟨rfl, rfl⟩))
    (fun os started H enc _ => lifted os started H enc)

/-- The card: what the program's text lays is tied to it. -/
theorem proved : Rows.FnExactReadComplexCardSaid :=
  Claim7.holds_tied_plain_at .later [] _ _ _ _ over (fun _ h => by cases h) (by kernel_rfl) (fun _ h => by cases h) fnExactReadComplex_row_tie rfl ⟨rfl, rfl⟩ (by kernel_rfl) rfl
    (fun f fn hf hfn => by
      obtain rfl : f = 4 := Option.some.inj ((show Tryd.prog.funcNamed Rows.fnExactReadComplexRow.func = some 4 by kernel_rfl).symm.trans hf) |>.symm
      obtain rfl : fn = Tryd.f4 := (Option.some.inj (Tryd.func4.symm.trans hfn)).symm
      exact ⟨by kernel_rfl, fun j t ht => by
        rw [Tryd.params4] at ht
        have hm : t ∈ Tryd.f4.params.toList := by rw [Tryd.params4]; simpa using Array.mem_of_getElem? ht
        rw [Tryd.params4] at hm
        have hall : ((Tryd.f4.params.toList).all fun u => !Tryd.prog.wantsStandIn u) = true := by kernel_rfl
        rw [Tryd.params4] at hall
        exact (show Tryd.prog.wantsStandIn t = false by simpa using List.all_eq_true.1 hall t hm)⟩)
    (by kernel_rfl)
#print axioms proved
end Go.Proofs.YtnimmmcpdicajaaDoor.fnExactReadComplex
