/- FnExactIsField: for every grid and every list of 32-bit numbers the law returns true: IsField answers as its model does, and its list reads as before. No condition. -/
import Derived.Test.YtnimmmcpdicajaaRows
import Derived.WalkKit
import Derived.ProofKit
import Derived.OpenShut
import Derived.ShutString
import Derived.ChangeOld
import Derived.Below
import Derived.Laws.Cover2
import Derived.Test.YtnimmmcpdicajaaFields
namespace Go.Proofs.Ytnimmmcpdicajaa.fnExactIsField
open Go.ChangeShapes Go.WideShapes Go.ChangeAt Go.RowKit Go.Fl
open Go.ChangeMaps (open_string shut_string)
set_option linter.unusedVariables false

theorem walk (a0 b0 : Int) (a1 : Option Addr) (len1 cap1 : Nat) (z1 : List Nat) (w : World) (w0 : (Lit.int .i64 a0).wf = true) (x0 : (Lit.int .i64 b0).wf = true) (w1 : FS .f32 w (.slice a1 len1 cap1) z1) :
    Calls Try.prog 4 #[GV a0 b0, .slice a1 len1 cap1] w fun e w' => e = .returned (.bool true) ∧ Below w.heap.size w w' := by
  clear w0 x0
  obtain ⟨e1, W1⟩ := fs_open w1
  subst e1
  have HV := Lib.hid w1; have HW := Lib.hid W1.2
  have hcm := W1.1
  clear w1 W1
  have hb0 := (Below.refl w.heap.size w).alloc (Nat.le_refl _) (.cells #[.int .i64 a0, .int .i64 b0] 23)
  by_cases q1 : 1048576 < z1.length
  · have hd1 : decide ((1048576 : Int) < (z1.length : Int)) = true := by simp; omega
    go_enter Try.func4, Try.ntmps4
    go_wp2_with fail
    go_ret
    exact ⟨rfl, hb0⟩
  have hd1 : decide ((1048576 : Int) < (z1.length : Int)) = false := by simp; omega
  have hn1 : z1.length ≤ 1048576 := by omega
  clear q1
  obtain ⟨ok, hok⟩ : ∃ ok, fieldOk a0 b0 z1.length = ok := ⟨_, rfl⟩
  have HOK := Lib.hid hok
  have hp := gp_new w a0 b0 23
  have hc0 := hp.cells.1
  have hc1 := hp.cells.2
  have HG := Lib.hid hp
  clear hok hp
  go_enter Try.func4, Try.ntmps4
  go_wp2_with fail
  clear hd1 hc0 hc1
  generalize w.alloc (.cells #[.int .i64 a0, .int .i64 b0] 23) = w1 at hb0 HG ⊢
  have HU := Lib.hid (HV.out.below hb0)
  refine (toGrid_any a0 b0 _).mono ?_; rintro e w2 ⟨rfl, hb2⟩
  go_wp2_with fail
  refine (toF_any _ z1 _ (HU.out.below hb2) hn1).mono ?_; rintro e w3 ⟨⟨g3, rfl, ho3⟩, hb3⟩
  have D3 := hb2.trans (hb3.mono hb2.size)
  clear ho3
  go_wp2_with fail
  refine (sIsField_any a0 b0 _ _ _ _).mono ?_; rw [HOK.out]; rintro e w4 ⟨rfl, hb4⟩
  have D4 := D3.trans (hb4.mono D3.size)
  go_wp2_with fail
  refine (toF_any _ z1 _ (HU.out.below D4) hn1).mono ?_; rintro e w5 ⟨⟨g5, rfl, ho5⟩, hb5⟩
  have D5 := D4.trans (hb5.mono D4.size)
  have O5 := Lib.hid (show FOwn w4.heap.size w5 (.slice (some ⟨g5, 0, none⟩) z1.length z1.length) z1 from ho5)
  clear ho5
  have hc0 := (GP.below HG.out D5).cells.1
  have hc1 := (GP.below HG.out D5).cells.2
  go_wp2_with fail
  clear hc0 hc1
  refine (toGrid_any a0 b0 _).mono ?_; rintro e w6 ⟨rfl, hb6⟩
  have D6 := D5.trans (hb6.mono D5.size)
  replace O5 := Lib.hid (fown_below O5.out hb6)
  go_wp2_with fail
  refine (iIsField_any a0 b0 _ _ _ _).mono ?_; rw [HOK.out]; rintro e w7 ⟨rfl, hb7⟩
  have D7 := D6.trans (hb7.mono D6.size)
  replace O5 := Lib.hid (fown_below O5.out hb7)
  go_wp2_with fail
  refine (toF_any _ z1 _ (HU.out.below D7) hn1).mono ?_; rintro e w8 ⟨⟨g8, rfl, ho8⟩, hb8⟩
  have D8 := D7.trans (hb8.mono D7.size)
  replace O5 := Lib.hid (fown_below O5.out hb8)
  have O8 := Lib.hid (show FOwn w7.heap.size w8 (.slice (some ⟨g8, 0, none⟩) z1.length z1.length) z1 from ho8)
  clear ho8
  go_wp2_with fail
  refine (eqF_any _ _ z1 z1 _ (fown_FS O5.out HW.out) (fown_FS O8.out HW.out) rfl hn1 (fun _ _ => rfl)).mono ?_; rintro e w' ⟨rfl, m, rfl⟩
  go_wp2_with fail
  go_ret
  exact ⟨rfl, below_drewN (hb0.trans (D8.mono hb0.size)) m⟩
/-! ### from the walk to the statement -/
theorem own : ownKnob Try.prog.godebug = none := by kernel_rfl
theorem laidOut : laidOutB Try.prog = true := by kernel_rfl
set_option maxRecDepth 100000 in
theorem lifted (os : Os) (started : os.Started) (H : Type) (enc : TypeId × Value → H) :
    ReturnsInHanded {} Try.checked os 4 .any (Rows.fnExactIsFieldSpec.pre6 enc Try.prog Try.f4 Rows.fnExactIsFieldRow.domain false) (Rows.fnExactIsFieldSpec.post enc Try.prog Try.f4 false true false false) := by
  refine returnsInHanded_of_change (C := Try.checked) own started (by kernel_rfl) Try.func4
    (ChangeSpec.witness6 (enc := enc) (C := Try.checked) false ⟨#[], #[.agg #[.int .i64 0, .int .i64 0], .slice none 0 0], []⟩ 8 (by kernel_rfl) (by kernel_rfl) (by kernel_rfl) (by kernel_rfl)) ?_
  intro W base args ds gs before hval0 hW hcnd _
  have hval : ∀ (j : Nat) t v, Try.f4.params[j]? = some t → args[j]? = some v → Value.okWide Try.prog W .any base t v := hval0
  have hW' := hW
  obtain ⟨p, q, hA0, hV, rfl, hfz, hnd⟩ := hW
  have hA : DataW.TrodAll enc Try.prog W 0 (fun _ => true) true Try.f4.params.toList args.toList ds p := hA0
  rw [Try.params4] at hA hval
  obtain ⟨v0, vs0, d0, ds0, p0, q0, hargs, rfl, rfl, h0, r0⟩ := trodAll_cons hA
  obtain ⟨v1, vs1, d1, ds1, p1, q1, rfl, rfl, rfl, h1, r1⟩ := trodAll_cons r0
  obtain ⟨rfl, rfl, rfl⟩ := trodAll_nil r1
  obtain rfl : args = #[v0, v1] := by cases args; simp_all
  obtain ⟨rfl, rfl⟩ := trodVars_none hV
  obtain ⟨a0, b0, rfl, rfl, rfl, w0, x0⟩ := open_pair Try.underlying23 Try.underlying2 (by kernel_rfl) (by kernel_rfl) (hval 0 23 v0 rfl rfl) h0
  obtain ⟨a1, len1, cap1, rfl⟩ := okWide_slice Try.underlying28 (hval 1 28 v1 rfl rfl)
  have k1 := h1
  have lt1 : ∀ x ∈ p1, x.block < W.heap.size := by obtain ⟨m, hm⟩ := k1; exact DataW.trod_lt m _ _ _ hm
  obtain ⟨z1, w1⟩ : ∃ zs, FS .f32 W (.slice a1 len1 cap1) zs := open_floats Try.underlying28 Try.underlying37 (by kernel_rfl) h1
  clear hA0 hval0
  refine (walk a0 b0 a1 len1 cap1 z1 W w0 x0 w1).mono fun e W' ⟨he, bel⟩ => ?_
  subst he
  exact ⟨_, rfl, _, _, _, [], _, [], hW', trodAll_mk1 (shut_bool Try.underlying4 _), (trodAll_cons_mk (shut_pair Try.underlying23 Try.underlying2 (by kernel_rfl) (by kernel_rfl) w0 x0) (trodAll_cons_mk (Below.trod laidOut (by kernel_rfl) (of_decide_eq_true (by kernel_rfl)) k1 bel lt1) trodAll_mk0)), rfl, bel.frame _, fun h => by cases h⟩

theorem over : Rows.fnExactIsFieldRow.holds Try.pinned (OpenSpec.ofChange Rows.fnExactIsFieldSpec) :=
  OpenClaim.holds_of_wide 4 Try.f4 rfl rfl rfl rfl rfl rfl rfl ⟨rfl, rfl, rfl, rfl, rfl⟩ rfl rfl rfl rfl rfl (by kernel_rfl) Try.func4 (by kernel_rfl)
    (of_decide_eq_true (by kernel_rfl)) (by unfold Func.isWrapper; first | (rw [if_pos (by decide +kernel)]; kernel_rfl) | (rw [if_neg (by decide +kernel)]; exact ⟨rfl, rfl⟩))
    (fun os started H enc _ => lifted os started H enc)

/-- The statement. -/
theorem proved : Rows.FnExactIsFieldSaid := over
#print axioms proved
end Go.Proofs.Ytnimmmcpdicajaa.fnExactIsField
