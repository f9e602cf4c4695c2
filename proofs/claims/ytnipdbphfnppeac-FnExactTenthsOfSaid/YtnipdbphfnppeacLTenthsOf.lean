/- FnExactTenthsOf: for every 32-bit number the law returns true: TenthsOf answers as its model does, in both results. No condition. -/
import Derived.Test.YtnipdbphfnppeacRows
import Derived.WalkKit
import Derived.ProofKit
import Derived.OpenShut
import Derived.ShutString
import Derived.ChangeOld
import Derived.Below
import Derived.Laws.Cover2
import Derived.Test.YtnipdbphfnppeacTen
namespace Go.Proofs.Ytnipdbphfnppeac.fnExactTenthsOf
open Go.ChangeShapes Go.WideShapes Go.ChangeAt Go.RowKit Go.Fl
open Go.ChangeMaps (open_string shut_string)
set_option linter.unusedVariables false

theorem f32_is {x : Nat} (h : (Lit.float .f32 x).wf = true) : Is .f32 x (cn .f32 x) := Is.of_lt (by rw [w32]; simpa [Lit.wf] using h)

theorem walk (a0 : Nat) (w : World) (w0 : (Lit.float .f32 a0).wf = true) :
    Calls Try.prog 5 #[.float .f32 a0] w fun e w' => e = .returned (.bool true) ∧ Below w.heap.size w w' := by
  have i0 := f32_is w0
  clear w0
  by_cases h : (fin .f32 (cn .f32 a0) && !fcmp .leq .f32 (cn .f32 a0) 0) = true
  · have hx : fin .f32 (cn .f32 a0) = true := by
      cases h1 : fin .f32 (cn .f32 a0)
      · rw [h1] at h; cases h
      · rfl
    have hl : fcmp .leq .f32 (cn .f32 a0) 0 = false := by
      rw [hx] at h; simpa using h
    have HP := Lib.hid (pos_of hx hl)
    have HX := Lib.hid hx
    have HL := Lib.hid hl
    clear h hx hl
    go_enter Try.func5, Try.ntmps5
    go_wp2_with (first | (go_at_call 14; refine (sTen_yes _ _ i0 HX.out HL.out HP _).mono ?_; rintro e w' ⟨⟨j1, j2, hs1, rfl⟩, n, rfl⟩) | (go_at_call 15; refine (iTen_yes _ _ i0 HX.out HL.out HP _).mono ?_; rintro e w' ⟨⟨k1, k2, hs2, rfl⟩, n, rfl⟩; obtain ⟨rfl, rfl⟩ := hs2.one hs1))
    go_ret
    exact ⟨rfl, below_drewN (Below.refl _ _) _⟩
  · have hno := Lib.hid (show (fin .f32 (cn .f32 a0) && !fcmp .leq .f32 (cn .f32 a0) 0) = false by simpa using h)
    clear h
    go_enter Try.func5, Try.ntmps5
    go_wp2_with (first | (go_at_call 14; refine (sTen_no _ _ i0 hno.out _).mono ?_; rintro e w' ⟨rfl, n, rfl⟩) | (go_at_call 15; refine (iTen_no _ _ i0 hno.out _).mono ?_; rintro e w' ⟨rfl, n, rfl⟩))
    go_ret
    exact ⟨rfl, below_drewN (Below.refl _ _) _⟩

/-! ### from the walk to the statement -/
theorem own : ownKnob Try.prog.godebug = none := by kernel_rfl
theorem laidOut : laidOutB Try.prog = true := by kernel_rfl
set_option maxRecDepth 100000 in
theorem lifted (os : Os) (started : os.Started) (H : Type) (enc : TypeId × Value → H) :
    ReturnsInHanded {} Try.checked os 5 .any (Rows.fnExactTenthsOfSpec.pre6 enc Try.prog Try.f5 Rows.fnExactTenthsOfRow.domain false) (Rows.fnExactTenthsOfSpec.post enc Try.prog Try.f5 false true false false) := by
  refine returnsInHanded_of_change (C := Try.checked) own started (by kernel_rfl) Try.func5
    (ChangeSpec.witness6 (enc := enc) (C := Try.checked) false ⟨#[], #[.float .f32 0], []⟩ 8 (by kernel_rfl) (by kernel_rfl) (by kernel_rfl) (by kernel_rfl)) ?_
  intro W base args ds gs before hval0 hW hcnd _
  have hval : ∀ (j : Nat) t v, Try.f5.params[j]? = some t → args[j]? = some v → Value.okWide Try.prog W .any base t v := hval0
  have hW' := hW
  obtain ⟨p, q, hA0, hV, rfl, hfz, hnd⟩ := hW
  have hA : DataW.TrodAll enc Try.prog W 0 (fun _ => true) true Try.f5.params.toList args.toList ds p := hA0
  rw [Try.params5] at hA hval
  obtain ⟨v0, vs0, d0, ds0, p0, q0, hargs, rfl, rfl, h0, r0⟩ := trodAll_cons hA
  obtain ⟨rfl, rfl, rfl⟩ := trodAll_nil r0
  obtain rfl : args = #[v0] := by cases args; simp_all
  obtain ⟨rfl, rfl⟩ := trodVars_none hV
  obtain ⟨a0, rfl, rfl, rfl, w0⟩ := open_float Try.underlying28 (hval 0 28 v0 rfl rfl) h0
  clear hA0 hval0
  refine (walk a0 W w0).mono fun e W' ⟨he, bel⟩ => ?_
  subst he
  exact ⟨_, rfl, _, _, _, [], _, [], hW', trodAll_mk1 (shut_bool Try.underlying4 _), (trodAll_cons_mk (shut_float Try.underlying28 w0) trodAll_mk0), rfl, bel.frame _, fun h => by cases h⟩

theorem over : Rows.fnExactTenthsOfRow.holds Try.pinned (OpenSpec.ofChange Rows.fnExactTenthsOfSpec) :=
  OpenClaim.holds_of_wide 5 Try.f5 rfl rfl rfl rfl rfl rfl rfl ⟨rfl, rfl, rfl, rfl, rfl⟩ rfl rfl rfl rfl rfl (by kernel_rfl) Try.func5 (by kernel_rfl)
    (of_decide_eq_true (by kernel_rfl)) (by unfold Func.isWrapper; first | (rw [if_pos (by decide +kernel)]; kernel_rfl) | (rw [if_neg (by decide +kernel)]; exact ⟨rfl, rfl⟩))
    (fun os started H enc _ => lifted os started H enc)

/-- The statement. -/
theorem proved : Rows.FnExactTenthsOfSaid := over
#print axioms proved
end Go.Proofs.Ytnipdbphfnppeac.fnExactTenthsOf
