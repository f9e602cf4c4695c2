/- FnExactUnitOfSeed: for every 64-bit integer the law returns true: UnitOfSeed answers as its model does, in both results. No condition. -/
import Derived.Test.YtahgnjmdlhidpaaRows
import Derived.WalkKit
import Derived.ProofKit
import Derived.OpenShut
import Derived.ShutString
import Derived.ChangeOld
import Derived.Below
import Derived.Laws.Cover2
import Derived.Test.YtahgnjmdlhidpaaSeed
namespace Go.Proofs.Ytahgnjmdlhidpaa.fnExactUnitOfSeed
open Go.ChangeShapes Go.WideShapes Go.ChangeAt Go.RowKit Go.Fl
open Go.ChangeMaps (open_string shut_string)
set_option linter.unusedVariables false

theorem walk (a0 : Int) (w : World) (w0 : (Lit.int .i64 a0).wf = true) :
    Calls Try.prog 7 #[.int .i64 a0] w fun e w' => e = .returned (.bool true) ∧ Below w.heap.size w w' := by
  clear w0
  by_cases hin : 0 ≤ a0 ∧ a0 ≤ 2147483647
  · obtain ⟨h0, h1⟩ := hin
    go_enter Try.func7, Try.ntmps7
    go_wp2_with (first | (go_at_call 42; refine (sUnit_yes _ h0 h1 _).mono ?_; rintro e w' ⟨⟨r1, rfl, j1⟩, k1, rfl⟩) | (go_at_call 43; refine (iUnit_yes _ h0 h1 _).mono ?_; rintro e w' ⟨⟨r2, rfl, j2⟩, k2, rfl⟩) | (apply wpList_wid; rfl; rfl; (first | with_reducible assumption | exact Is.const rfl); exact U32; exact U64; intro r n hr) | (go_at_call 44; refine (sameFloat_any _ _ _ (by assumption) (by assumption) _).mono ?_; rintro e w' ⟨rfl, n, rfl⟩))
    go_ret
    refine ⟨rfl, ?_⟩
    exact below_drewN (Below.refl _ _) _
  · have hout : a0 < 0 ∨ 2147483647 < a0 := by omega
    clear hin
    go_enter Try.func7, Try.ntmps7
    go_wp2_with (first | (go_at_call 42; refine (sUnit_no _ hout _).mono ?_; rintro e w' ⟨rfl, rfl⟩) | (go_at_call 43; refine (iUnit_no _ hout _).mono ?_; rintro e w' ⟨rfl, rfl⟩) | (apply wpList_wid; rfl; rfl; (first | with_reducible assumption | exact Is.const rfl); exact U32; exact U64; intro r n hr) | (go_at_call 44; refine (sameFloat_any _ _ _ (by assumption) (by assumption) _).mono ?_; rintro e w' ⟨rfl, n, rfl⟩))
    go_ret
    exact ⟨rfl, below_drewN (Below.refl _ _) _⟩

/-! ### from the walk to the statement -/
theorem own : ownKnob Try.prog.godebug = none := by kernel_rfl
theorem laidOut : laidOutB Try.prog = true := by kernel_rfl
set_option maxRecDepth 100000 in
theorem lifted (os : Os) (started : os.Started) (H : Type) (enc : TypeId × Value → H) :
    ReturnsInHanded {} Try.checked os 7 .any (Rows.fnExactUnitOfSeedSpec.pre6 enc Try.prog Try.f7 Rows.fnExactUnitOfSeedRow.domain false) (Rows.fnExactUnitOfSeedSpec.post enc Try.prog Try.f7 false true false false) := by
  refine returnsInHanded_of_change (C := Try.checked) own started (by kernel_rfl) Try.func7
    (ChangeSpec.witness6 (enc := enc) (C := Try.checked) false ⟨#[], #[.int .i64 0], []⟩ 8 (by kernel_rfl) (by kernel_rfl) (by kernel_rfl) (by kernel_rfl)) ?_
  intro W base args ds gs before hval0 hW hcnd _
  have hval : ∀ (j : Nat) t v, Try.f7.params[j]? = some t → args[j]? = some v → Value.okWide Try.prog W .any base t v := hval0
  have hW' := hW
  obtain ⟨p, q, hA0, hV, rfl, hfz, hnd⟩ := hW
  have hA : DataW.TrodAll enc Try.prog W 0 (fun _ => true) true Try.f7.params.toList args.toList ds p := hA0
  rw [Try.params7] at hA hval
  obtain ⟨v0, vs0, d0, ds0, p0, q0, hargs, rfl, rfl, h0, r0⟩ := trodAll_cons hA
  obtain ⟨rfl, rfl, rfl⟩ := trodAll_nil r0
  obtain rfl : args = #[v0] := by cases args; simp_all
  obtain ⟨rfl, rfl⟩ := trodVars_none hV
  obtain ⟨a0, rfl, rfl, rfl, w0⟩ := open_int Try.underlying2 (hval 0 2 v0 rfl rfl) h0
  clear hA0 hval0
  refine (walk a0 W w0).mono fun e W' ⟨he, bel⟩ => ?_
  subst he
  exact ⟨_, rfl, _, _, _, [], _, [], hW', trodAll_mk1 (shut_bool Try.underlying4 _), (trodAll_cons_mk (shut_int Try.underlying2 w0) trodAll_mk0), rfl, bel.frame _, fun h => by cases h⟩

theorem over : Rows.fnExactUnitOfSeedRow.holds Try.pinned (OpenSpec.ofChange Rows.fnExactUnitOfSeedSpec) :=
  OpenClaim.holds_of_wide 7 Try.f7 rfl rfl rfl rfl rfl rfl rfl ⟨rfl, rfl, rfl, rfl, rfl⟩ rfl rfl rfl rfl rfl (by kernel_rfl) Try.func7 (by kernel_rfl)
    (of_decide_eq_true (by kernel_rfl)) (by unfold Func.isWrapper; first | (rw [if_pos (by decide +kernel)]; kernel_rfl) | (rw [if_neg (by decide +kernel)]; exact ⟨rfl, rfl⟩))
    (fun os started H enc _ => lifted os started H enc)

/-- The statement. -/
theorem proved : Rows.FnExactUnitOfSeedSaid := over
#print axioms proved
end Go.Proofs.Ytahgnjmdlhidpaa.fnExactUnitOfSeed
