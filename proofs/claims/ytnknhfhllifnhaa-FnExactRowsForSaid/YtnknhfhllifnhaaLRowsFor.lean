/- FnExactRowsFor: for every grid and every integer the law returns true: RowsFor answers as its model does, in both results, and its rows lie in memory of their own. No condition. -/
import Derived.Test.YtnknhfhllifnhaaRows
import Derived.WalkKit
import Derived.ProofKit
import Derived.OpenShut
import Derived.ShutString
import Derived.ChangeOld
import Derived.Below
import Derived.Laws.Cover2
import Derived.Test.YtnknhfhllifnhaaRwf
namespace Go.Proofs.Ytnknhfhllifnhaa.fnExactRowsFor
open Go.ChangeShapes Go.WideShapes Go.ChangeAt Go.RowKit Go.Fl
open Go.ChangeMaps (open_string shut_string)
set_option linter.unusedVariables false
set_option linter.unusedSimpArgs false
set_option linter.unusedVariables false

theorem small_rows {y q : Nat} (hy : y ≤ 16) (hq : 1 ≤ q) (hq8 : q ≤ 8) : smallF q (rowsF y q) := fun k hk => by
  obtain ⟨_, _, h3, h4⟩ := sp_in (y := y) (q := q) (k := k) hy hq (by omega)
  refine ⟨⟨?_, ?_⟩, ⟨?_, ?_⟩⟩
  · show -1000 ≤ (spF y q k : Int); omega
  · show (spF y q k : Int) ≤ 1000; omega
  · show -1000 ≤ (spC y q k : Int); omega
  · show (spC y q k : Int) ≤ 1000; omega

set_option maxHeartbeats 1000000 in
theorem eqSS_nil (w : World) : Calls Try.prog 71 #[.slice none 0 0, .slice none 0 0] w fun e w' => e = .returned (.bool true) ∧ w' = w := by
  go_enter Try.func71, Try.ntmps71
  go_wp2
  refine wp_loop_rounds 1 ?_
  rw [rounds_succ]
  go_wp2
  go_ret
  exact ⟨rfl, rfl⟩
theorem markSS_nil (w : World) : Calls Try.prog 72 #[.slice none 0 0, .int .i64 1] w fun e w' => e = .returned (.int .i64 1) ∧ w' = w := by
  go_enter Try.func72, Try.ntmps72
  go_wp2
  refine wp_loop_rounds 1 ?_
  rw [rounds_succ]
  go_wp2
  go_ret
  exact ⟨rfl, rfl⟩
theorem heldSS_nil (w : World) : Calls Try.prog 73 #[.slice none 0 0, .int .i64 1] w fun e w' => e = .returned (.int .i64 1) ∧ w' = w := by
  go_enter Try.func73, Try.ntmps73
  go_wp2
  refine wp_loop_rounds 1 ?_
  rw [rounds_succ]
  go_wp2
  go_ret
  exact ⟨rfl, rfl⟩

set_option maxHeartbeats 2000000 in
set_option maxRecDepth 100000 in
theorem walk_yes (a : Int) (y q : Nat) (hg : gridOk a (y : Int) = true) (hy : y ≤ 16) (hq : 1 ≤ q) (hq8 : q ≤ 8) (w : World) :
    Calls Try.prog 9 #[GV a (y : Int), .int .i64 (q : Int)] w fun e w' => e = .returned (.bool true) ∧ Below w.heap.size w w' := by
  have HB := Lib.hid ((Below.refl w.heap.size w).alloc (Nat.le_refl _) (.cells #[.int .i64 a, .int .i64 (y : Int)] 99))
  have HG := Lib.hid (gp_new w a (y : Int) 99)
  have HGK := Lib.hid hg
  have HSM := Lib.hid (small_rows hy hq hq8)
  clear hg
  go_enter Try.func9, Try.ntmps9
  go_wp2_with fail
  generalize w.alloc (.cells #[.int .i64 a, .int .i64 (y : Int)] 99) = w1 at HB HG ⊢
  refine (toGrid_any a (y : Int) _).mono ?_; rintro e w2 ⟨rfl, hb⟩
  have HB := Lib.hid (HB.out.trans (hb.mono HB.out.size)); have HG := Lib.hid (HG.out.below hb)
  clear hb
  go_wp2_with fail
  refine (sRows_yes a y q HGK.out hy hq hq8 _).mono ?_; rintro e w3 ⟨⟨v, bs, rfl, hr⟩, hb⟩
  obtain ⟨gv, cv, rfl⟩ := hr.form (by omega)
  have HR := Lib.hid hr
  have HB := Lib.hid (HB.out.trans (hb.mono HB.out.size)); have HG := Lib.hid (HG.out.below hb)
  clear hb hr
  have hc0 := HG.out.cells.1; have hc1 := HG.out.cells.2
  go_wp2_with fail
  clear hc0 hc1
  refine (toGrid_any a (y : Int) _).mono ?_; rintro e w4 ⟨rfl, hb⟩
  have HR := Lib.hid (HR.out.kept hb)
  have HB := Lib.hid (HB.out.trans (hb.mono HB.out.size)); have HG := Lib.hid (HG.out.below hb)
  clear hb
  go_wp2_with fail
  refine (iRows_yes a y q HGK.out hy hq hq8 _).mono ?_; rintro e w5 ⟨⟨u, cs, rfl, hr⟩, hb⟩
  obtain ⟨gu, cu, rfl⟩ := hr.form (by omega)
  have HU := Lib.hid hr
  have D := Lib.hid hb
  clear hb hr
  go_wp2_with fail
  refine (eqSS_any _ _ _ _ q cs bs (rowsF y q) _ hq hq8 HU.out (HR.out.kept D.out) HSM.out).mono ?_
  rintro e w' ⟨rfl, m1, rfl⟩
  have D := Lib.hid (below_drewN D.out m1)
  have HU := Lib.hid (HU.out.kept (below_drewN (Below.refl _ _) m1))
  go_wp2_with fail
  refine (markSS_any w4.heap.size _ q cs (rowsF y q) _ hq hq8 HU.out D.out.size).mono ?_
  rintro e w6 ⟨rfl, hr, hb⟩
  have HU := Lib.hid hr
  have D := Lib.hid (D.out.trans hb)
  clear hr hb
  go_wp2_with fail
  refine (heldSS_any _ _ q cs (rowsF y q) _ hq hq8 HU.out).mono ?_
  rintro e w' ⟨rfl, hw⟩
  obtain rfl := hw.symm
  clear hw
  have hc0 := (HG.out.below D.out).cells.1; have hc1 := (HG.out.below D.out).cells.2
  have hnn : ¬ (((1 + 2 * q : Nat) : Int) < 0) := by omega
  go_wp2_with fail
  clear hc0 hc1
  refine (toGrid_any a (y : Int) _).mono ?_; rintro e w7 ⟨rfl, hb⟩
  have HU := Lib.hid (HU.out.kept hb)
  have D := Lib.hid (D.out.trans (hb.mono D.out.size))
  clear hb
  go_wp2_with fail
  refine (iRows_yes a y q HGK.out hy hq hq8 _).mono ?_; rintro e w8 ⟨⟨h, ds, rfl, hr⟩, hb⟩
  obtain ⟨gh, ch, rfl⟩ := hr.form (by omega)
  have HH := Lib.hid hr
  have HU := Lib.hid (HU.out.kept hb)
  have D := Lib.hid (D.out.trans (hb.mono D.out.size))
  clear hb hr
  go_wp2_with fail
  refine (eqSS_any _ _ _ _ q ds bs (rowsF y q) _ hq hq8 HH.out (HR.out.kept D.out) HSM.out).mono ?_
  rintro e w' ⟨rfl, m2, rfl⟩
  have D := Lib.hid (below_drewN D.out m2)
  have HU := Lib.hid (HU.out.kept (below_drewN (Below.refl _ _) m2))
  go_wp2_with fail
  refine (heldSS_any _ _ q cs (rowsF y q) _ hq hq8 HU.out).mono ?_
  rintro e w' ⟨rfl, hw⟩
  obtain rfl := hw.symm
  clear hw
  go_wp2_with fail
  go_ret
  exact ⟨rfl, HB.out.trans (D.out.mono HB.out.size)⟩

set_option maxHeartbeats 2000000 in
set_option maxRecDepth 100000 in
theorem walk_no (a b q : Int) (h : gridOk a b = false ∨ ¬ (1 ≤ q ∧ q ≤ 8)) (w : World) :
    Calls Try.prog 9 #[GV a b, .int .i64 q] w fun e w' => e = .returned (.bool true) ∧ Below w.heap.size w w' := by
  have HB := Lib.hid ((Below.refl w.heap.size w).alloc (Nat.le_refl _) (.cells #[.int .i64 a, .int .i64 b] 99))
  have HG := Lib.hid (gp_new w a b 99)
  have HN := Lib.hid h
  clear h
  go_enter Try.func9, Try.ntmps9
  go_wp2_with fail
  generalize w.alloc (.cells #[.int .i64 a, .int .i64 b] 99) = w1 at HB HG ⊢
  refine (toGrid_any a b _).mono ?_; rintro e w2 ⟨rfl, hb⟩
  have HB := Lib.hid (HB.out.trans (hb.mono HB.out.size)); have HG := Lib.hid (HG.out.below hb)
  clear hb
  go_wp2_with fail
  refine (sRows_no a b q HN.out _).mono ?_; rintro e w3 ⟨rfl, hb⟩
  have HB := Lib.hid (HB.out.trans (hb.mono HB.out.size)); have HG := Lib.hid (HG.out.below hb)
  clear hb
  have hc0 := HG.out.cells.1; have hc1 := HG.out.cells.2
  go_wp2_with fail
  clear hc0 hc1
  refine (toGrid_any a b _).mono ?_; rintro e w4 ⟨rfl, hb⟩
  have HB := Lib.hid (HB.out.trans (hb.mono HB.out.size)); have HG := Lib.hid (HG.out.below hb)
  clear hb
  go_wp2_with fail
  refine (iRows_no a b q HN.out _).mono ?_; rintro e w5 ⟨rfl, hb⟩
  have HB := Lib.hid (HB.out.trans (hb.mono HB.out.size)); have HG := Lib.hid (HG.out.below hb)
  clear hb
  go_wp2_with fail
  refine (eqSS_nil _).mono ?_; rintro e w' ⟨rfl, hw⟩
  obtain rfl := hw.symm
  clear hw
  go_wp2_with fail
  refine (markSS_nil _).mono ?_; rintro e w' ⟨rfl, hw⟩
  obtain rfl := hw.symm
  clear hw
  go_wp2_with fail
  refine (heldSS_nil _).mono ?_; rintro e w' ⟨rfl, hw⟩
  obtain rfl := hw.symm
  clear hw
  have hc0 := HG.out.cells.1; have hc1 := HG.out.cells.2
  go_wp2_with fail
  clear hc0 hc1
  refine (toGrid_any a b _).mono ?_; rintro e w6 ⟨rfl, hb⟩
  have HB := Lib.hid (HB.out.trans (hb.mono HB.out.size)); have HG := Lib.hid (HG.out.below hb)
  clear hb
  go_wp2_with fail
  refine (iRows_no a b q HN.out _).mono ?_; rintro e w7 ⟨rfl, hb⟩
  have HB := Lib.hid (HB.out.trans (hb.mono HB.out.size))
  clear hb
  go_wp2_with fail
  refine (eqSS_nil _).mono ?_; rintro e w' ⟨rfl, hw⟩
  obtain rfl := hw.symm
  clear hw
  go_wp2_with fail
  refine (heldSS_nil _).mono ?_; rintro e w' ⟨rfl, hw⟩
  obtain rfl := hw.symm
  clear hw
  go_wp2_with fail
  go_ret
  exact ⟨rfl, HB.out⟩

theorem walk (a0 b0 q0 : Int) (w : World) (w0 : (Lit.int .i64 a0).wf = true) (x0 : (Lit.int .i64 b0).wf = true) (w1 : (Lit.int .i64 q0).wf = true) :
    Calls Try.prog 9 #[GV a0 b0, .int .i64 q0] w fun e w' => e = .returned (.bool true) ∧ Below w.heap.size w w' := by
  by_cases h : gridOk a0 b0 = true ∧ 1 ≤ q0 ∧ q0 ≤ 8
  · obtain ⟨hg, h1, h2⟩ := h
    have hg' := hg
    unfold gridOk at hg'
    have hg'' := of_decide_eq_true hg'
    obtain ⟨y, rfl⟩ : ∃ y : Nat, b0 = (y : Int) := ⟨b0.toNat, by omega⟩
    obtain ⟨q, rfl⟩ : ∃ q : Nat, q0 = (q : Int) := ⟨q0.toNat, by omega⟩
    exact walk_yes a0 y q hg (by omega) (by omega) (by omega) w
  · refine walk_no a0 b0 q0 ?_ w
    by_cases hg : gridOk a0 b0 = true
    · exact .inr (fun h' => h ⟨hg, h'⟩)
    · exact .inl (by simpa using hg)
/-! ### from the walk to the statement -/
theorem own : ownKnob Try.prog.godebug = none := by kernel_rfl
theorem laidOut : laidOutB Try.prog = true := by kernel_rfl
set_option maxRecDepth 100000 in
theorem lifted (os : Os) (started : os.Started) (H : Type) (enc : TypeId × Value → H) :
    ReturnsInHanded {} Try.checked os 9 .any (Rows.fnExactRowsForSpec.pre6 enc Try.prog Try.f9 Rows.fnExactRowsForRow.domain false) (Rows.fnExactRowsForSpec.post enc Try.prog Try.f9 false true false false) := by
  refine returnsInHanded_of_change (C := Try.checked) own started (by kernel_rfl) Try.func9
    (ChangeSpec.witness6 (enc := enc) (C := Try.checked) false ⟨#[], #[.agg #[.int .i64 0, .int .i64 0], .int .i64 0], []⟩ 8 (by kernel_rfl) (by kernel_rfl) (by kernel_rfl) (by kernel_rfl)) ?_
  intro W base args ds gs before hval0 hW hcnd _
  have hval : ∀ (j : Nat) t v, Try.f9.params[j]? = some t → args[j]? = some v → Value.okWide Try.prog W .any base t v := hval0
  have hW' := hW
  obtain ⟨p, q, hA0, hV, rfl, hfz, hnd⟩ := hW
  have hA : DataW.TrodAll enc Try.prog W 0 (fun _ => true) true Try.f9.params.toList args.toList ds p := hA0
  rw [Try.params9] at hA hval
  obtain ⟨v0, vs0, d0, ds0, p0, q0, hargs, rfl, rfl, h0, r0⟩ := trodAll_cons hA
  obtain ⟨v1, vs1, d1, ds1, p1, q1, rfl, rfl, rfl, h1, r1⟩ := trodAll_cons r0
  obtain ⟨rfl, rfl, rfl⟩ := trodAll_nil r1
  obtain rfl : args = #[v0, v1] := by cases args; simp_all
  obtain ⟨rfl, rfl⟩ := trodVars_none hV
  obtain ⟨a0, b0, rfl, rfl, rfl, w0, x0⟩ := open_pair Try.underlying99 Try.underlying2 (by kernel_rfl) (by kernel_rfl) (hval 0 99 v0 rfl rfl) h0
  obtain ⟨a1, rfl, rfl, rfl, w1⟩ := open_int Try.underlying2 (hval 1 2 v1 rfl rfl) h1
  clear hA0 hval0
  refine (walk a0 b0 a1 W w0 x0 w1).mono fun e W' ⟨he, bel⟩ => ?_
  subst he
  exact ⟨_, rfl, _, _, _, [], _, [], hW', trodAll_mk1 (shut_bool Try.underlying4 _), (trodAll_cons_mk (shut_pair Try.underlying99 Try.underlying2 (by kernel_rfl) (by kernel_rfl) w0 x0) (trodAll_cons_mk (shut_int Try.underlying2 w1) trodAll_mk0)), rfl, bel.frame _, fun h => by cases h⟩

theorem over : Rows.fnExactRowsForRow.holds Try.pinned (OpenSpec.ofChange Rows.fnExactRowsForSpec) :=
  OpenClaim.holds_of_wide 9 Try.f9 rfl rfl rfl rfl rfl rfl rfl ⟨rfl, rfl, rfl, rfl, rfl⟩ rfl rfl rfl rfl rfl (by kernel_rfl) Try.func9 (by kernel_rfl)
    (of_decide_eq_true (by kernel_rfl)) (by unfold Func.isWrapper; first | (rw [if_pos (by decide +kernel)]; kernel_rfl) | (rw [if_neg (by decide +kernel)]; exact ⟨rfl, rfl⟩))
    (fun os started H enc _ => lifted os started H enc)

/-- The statement. -/
theorem proved : Rows.FnExactRowsForSaid := over
#print axioms proved
end Go.Proofs.Ytnknhfhllifnhaa.fnExactRowsFor
