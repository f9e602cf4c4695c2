/- FnExactWaveParticles: for all arguments the law returns true: WaveParticles answers as its model does, in all results, its arguments read as before, and its result is memory of its own. No condition. -/
import Derived.Test.YtlfnbnhbobohlaaRows
import Derived.WalkKit
import Derived.ProofKit
import Derived.OpenShut
import Derived.ShutString
import Derived.ChangeOld
import Derived.Below
import Derived.Laws.Cover2
import Derived.Test.YtlfnbnhbobohlaaWps
namespace Go.Proofs.Ytlfnbnhbobohlaa.fnExactWaveParticles
open Go.ChangeShapes Go.WideShapes Go.ChangeAt Go.RowKit Go.Fl
open Go.ChangeMaps (open_string shut_string)
set_option linter.unusedVariables false

theorem pc_list (ts : List Pb) : ∀ i (h : i < (ts.map Pb.r4).length), PC4 (ts.map Pb.r4)[i] := fun i h => by rw [List.getElem_map]; exact pb_pc _

set_option maxHeartbeats 4000000 in
set_option maxRecDepth 100000 in
theorem walk (a0 b0 : Int) (a1 : Int) (a2 : Int) (a3 : Nat) (a4 : Nat) (w : World) (w0 : (Lit.int .i64 a0).wf = true) (x0 : (Lit.int .i64 b0).wf = true) (w1 : (Lit.int .i64 a1).wf = true) (w2 : (Lit.int .i64 a2).wf = true) (w3 : (Lit.float .f32 a3).wf = true) (w4 : (Lit.float .f32 a4).wf = true) :
    Calls Try.prog 8 #[GV a0 b0, .int .i64 a1, .int .i64 a2, .float .f32 a3, .float .f32 a4] w fun e w' => e = .returned (.bool true) ∧ Below w.heap.size w w' := by
  clear w0 x0
  have HI1 := Lib.hid (wf_i64 w1)
  have HI2 := Lib.hid (wf_i64 w2)
  have HI3 := Lib.hid (Is.of_lt (wf_lt w3))
  have HI4 := Lib.hid (Is.of_lt (wf_lt w4))
  clear w1 w2 w3 w4
  have hNb := lenWP_le a0 b0 a1 a2 (cn .f32 a3) (cn .f32 a4)
  have HSP := Lib.hid (fun w => sWaveP_any a0 b0 a1 a2 a3 _ a4 _ w HI3.out HI4.out)
  have HIP := Lib.hid (fun w => iWaveP_any a0 b0 a1 a2 a3 _ a4 _ w HI1.out HI2.out HI3.out HI4.out)
  have HRES := Lib.hid (fun B e w' => @WPRes.out a0 b0 a1 a2 (cn .f32 a3) (cn .f32 a4) B e w')
  clear HI1 HI2 HI3 HI4
  obtain ⟨ok, hok⟩ : ∃ ok, okWP a0 b0 a1 a2 (cn .f32 a3) (cn .f32 a4) = ok := ⟨_, rfl⟩
  obtain ⟨N, hN⟩ : ∃ N, lenWP a0 b0 a1 a2 (cn .f32 a3) (cn .f32 a4) = N := ⟨_, rfl⟩
  obtain ⟨K, hK⟩ : ∃ K, KWv a0 b0 a2 a1 (cn .f32 a3) (cn .f32 a4) = K := ⟨_, rfl⟩
  have HR2 := Lib.hid (show ∀ B e w', WPRes a0 b0 a1 a2 (cn .f32 a3) (cn .f32 a4) B e w' → ∃ (v : Value) (ts : List Pb), ts.length = N ∧ BOwn B w' v ts ∧ EqP ts K ∧ e = .returned (.tuple #[v, .bool ok]) from fun B e w' h => by
    have h2 := HRES.out B e w' h
    rw [hok, hN, hK] at h2
    exact h2)
  rw [hN] at hNb
  have HNB := Lib.hid hNb
  clear hok hN hK HRES
  go_enter Try.func8, Try.ntmps8
  have hb0 := (Below.refl w.heap.size w).alloc (Nat.le_refl _) (.cells #[.int .i64 a0, .int .i64 b0] 23)
  have hp := gp_new w a0 b0 23
  have hc0 := hp.cells.1; have hc1 := hp.cells.2
  have HG := Lib.hid hp; clear hp
  go_wp2_with fail
  clear  hc0 hc1
  generalize w.alloc (.cells #[.int .i64 a0, .int .i64 b0] 23) = w1 at hb0 HG ⊢
  have HB := Lib.hid hb0
  clear hb0 
  have D1 := Lib.hid (Below.refl w1.heap.size w1)
  refine (toGrid_any a0 b0 _).mono ?_; rintro e w2 ⟨rfl, hb⟩
  have D2 := Lib.hid (D1.out.trans (hb.mono D1.out.size)); have S2 := Lib.hid (hb.size)
  clear hb
  go_wp2_with fail
  refine (HSP.out _).mono ?_; rintro e w3 ⟨hr, hb⟩
  obtain ⟨vS, ts, hl, ho, he, rfl⟩ := HR2.out _ _ _ hr
  have D3 := Lib.hid (D2.out.trans (hb.mono D2.out.size)); have S3 := Lib.hid (hb.size)
  have LS0 := Lib.hid hl; have ES0 := Lib.hid he; have OS0 := Lib.hid ho; have RS0 := Lib.hid ho.lt
  clear hl he ho hr hb
  have hc0 := (GP.below HG.out D3.out).cells.1; have hc1 := (GP.below HG.out D3.out).cells.2
  go_wp2_with fail
  clear hc0 hc1
  refine (toGrid_any a0 b0 _).mono ?_; rintro e w4 ⟨rfl, hb⟩
  have D4 := Lib.hid (D3.out.trans (hb.mono D3.out.size)); have S4 := Lib.hid (hb.size)
  replace OS0 := Lib.hid (r4_below OS0.out hb)
  clear hb
  go_wp2_with fail
  refine (HIP.out _).mono ?_; rintro e w5 ⟨hr, hb⟩
  obtain ⟨vG, us, hl, ho, he, rfl⟩ := HR2.out _ _ _ hr
  have D5 := Lib.hid (D4.out.trans (hb.mono D4.out.size)); have S5 := Lib.hid (hb.size)
  replace OS0 := Lib.hid (r4_below OS0.out hb)
  have LG0 := Lib.hid hl; have EG0 := Lib.hid he; have OG0 := Lib.hid ho; have RG0 := Lib.hid ho.lt
  clear hl he ho hr hb
  go_wp2_with fail
  refine (eqParts_any _ _ vG vS us ts K _ OG0.out OS0.out (LG0.out.trans LS0.out.symm) EG0.out ES0.out (by rw [LG0.out]; exact hNb)).mono ?_; rintro e w6 ⟨rfl, hb⟩
  have D6 := Lib.hid (D5.out.trans (hb.mono D5.out.size)); have S6 := Lib.hid (hb.size)
  replace OS0 := Lib.hid (r4_below OS0.out hb)
  replace OG0 := Lib.hid (r4_below OG0.out hb)
  clear hb
  go_wp2_with fail
  have LG4 := Lib.hid (show (us.map Pb.r4).length = N by rw [List.length_map]; exact LG0.out)
  refine (markParts_any _ vG (us.map Pb.r4) _ OG0.out (pc_list us) (by rw [LG4.out]; exact hNb)).mono ?_; rintro e w7 ⟨rfl, ho, hg⟩
  rw [LG4.out] at ho ⊢
  replace OS0 := Lib.hid (World.ownsRow.kept OS0.out hg (apart RS0.out RG0.out (by have := S2.out; have := S3.out; have := S4.out; have := S5.out; have := S6.out; omega)))
  have D7 := Lib.hid (D6.out.grown hg D6.out.size (fun k hk => by have h1 := (RG0.out k hk).1; have := S2.out; have := S3.out; have := S4.out; have := S5.out; have := S6.out; omega)); have S7 := Lib.hid hg.size
  replace OG0 := Lib.hid ho
  clear ho hg
  go_wp2_with fail
  refine (heldParts_any _ vG N _ OG0.out hNb).mono ?_; rintro e w' ⟨rfl, m, rfl⟩
  have hb := below_drewN (Below.refl w7.heap.size w7) m
  generalize w7.drewN m = w8 at hb ⊢
  have D8 := Lib.hid (D7.out.trans (hb.mono D7.out.size)); have S8 := Lib.hid (hb.size)
  replace OS0 := Lib.hid (r4_below OS0.out hb)
  replace OG0 := Lib.hid (r4_below OG0.out hb)
  clear hb
  have hge : decide (4 * (N : Int) + 1 < 0) = false := decide_eq_false (by omega)
  have hc0 := (GP.below HG.out D8.out).cells.1; have hc1 := (GP.below HG.out D8.out).cells.2
  go_wp2_with fail
  clear hc0 hc1
  refine (toGrid_any a0 b0 _).mono ?_; rintro e w9 ⟨rfl, hb⟩
  have D9 := Lib.hid (D8.out.trans (hb.mono D8.out.size)); have S9 := Lib.hid (hb.size)
  replace OS0 := Lib.hid (r4_below OS0.out hb)
  replace OG0 := Lib.hid (r4_below OG0.out hb)
  clear hb
  go_wp2_with fail
  refine (HIP.out _).mono ?_; rintro e w10 ⟨hr, hb⟩
  obtain ⟨vH, vs, hl, ho, he, rfl⟩ := HR2.out _ _ _ hr
  have D10 := Lib.hid (D9.out.trans (hb.mono D9.out.size)); have S10 := Lib.hid (hb.size)
  replace OS0 := Lib.hid (r4_below OS0.out hb)
  replace OG0 := Lib.hid (r4_below OG0.out hb)
  have LH0 := Lib.hid hl; have EH0 := Lib.hid he; have OH0 := Lib.hid ho
  clear hl he ho hr hb
  go_wp2_with fail
  refine (eqParts_any _ _ vH vS vs ts K _ OH0.out OS0.out (LH0.out.trans LS0.out.symm) EH0.out ES0.out (by rw [LH0.out]; exact hNb)).mono ?_; rintro e w11 ⟨rfl, hb⟩
  have D11 := Lib.hid (D10.out.trans (hb.mono D10.out.size)); have S11 := Lib.hid (hb.size)
  replace OG0 := Lib.hid (r4_below OG0.out hb)
  clear hb
  go_wp2_with fail
  refine (heldParts_any _ vG N _ OG0.out hNb).mono ?_; rintro e w' ⟨rfl, m, rfl⟩
  have hb := below_drewN (Below.refl w11.heap.size w11) m
  generalize w11.drewN m = w12 at hb ⊢
  have D12 := Lib.hid (D11.out.trans (hb.mono D11.out.size))
  clear hb
  go_wp2_with fail
  go_ret
  exact ⟨rfl, HB.out.trans (D12.out.mono HB.out.size)⟩

/-! ### from the walk to the statement -/
theorem own : ownKnob Try.prog.godebug = none := by kernel_rfl
theorem laidOut : laidOutB Try.prog = true := by kernel_rfl
set_option maxRecDepth 100000 in
theorem lifted (os : Os) (started : os.Started) (H : Type) (enc : TypeId × Value → H) :
    ReturnsInHanded {} Try.checked os 8 .any (Rows.fnExactWaveParticlesSpec.pre6 enc Try.prog Try.f8 Rows.fnExactWaveParticlesRow.domain false) (Rows.fnExactWaveParticlesSpec.post enc Try.prog Try.f8 false true false false) := by
  refine returnsInHanded_of_change (C := Try.checked) own started (by kernel_rfl) Try.func8
    (ChangeSpec.witness6 (enc := enc) (C := Try.checked) false ⟨#[], #[.agg #[.int .i64 0, .int .i64 0], .int .i64 0, .int .i64 0, .float .f32 0, .float .f32 0], []⟩ 8 (by kernel_rfl) (by kernel_rfl) (by kernel_rfl) (by kernel_rfl)) ?_
  intro W base args ds gs before hval0 hW hcnd _
  have hval : ∀ (j : Nat) t v, Try.f8.params[j]? = some t → args[j]? = some v → Value.okWide Try.prog W .any base t v := hval0
  have hW' := hW
  obtain ⟨p, q, hA0, hV, rfl, hfz, hnd⟩ := hW
  have hA : DataW.TrodAll enc Try.prog W 0 (fun _ => true) true Try.f8.params.toList args.toList ds p := hA0
  rw [Try.params8] at hA hval
  obtain ⟨v0, vs0, d0, ds0, p0, q0, hargs, rfl, rfl, h0, r0⟩ := trodAll_cons hA
  obtain ⟨v1, vs1, d1, ds1, p1, q1, rfl, rfl, rfl, h1, r1⟩ := trodAll_cons r0
  obtain ⟨v2, vs2, d2, ds2, p2, q2, rfl, rfl, rfl, h2, r2⟩ := trodAll_cons r1
  obtain ⟨v3, vs3, d3, ds3, p3, q3, rfl, rfl, rfl, h3, r3⟩ := trodAll_cons r2
  obtain ⟨v4, vs4, d4, ds4, p4, q4, rfl, rfl, rfl, h4, r4⟩ := trodAll_cons r3
  obtain ⟨rfl, rfl, rfl⟩ := trodAll_nil r4
  obtain rfl : args = #[v0, v1, v2, v3, v4] := by cases args; simp_all
  obtain ⟨rfl, rfl⟩ := trodVars_none hV
  obtain ⟨a0, b0, rfl, rfl, rfl, w0, x0⟩ := open_pair Try.underlying23 Try.underlying2 (by kernel_rfl) (by kernel_rfl) (hval 0 23 v0 rfl rfl) h0
  obtain ⟨a1, rfl, rfl, rfl, w1⟩ := open_int Try.underlying2 (hval 1 2 v1 rfl rfl) h1
  obtain ⟨a2, rfl, rfl, rfl, w2⟩ := open_int Try.underlying2 (hval 2 2 v2 rfl rfl) h2
  obtain ⟨a3, rfl, rfl, rfl, w3⟩ := open_float Try.underlying46 (hval 3 46 v3 rfl rfl) h3
  obtain ⟨a4, rfl, rfl, rfl, w4⟩ := open_float Try.underlying46 (hval 4 46 v4 rfl rfl) h4
  clear hA0 hval0
  refine (walk a0 b0 a1 a2 a3 a4 W w0 x0 w1 w2 w3 w4).mono fun e W' ⟨he, bel⟩ => ?_
  subst he
  exact ⟨_, rfl, _, _, _, [], _, [], hW', trodAll_mk1 (shut_bool Try.underlying4 _), (trodAll_cons_mk (shut_pair Try.underlying23 Try.underlying2 (by kernel_rfl) (by kernel_rfl) w0 x0) (trodAll_cons_mk (shut_int Try.underlying2 w1) (trodAll_cons_mk (shut_int Try.underlying2 w2) (trodAll_cons_mk (shut_float Try.underlying46 w3) (trodAll_cons_mk (shut_float Try.underlying46 w4) trodAll_mk0))))), rfl, bel.frame _, fun h => by cases h⟩

theorem over : Rows.fnExactWaveParticlesRow.holds Try.pinned (OpenSpec.ofChange Rows.fnExactWaveParticlesSpec) :=
  OpenClaim.holds_of_wide 8 Try.f8 rfl rfl rfl rfl rfl rfl rfl ⟨rfl, rfl, rfl, rfl, rfl⟩ rfl rfl rfl rfl rfl (by kernel_rfl) Try.func8 (by kernel_rfl)
    (of_decide_eq_true (by kernel_rfl)) (by unfold Func.isWrapper; first | (rw [if_pos (by decide +kernel)]; kernel_rfl) | (rw [if_neg (by decide +kernel)]; exact ⟨rfl, rfl⟩))
    (fun os started H enc _ => lifted os started H enc)

/-- The statement. -/
theorem proved : Rows.FnExactWaveParticlesSaid := over
#print axioms proved
end Go.Proofs.Ytlfnbnhbobohlaa.fnExactWaveParticles
