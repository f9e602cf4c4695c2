/- FnExactSlideOf: for all arguments the law returns true: SlideOf answers as its model does, in all results, its arguments read as before, and nothing else turns. No condition. -/
import Derived.Test.YtlfnbnhbobohlaaRows
import Derived.WalkKit
import Derived.ProofKit
import Derived.OpenShut
import Derived.ShutString
import Derived.ChangeOld
import Derived.Below
import Derived.Laws.Cover2
import Derived.Test.YtlfnbnhbobohlaaSli
import Derived.Test.YtlfnbnhbobohlaaMarkG
import Derived.Test.YtlfnbnhbobohlaaOwn
namespace Go.Proofs.Ytlfnbnhbobohlaa.fnExactSlideOf
open Go.ChangeShapes Go.WideShapes Go.ChangeAt Go.RowKit Go.Fl
open Go.ChangeMaps (open_string shut_string)
set_option linter.unusedVariables false

set_option maxHeartbeats 4000000 in
set_option maxRecDepth 100000 in
theorem walk (a0 b0 : Int) (a1 : Option Addr) (len1 cap1 : Nat) (z1 : List Nat) (a2 : Option Addr) (len2 cap2 : Nat) (z2 : List Nat) (a3 : Int) (w : World) (w0 : (Lit.int .i64 a0).wf = true) (x0 : (Lit.int .i64 b0).wf = true) (w1 : FS .f32 w (.slice a1 len1 cap1) z1) (w2 : FS .f32 w (.slice a2 len2 cap2) z2) (w3 : (Lit.int .i64 a3).wf = true) :
    Calls Try.prog 12 #[GV a0 b0, .slice a1 len1 cap1, .slice a2 len2 cap2, .int .i64 a3] w fun e w' => e = .returned (.bool true) ∧ Below w.heap.size w w' := by
  obtain ⟨e1, W1⟩ := fs_open w1
  subst e1
  have HV1 := Lib.hid w1; have HW1 := Lib.hid W1.2; have hcm1 := W1.1
  clear w1 W1
  obtain ⟨e2, W2⟩ := fs_open w2
  subst e2
  have HV2 := Lib.hid w2; have HW2 := Lib.hid W2.2; have hcm2 := W2.1
  clear w2 W2
  clear w0 x0
  have HI3 := Lib.hid (wf_i64 w3)
  clear w3
  by_cases q1 : 1048576 < z1.length
  · have hd1 : decide ((1048576 : Int) < (z1.length : Int)) = true := by simp; omega
    go_enter Try.func12, Try.ntmps12
    go_wp2_with fail
    go_ret
    exact ⟨rfl, (Below.refl _ _).alloc (Nat.le_refl _) _⟩
  have hd1 : decide ((1048576 : Int) < (z1.length : Int)) = false := by simp; omega
  have hn1 : z1.length ≤ 1048576 := by omega
  clear q1
  by_cases q2 : 1048576 < z2.length
  · have hd2 : decide ((1048576 : Int) < (z2.length : Int)) = true := by simp; omega
    go_enter Try.func12, Try.ntmps12
    go_wp2_with fail
    go_ret
    exact ⟨rfl, (Below.refl _ _).alloc (Nat.le_refl _) _⟩
  have hd2 : decide ((1048576 : Int) < (z2.length : Int)) = false := by simp; omega
  have hn2 : z2.length ≤ 1048576 := by omega
  clear q2
  obtain ⟨ok, hok⟩ : ∃ ok, okSlideOf a0 b0 z1 z2 a3 = ok := ⟨_, rfl⟩
  have HOK := Lib.hid hok
  clear hok
  go_enter Try.func12, Try.ntmps12
  have hb0 := (Below.refl w.heap.size w).alloc (Nat.le_refl _) (.cells #[.int .i64 a0, .int .i64 b0] 23)
  have hp := gp_new w a0 b0 23
  have hc0 := hp.cells.1; have hc1 := hp.cells.2
  have HG := Lib.hid hp; clear hp
  go_wp2_with fail
  clear hd1 hd2 hc0 hc1
  generalize w.alloc (.cells #[.int .i64 a0, .int .i64 b0] 23) = w1 at hb0 HG ⊢
  have HB := Lib.hid hb0
  have HU1 := Lib.hid (HV1.out.below hb0)
  have HU2 := Lib.hid (HV2.out.below hb0)
  clear hb0 HV1 HV2
  have D1 := Lib.hid (Below.refl w1.heap.size w1)
  refine (toGrid_any a0 b0 _).mono ?_; rintro e w2 ⟨rfl, hb⟩
  have D2 := Lib.hid (D1.out.trans (hb.mono D1.out.size)); have S2 := Lib.hid (hb.size)
  clear hb
  go_wp2_with fail
  refine (toF_any _ z1 _ (HU1.out.below D2.out) hn1).mono ?_; rintro e w3 ⟨⟨gs1, rfl, ho⟩, hb⟩
  have D3 := Lib.hid (D2.out.trans (hb.mono D2.out.size)); have S3 := Lib.hid (hb.size)
  clear hb
  have Os1 := Lib.hid (show FOwn w2.heap.size w3 (.slice (some ⟨gs1, 0, none⟩) z1.length z1.length) z1 from ho)
  have Rs1 := Lib.hid Os1.out.lt
  clear ho
  go_wp2_with fail
  refine (toF_any _ z2 _ (HU2.out.below D3.out) hn2).mono ?_; rintro e w4 ⟨⟨gs2, rfl, ho⟩, hb⟩
  have D4 := Lib.hid (D3.out.trans (hb.mono D3.out.size)); have S4 := Lib.hid (hb.size)
  replace Os1 := Lib.hid (fown_below Os1.out hb)
  clear hb
  have Os2 := Lib.hid (show FOwn w3.heap.size w4 (.slice (some ⟨gs2, 0, none⟩) z2.length z2.length) z2 from ho)
  have Rs2 := Lib.hid Os2.out.lt
  clear ho
  go_wp2_with fail
  refine (sSlideOf_any a0 b0 _ z1 _ z2 a3 _ (fown_FS Os1.out HW1.out) hn1 (fown_FS Os2.out HW2.out) hn2 HI3.out).mono ?_; rintro e w5 ⟨⟨rS, rfl, hr⟩, hb⟩
  have D5 := Lib.hid (D4.out.trans (hb.mono D4.out.size)); have S5 := Lib.hid (hb.size)
  replace Os1 := Lib.hid (fown_below Os1.out hb)
  replace Os2 := Lib.hid (fown_below Os2.out hb)
  clear hb
  rw [HOK.out]
  have IS := Lib.hid hr; clear hr
  clear Os1 Rs1
  clear Os2 Rs2
  go_wp2_with fail
  refine (toF_any _ z1 _ (HU1.out.below D5.out) hn1).mono ?_; rintro e w6 ⟨⟨gx1, rfl, ho⟩, hb⟩
  have D6 := Lib.hid (D5.out.trans (hb.mono D5.out.size)); have S6 := Lib.hid (hb.size)
  clear hb
  have Ox1 := Lib.hid (show FOwn w5.heap.size w6 (.slice (some ⟨gx1, 0, none⟩) z1.length z1.length) z1 from ho)
  have Rx1 := Lib.hid Ox1.out.lt
  clear ho
  go_wp2_with fail
  refine (toF_any _ z2 _ (HU2.out.below D6.out) hn2).mono ?_; rintro e w7 ⟨⟨gx2, rfl, ho⟩, hb⟩
  have D7 := Lib.hid (D6.out.trans (hb.mono D6.out.size)); have S7 := Lib.hid (hb.size)
  replace Ox1 := Lib.hid (fown_below Ox1.out hb)
  clear hb
  have Ox2 := Lib.hid (show FOwn w6.heap.size w7 (.slice (some ⟨gx2, 0, none⟩) z2.length z2.length) z2 from ho)
  have Rx2 := Lib.hid Ox2.out.lt
  clear ho
  have hc0 := (GP.below HG.out D7.out).cells.1; have hc1 := (GP.below HG.out D7.out).cells.2
  go_wp2_with fail
  clear hc0 hc1
  refine (toGrid_any a0 b0 _).mono ?_; rintro e w8 ⟨rfl, hb⟩
  have D8 := Lib.hid (D7.out.trans (hb.mono D7.out.size)); have S8 := Lib.hid (hb.size)
  replace Ox1 := Lib.hid (fown_below Ox1.out hb)
  replace Ox2 := Lib.hid (fown_below Ox2.out hb)
  clear hb
  go_wp2_with fail
  refine (iSlideOf_any a0 b0 _ z1 _ z2 a3 _ (fown_FS Ox1.out HW1.out) hn1 (fown_FS Ox2.out HW2.out) hn2 HI3.out).mono ?_; rintro e w9 ⟨⟨rG, rfl, hr⟩, hb⟩
  have D9 := Lib.hid (D8.out.trans (hb.mono D8.out.size)); have S9 := Lib.hid (hb.size)
  replace Ox1 := Lib.hid (fown_below Ox1.out hb)
  replace Ox2 := Lib.hid (fown_below Ox2.out hb)
  clear hb
  rw [HOK.out]
  have IG := Lib.hid hr; clear hr
  have i1 := IG.out; have i2 := IS.out
  go_wp2_with (first | (apply wpList_wid; rfl; rfl; (first | with_reducible assumption | exact Is.const rfl); exact U32; exact U64; intro r n hr) | fail)
  refine (sameFloat_any _ _ _ (by assumption) (by assumption) _).mono ?_; rintro e w10 ⟨rfl, hd⟩
  have hb : Below w9.heap.size w9 w10 := by obtain ⟨m, rfl⟩ := hd; first | exact below_drewN (below_drewN (below_drewN (Below.refl _ _) _) _) _ | exact below_drewN (below_drewN (Below.refl _ _) _) _
  clear i1 i2 hd
  have D10 := Lib.hid (D9.out.trans (hb.mono D9.out.size)); have S10 := Lib.hid (hb.size)
  replace Ox1 := Lib.hid (fown_below Ox1.out hb)
  replace Ox2 := Lib.hid (fown_below Ox2.out hb)
  clear hb
  go_wp2_with fail
  refine (toF_any _ z1 _ (HU1.out.below D10.out) hn1).mono ?_; rintro e w11 ⟨⟨gy1, rfl, ho⟩, hb⟩
  have D11 := Lib.hid (D10.out.trans (hb.mono D10.out.size)); have S11 := Lib.hid (hb.size)
  replace Ox1 := Lib.hid (fown_below Ox1.out hb)
  replace Ox2 := Lib.hid (fown_below Ox2.out hb)
  clear hb
  have Oy1 := Lib.hid (show FOwn w10.heap.size w11 (.slice (some ⟨gy1, 0, none⟩) z1.length z1.length) z1 from ho)
  have Ry1 := Lib.hid Oy1.out.lt
  clear ho
  go_wp2_with fail
  refine (eqF_any _ _ z1 z1 _ (fown_FS Ox1.out HW1.out) (fown_FS Oy1.out HW1.out) rfl hn1 (fun _ _ => rfl)).mono ?_; rintro e w' ⟨rfl, m, rfl⟩
  have hb := below_drewN (Below.refl w11.heap.size w11) m
  generalize w11.drewN m = w12 at hb ⊢
  have D12 := Lib.hid (D11.out.trans (hb.mono D11.out.size)); have S12 := Lib.hid (hb.size)
  replace Ox1 := Lib.hid (fown_below Ox1.out hb)
  replace Ox2 := Lib.hid (fown_below Ox2.out hb)
  replace Oy1 := Lib.hid (fown_below Oy1.out hb)
  clear hb
  clear Oy1 Ry1
  go_wp2_with fail
  refine (toF_any _ z2 _ (HU2.out.below D12.out) hn2).mono ?_; rintro e w13 ⟨⟨gy2, rfl, ho⟩, hb⟩
  have D13 := Lib.hid (D12.out.trans (hb.mono D12.out.size)); have S13 := Lib.hid (hb.size)
  replace Ox1 := Lib.hid (fown_below Ox1.out hb)
  replace Ox2 := Lib.hid (fown_below Ox2.out hb)
  clear hb
  have Oy2 := Lib.hid (show FOwn w12.heap.size w13 (.slice (some ⟨gy2, 0, none⟩) z2.length z2.length) z2 from ho)
  have Ry2 := Lib.hid Oy2.out.lt
  clear ho
  go_wp2_with fail
  refine (eqF_any _ _ z2 z2 _ (fown_FS Ox2.out HW2.out) (fown_FS Oy2.out HW2.out) rfl hn2 (fun _ _ => rfl)).mono ?_; rintro e w' ⟨rfl, m, rfl⟩
  have hb := below_drewN (Below.refl w13.heap.size w13) m
  generalize w13.drewN m = w14 at hb ⊢
  have D14 := Lib.hid (D13.out.trans (hb.mono D13.out.size)); have S14 := Lib.hid (hb.size)
  replace Ox1 := Lib.hid (fown_below Ox1.out hb)
  replace Ox2 := Lib.hid (fown_below Ox2.out hb)
  replace Oy2 := Lib.hid (fown_below Oy2.out hb)
  clear hb
  clear Oy2 Ry2
  go_wp2_with fail
  go_ret
  exact ⟨rfl, HB.out.trans (D14.out.mono HB.out.size)⟩

/-! ### from the walk to the statement -/
theorem own : ownKnob Try.prog.godebug = none := by kernel_rfl
theorem laidOut : laidOutB Try.prog = true := by kernel_rfl
set_option maxRecDepth 100000 in
theorem lifted (os : Os) (started : os.Started) (H : Type) (enc : TypeId × Value → H) :
    ReturnsInHanded {} Try.checked os 12 .any (Rows.fnExactSlideOfSpec.pre6 enc Try.prog Try.f12 Rows.fnExactSlideOfRow.domain false) (Rows.fnExactSlideOfSpec.post enc Try.prog Try.f12 false true false false) := by
  refine returnsInHanded_of_change (C := Try.checked) own started (by kernel_rfl) Try.func12
    (ChangeSpec.witness6 (enc := enc) (C := Try.checked) false ⟨#[], #[.agg #[.int .i64 0, .int .i64 0], .slice none 0 0, .slice none 0 0, .int .i64 0], []⟩ 8 (by kernel_rfl) (by kernel_rfl) (by kernel_rfl) (by kernel_rfl)) ?_
  intro W base args ds gs before hval0 hW hcnd _
  have hval : ∀ (j : Nat) t v, Try.f12.params[j]? = some t → args[j]? = some v → Value.okWide Try.prog W .any base t v := hval0
  have hW' := hW
  obtain ⟨p, q, hA0, hV, rfl, hfz, hnd⟩ := hW
  have hA : DataW.TrodAll enc Try.prog W 0 (fun _ => true) true Try.f12.params.toList args.toList ds p := hA0
  rw [Try.params12] at hA hval
  obtain ⟨v0, vs0, d0, ds0, p0, q0, hargs, rfl, rfl, h0, r0⟩ := trodAll_cons hA
  obtain ⟨v1, vs1, d1, ds1, p1, q1, rfl, rfl, rfl, h1, r1⟩ := trodAll_cons r0
  obtain ⟨v2, vs2, d2, ds2, p2, q2, rfl, rfl, rfl, h2, r2⟩ := trodAll_cons r1
  obtain ⟨v3, vs3, d3, ds3, p3, q3, rfl, rfl, rfl, h3, r3⟩ := trodAll_cons r2
  obtain ⟨rfl, rfl, rfl⟩ := trodAll_nil r3
  obtain rfl : args = #[v0, v1, v2, v3] := by cases args; simp_all
  obtain ⟨rfl, rfl⟩ := trodVars_none hV
  obtain ⟨a0, b0, rfl, rfl, rfl, w0, x0⟩ := open_pair Try.underlying23 Try.underlying2 (by kernel_rfl) (by kernel_rfl) (hval 0 23 v0 rfl rfl) h0
  obtain ⟨a1, len1, cap1, rfl⟩ := okWide_slice Try.underlying24 (hval 1 24 v1 rfl rfl)
  have k1 := h1
  have lt1 : ∀ x ∈ p1, x.block < W.heap.size := by obtain ⟨m, hm⟩ := k1; exact DataW.trod_lt m _ _ _ hm
  obtain ⟨z1, w1⟩ : ∃ zs, FS .f32 W (.slice a1 len1 cap1) zs := open_floats Try.underlying24 Try.underlying46 (by kernel_rfl) h1
  obtain ⟨a2, len2, cap2, rfl⟩ := okWide_slice Try.underlying24 (hval 2 24 v2 rfl rfl)
  have k2 := h2
  have lt2 : ∀ x ∈ p2, x.block < W.heap.size := by obtain ⟨m, hm⟩ := k2; exact DataW.trod_lt m _ _ _ hm
  obtain ⟨z2, w2⟩ : ∃ zs, FS .f32 W (.slice a2 len2 cap2) zs := open_floats Try.underlying24 Try.underlying46 (by kernel_rfl) h2
  obtain ⟨a3, rfl, rfl, rfl, w3⟩ := open_int Try.underlying2 (hval 3 2 v3 rfl rfl) h3
  clear hA0 hval0
  refine (walk a0 b0 a1 len1 cap1 z1 a2 len2 cap2 z2 a3 W w0 x0 w1 w2 w3).mono fun e W' ⟨he, bel⟩ => ?_
  subst he
  exact ⟨_, rfl, _, _, _, [], _, [], hW', trodAll_mk1 (shut_bool Try.underlying4 _), (trodAll_cons_mk (shut_pair Try.underlying23 Try.underlying2 (by kernel_rfl) (by kernel_rfl) w0 x0) (trodAll_cons_mk (Below.trod laidOut (by kernel_rfl) (of_decide_eq_true (by kernel_rfl)) k1 bel lt1) (trodAll_cons_mk (Below.trod laidOut (by kernel_rfl) (of_decide_eq_true (by kernel_rfl)) k2 bel lt2) (trodAll_cons_mk (shut_int Try.underlying2 w3) trodAll_mk0)))), rfl, bel.frame _, fun h => by cases h⟩

theorem over : Rows.fnExactSlideOfRow.holds Try.pinned (OpenSpec.ofChange Rows.fnExactSlideOfSpec) :=
  OpenClaim.holds_of_wide 12 Try.f12 rfl rfl rfl rfl rfl rfl rfl ⟨rfl, rfl, rfl, rfl, rfl⟩ rfl rfl rfl rfl rfl (by kernel_rfl) Try.func12 (by kernel_rfl)
    (of_decide_eq_true (by kernel_rfl)) (by unfold Func.isWrapper; first | (rw [if_pos (by decide +kernel)]; kernel_rfl) | (rw [if_neg (by decide +kernel)]; exact ⟨rfl, rfl⟩))
    (fun os started H enc _ => lifted os started H enc)

/-- The statement. -/
theorem proved : Rows.FnExactSlideOfSaid := over
#print axioms proved
end Go.Proofs.Ytlfnbnhbobohlaa.fnExactSlideOf
