/-
  TwoGrids, of the program and of the model.
-/
import Derived.Test.YtjfnecmnofcjbaaCorr
import Derived.Test.YtjfnecmnofcjbaaTwoS
namespace Go.Proofs.Ytjfnecmnofcjbaa
open Go.Fl Go.RowKit
open Go.Joins (ownsRow_le)
set_option linter.unusedSimpArgs false
set_option linter.unusedVariables false

set_option maxHeartbeats 2000000 in
set_option maxRecDepth 100000 in
theorem iTwoGrids_any (a b : Int) (u : Value) (xs : List Nat) (v : Value) (zs : List Nat) (r : Int) (w : World) (hu : FS .f32 w u xs) (hn : xs.length ≤ 1048576) (hv : FS .f32 w v zs) (hn2 : zs.length ≤ 1048576) (hr : -9223372036854775808 ≤ r ∧ r ≤ 9223372036854775807) :
    Calls Try.prog 25 #[GV a b, u, v, .int .i64 r] w fun e w' => (∃ x, e = .returned (.tuple #[x, .bool (okTwoGrids a b xs zs r)]) ∧ FRes w.heap.size w' x (lenTwoGrids a b xs zs r) (twoF a b xs zs r.toNat)) ∧ Below w.heap.size w w' := by
  have HU := Lib.hid hu; have HV := Lib.hid hv
  obtain ⟨a1, c1, rfl, hlc, hcm, hwf, hmem⟩ := hu
  obtain ⟨a2, c2, rfl, hlc2, hcm2, hwf2, hmem2⟩ := hv
  have HWX := Lib.hid hwf
  have hb0 := (Below.refl w.heap.size w).alloc (Nat.le_refl _) (.cells #[.int .i64 a, .int .i64 b] 27)
  have HG := Lib.hid (heap_alloc_new w (.cells #[.int .i64 a, .int .i64 b] 27))
  clear hmem hlc hcm hwf hmem2 hlc2 hcm2 hwf2
  obtain ⟨ok, hok⟩ : ∃ ok, okTwoGrids a b xs zs r = ok := ⟨_, rfl⟩
  obtain ⟨N, hN⟩ : ∃ N, lenTwoGrids a b xs zs r = N := ⟨_, rfl⟩
  rw [hok, hN]
  have HOK := Lib.hid hok; have HNN := Lib.hid hN
  clear hok hN
  cases h : fieldOk a b xs.length && fieldOk a b zs.length with
  | true =>
    rw [Bool.and_eq_true] at h
    have HLL := Lib.hid (show zs.length = xs.length by have := (fieldOk_true h.1).2.2.2.2.1; have := (fieldOk_true h.2).2.2.2.2.1; omega)
    have HA := Lib.hid (fieldOk_true h.1)
    have H1 := Lib.hid h.1; have H2 := Lib.hid h.2
    have hpos : 0 < xs.length := by
      have := HA.out; have h4 : 4 * 4 ≤ a * b := Int.mul_le_mul this.1 this.2.2.1 (by omega) (by omega); omega
    clear h
    go_enter Try.func25, Try.ntmps25
    go_wp2_with fail
    generalize w.alloc (.cells #[.int .i64 a, .int .i64 b] 27) = w1 at hb0 HG ⊢
    refine (newBoard_yes a b _ _ xs zs _ (HU.out.below hb0) (HV.out.below hb0) H1.out H2.out).mono ?_; rintro e w2 ⟨⟨p, q, rfl, hp, hq, hqp, hpq⟩, hb2⟩
    rw [HLL.out] at hq
    obtain ⟨gv, capv, rfl, hrv⟩ := RW.of hp hpos
    obtain ⟨gl, capl, ls, rfl, hlsl, hlse, hlso⟩ := fres_row hq hpos
    have hrl : RW w1.heap.size w2 gl capl ls := by show w2.ownsRow _ _ _ (.slice _ ls.length _) ls.length _; rw [hlsl]; exact hlso
    have hne : gv ≠ gl := by
      rcases hpq with h | h
      · cases h
      · exact fun e => h (by rw [e]; rfl)
    have hbb := hb0.trans (hb2.mono hb0.size)
    have hal := (Below.refl w2.heap.size w2).alloc (Nat.le_refl _) (.cells #[.int .i64 a, .int .i64 b, .slice (some ⟨gv, 0, none⟩) xs.length capv, .slice (some ⟨gl, 0, none⟩) xs.length capl] 108)
    have HBX := Lib.hid (heap_alloc_new w2 (.cells #[.int .i64 a, .int .i64 b, .slice (some ⟨gv, 0, none⟩) xs.length capv, .slice (some ⟨gl, 0, none⟩) xs.length capl] 108))
    have HKV := Lib.hid (show gv ≠ w2.heap.size from by have := (hrv.lt gv rfl).2; omega)
    have HBV := Lib.hid (hrv.lt gv rfl)
    have HRV := Lib.hid (hrv.still hal); have HRL := Lib.hid (hrl.still hal); have HNE := Lib.hid hne
    have HG3 := Lib.hid ((hal.block w.heap.size (Nat.lt_of_lt_of_le (Array.getElem?_eq_some_iff.1 HG.out).1 hb2.size)).trans ((hb2.block w.heap.size (Array.getElem?_eq_some_iff.1 HG.out).1).trans HG.out))
    have HLS := Lib.hid hlsl; have HLE := Lib.hid hlse; have HB0 := Lib.hid hb0
    have HB := Lib.hid (hbb.trans (hal.mono hbb.size))
    have HWL := Lib.hid (show ∀ x ∈ ls, x < 2 ^ FloatKind.f32.format.width from (EqOn.eqs hlse hlsl).lt)
    clear hp hq hqp hpq hrv hlsl hlse hlso hrl hne hb2 hb0 hbb hal
    cases hc2 : (decide (0 ≤ r) && decide (r ≤ 60)) with
    | true =>
      have HC := Lib.hid hc2
      obtain ⟨R, hR, hR2⟩ : ∃ R : Nat, r = (R : Int) ∧ R ≤ 60 := by
        rw [Bool.and_eq_true, decide_eq_true_iff, decide_eq_true_iff] at hc2
        exact ⟨r.toNat, by omega, by omega⟩
      subst hR
      have HR2 := Lib.hid hR2
      clear hc2 hr hR2
      go_wp2_with fail
      generalize w2.alloc (.cells #[.int .i64 a, .int .i64 b, .slice (some ⟨gv, 0, none⟩) xs.length capv, .slice (some ⟨gl, 0, none⟩) xs.length capl] 108) = w3 at HBX HRV HRL HB HG3 ⊢
      refine (isRounds_any _ _).mono ?_; rw [HC.out]; rintro e w' ⟨rfl, rfl⟩
      have g0 := (pair_cells HG3.out).1; have g1 := (pair_cells HG3.out).2.1
      go_wp2_with fail
      clear g0 g1
      cases h3 : halvesB a b with
      | true =>
        have H3 := Lib.hid h3
        clear h3
        refine (iHalved_any a b _ (by have := HA.out; omega) (by have := HA.out; omega)).mono ?_; rw [H3.out]; rintro e w4 ⟨rfl, hb4⟩
        have HBX4 := Lib.hid ((hb4.block w2.heap.size (Array.getElem?_eq_some_iff.1 HBX.out).1).trans HBX.out)
        have HRV4 := Lib.hid (HRV.out.still hb4); have HRL4 := Lib.hid (HRL.out.still hb4)
        have HB4 := Lib.hid (HB.out.trans (hb4.mono HB.out.size))
        clear hb4 HBX HRV HRL HB HG3 HG
        have k0 := (four_cells HBX4.out).1; have k1 := (four_cells HBX4.out).2.1; have k2 := (four_cells HBX4.out).2.2.1; have k3 := (four_cells HBX4.out).2.2.2.1
        go_wp2_with fail
        clear k0 k1 k2 k3
        refine (makeRounds_any a b R gv capv gl capl xs ls w1.heap.size _ HR2.out HRV4.out HRL4.out HNE.out H1.out HLS.out HWX.out HWL.out).mono ?_; rintro e w5 ⟨⟨es, rfl, hel, hew, hee, hve, hvl⟩, hg⟩
        have HEL := Lib.hid hel; have HEW := Lib.hid hew; have HEE := Lib.hid hee; have HVE := Lib.hid hve; have HVL := Lib.hid hvl
        have HBX5 := Lib.hid ((hg.block w2.heap.size (Array.getElem?_eq_some_iff.1 HBX4.out).1 (fun e => HKV.out (Option.some.inj e).symm)).trans HBX4.out)
        have HB5 := Lib.hid (HB4.out.grown hg HB4.out.size (fun k e => by cases e; exact Nat.le_trans HB0.out.size HBV.out.1))
        clear hel hew hee hve hvl hg HBX4 HRV4 HRL4 HB4
        have k0 := (four_cells HBX5.out).1; have k1 := (four_cells HBX5.out).2.1; have k2 := (four_cells HBX5.out).2.2.1; have k3 := (four_cells HBX5.out).2.2.2.1
        go_wp2_with fail
        clear k0 k1 k2 k3
        have hh := correct_any a b gv capv gl capl es ls w1.heap.size _ HVE.out HVL.out HNE.out (by rw [HEL.out]; exact H1.out) H3.out (by rw [HEL.out]; exact HLS.out) HEW.out HWL.out
        rw [HEL.out] at hh
        refine hh.mono ?_; clear hh; rintro e w6 ⟨⟨bs, rfl, hbl, hbw, hbe, hve, hvl⟩, hg⟩
        have HBL := Lib.hid hbl; have HBW := Lib.hid hbw; have HBE := Lib.hid hbe; have HVB := Lib.hid hve; have HVL6 := Lib.hid hvl
        have HBX6 := Lib.hid ((hg.block w2.heap.size (Array.getElem?_eq_some_iff.1 HBX5.out).1 (fun e => HKV.out (Option.some.inj e).symm)).trans HBX5.out)
        have HB6 := Lib.hid (HB5.out.grown hg HB5.out.size (fun k e => by cases e; exact Nat.le_trans HB0.out.size HBV.out.1))
        clear hbl hbw hbe hve hvl hg HBX5 HVE HVL HB5
        have k0 := (four_cells HBX6.out).1; have k1 := (four_cells HBX6.out).2.1; have k2 := (four_cells HBX6.out).2.2.1; have k3 := (four_cells HBX6.out).2.2.2.1
        go_wp2_with fail
        clear k0 k1 k2 k3
        have hh := makeRounds_any a b R gv capv gl capl bs ls w1.heap.size w6 HR2.out HVB.out HVL6.out HNE.out (by rw [HBL.out]; exact H1.out) (by rw [HBL.out]; exact HLS.out) HBW.out HWL.out
        rw [HBL.out] at hh
        refine hh.mono ?_; clear hh; rintro e w7 ⟨⟨fs, rfl, hfl, hfw, hfe, hvf, _⟩, hg⟩
        have HBX7 := Lib.hid ((hg.block w2.heap.size (Array.getElem?_eq_some_iff.1 HBX6.out).1 (fun e => HKV.out (Option.some.inj e).symm)).trans HBX6.out)
        have HB7 := Lib.hid (HB6.out.grown hg HB6.out.size (fun k e => by cases e; exact Nat.le_trans HB0.out.size HBV.out.1))
        have HRES := Lib.hid (fres_le (RW.res hvf hfl (twoF_of H1.out HLE.out HEL.out HEE.out HBE.out hfe)) HB0.out.size)
        clear hfl hfw hfe hvf hg
        have k0 := (four_cells HBX7.out).1; have k1 := (four_cells HBX7.out).2.1; have k2 := (four_cells HBX7.out).2.2.1; have k3 := (four_cells HBX7.out).2.2.2.1
        go_wp2_with fail
        go_ret2
        rw [← HOK.out, ← HNN.out, (okTwo_yes H1.out H2.out H3.out HC.out).1, (okTwo_yes H1.out H2.out H3.out HC.out).2]
        exact ⟨⟨_, rfl, by rw [Int.toNat_natCast]; exact HRES.out⟩, HB7.out⟩
      | false =>
        have H3 := Lib.hid h3
        clear h3
        refine (iHalved_any a b _ (by have := HA.out; omega) (by have := HA.out; omega)).mono ?_; rw [H3.out]; rintro e w4 ⟨rfl, hb4⟩
        go_wp2_with fail
        go_ret2
        rw [← HOK.out, ← HNN.out, (okTwo_no (.inr (.inl H3.out))).1, (okTwo_no (.inr (.inl H3.out))).2]
        exact ⟨⟨_, rfl, fres_none _ _ _⟩, HB.out.trans (hb4.mono HB.out.size)⟩
    | false =>
      have HC := Lib.hid hc2
      clear hc2 hr
      go_wp2_with fail
      generalize w2.alloc (.cells #[.int .i64 a, .int .i64 b, .slice (some ⟨gv, 0, none⟩) xs.length capv, .slice (some ⟨gl, 0, none⟩) xs.length capl] 108) = w3 at HBX HRV HRL HB HG3 ⊢
      refine (isRounds_any _ _).mono ?_; rw [HC.out]; rintro e w' ⟨rfl, rfl⟩
      go_wp2_with fail
      go_ret2
      rw [← HOK.out, ← HNN.out, (okTwo_no (.inr (.inr HC.out))).1, (okTwo_no (.inr (.inr HC.out))).2]
      exact ⟨⟨_, rfl, fres_none _ _ _⟩, HB.out⟩
  | false =>
    have H1 := Lib.hid h
    clear h hr
    go_enter Try.func25, Try.ntmps25
    go_wp2_with fail
    generalize w.alloc (.cells #[.int .i64 a, .int .i64 b] 27) = w1 at hb0 HG ⊢
    refine (newBoard_no a b _ _ xs zs _ (HU.out.below hb0) (HV.out.below hb0) hn2 H1.out).mono ?_; rintro e w2 ⟨rfl, hb2⟩
    have hbb := hb0.trans (hb2.mono hb0.size)
    go_wp2_with fail
    go_ret2
    rw [← HOK.out, ← HNN.out, (okTwo_no (.inl H1.out)).1, (okTwo_no (.inl H1.out)).2]
    exact ⟨⟨_, rfl, fres_none _ _ _⟩, hbb.alloc hbb.size _⟩

set_option maxHeartbeats 2000000 in
set_option maxRecDepth 100000 in
theorem sTwoGrids_any (a b : Int) (u : Value) (xs : List Nat) (v : Value) (zs : List Nat) (r : Int) (w : World) (hu : FS .f32 w u xs) (hn : xs.length ≤ 1048576) (hv : FS .f32 w v zs) (hn2 : zs.length ≤ 1048576) (hr : -9223372036854775808 ≤ r ∧ r ≤ 9223372036854775807) :
    Calls Try.prog 24 #[GV a b, u, v, .int .i64 r] w fun e w' => (∃ x, e = .returned (.tuple #[x, .bool (okTwoGrids a b xs zs r)]) ∧ FRes w.heap.size w' x (lenTwoGrids a b xs zs r) (twoF a b xs zs r.toNat)) ∧ Below w.heap.size w w' := by
  cases h1 : fieldOk a b xs.length with
  | true =>
    cases h2 : fieldOk a b zs.length with
    | true =>
      cases h3 : halvesB a b with
      | true =>
        cases hc2 : (decide (0 ≤ r) && decide (r ≤ 60)) with
        | true =>
          rw [(okTwo_yes h1 h2 h3 hc2).1, (okTwo_yes h1 h2 h3 hc2).2]
          obtain ⟨R, hR, hR2⟩ : ∃ R : Nat, r = (R : Int) ∧ R ≤ 60 := by
            rw [Bool.and_eq_true, decide_eq_true_iff, decide_eq_true_iff] at hc2
            exact ⟨r.toNat, by omega, by omega⟩
          subst hR
          rw [Int.toNat_natCast]
          exact sTwoGrids_yes a b u xs v zs R w hu hn hv hn2 hR2 h1 h2 h3
        | false =>
          rw [(okTwo_no (.inr (.inr hc2))).1, (okTwo_no (.inr (.inr hc2))).2]
          have HC2 := Lib.hid (show decide (0 ≤ r ∧ r ≤ 60) = false by rw [Bool.and_eq_false_iff, decide_eq_false_iff_not, decide_eq_false_iff_not] at hc2; exact decide_eq_false (by omega))
          have H1 := Lib.hid h1; have H2 := Lib.hid h2; have H3 := Lib.hid h3; have HA := Lib.hid (fieldOk_true h1)
          obtain ⟨a1, c1, rfl, hlc, hcm, hwf, hmem⟩ := hu
          obtain ⟨a2, c2, rfl, hlc2, hcm2, hwf2, hmem2⟩ := hv
          have HP := Lib.hid (gp_new w a b 27)
          have hb0 := (Below.refl w.heap.size w).alloc (Nat.le_refl _) (.cells #[.int .i64 a, .int .i64 b] 27)
          clear hlc hcm hwf hmem hlc2 hcm2 hwf2 hmem2 hn hn2 hr h1 h2 h3 hc2
          go_enter Try.func24, Try.ntmps24
          go_wp2_with fail
          generalize w.alloc (.cells #[.int .i64 a, .int .i64 b] 27) = w1 at hb0 HP ⊢
          refine (sFits_any _ a b a1 xs.length c1 _ HP.out).mono ?_; rw [H1.out]; rintro e w' ⟨rfl, m1, rfl⟩
          go_wp2_with fail
          refine (sFits_any _ a b a2 zs.length c2 _ (GP.drewN HP.out m1)).mono ?_; rw [H2.out]; rintro e w' ⟨rfl, m2, rfl⟩
          go_wp2_with fail
          refine (sHalves_any _ a b _ (GP.drewN HP.out (m1 + m2)) (by have := HA.out; omega) (by have := HA.out; omega)).mono ?_; rw [H3.out]; rintro e w' ⟨rfl, rfl⟩
          go_wp2_with fail
          refine (sIn_any _ 0 60 _).mono ?_; rw [HC2.out]; rintro e w' ⟨rfl, rfl⟩
          go_wp2_with fail
          go_ret2
          exact ⟨⟨_, rfl, fres_none _ _ _⟩, below_drewN hb0 _⟩
      | false =>
          rw [(okTwo_no (.inr (.inl h3))).1, (okTwo_no (.inr (.inl h3))).2]
          have H1 := Lib.hid h1; have H2 := Lib.hid h2; have H3 := Lib.hid h3; have HA := Lib.hid (fieldOk_true h1)
          obtain ⟨a1, c1, rfl, hlc, hcm, hwf, hmem⟩ := hu
          obtain ⟨a2, c2, rfl, hlc2, hcm2, hwf2, hmem2⟩ := hv
          have HP := Lib.hid (gp_new w a b 27)
          have hb0 := (Below.refl w.heap.size w).alloc (Nat.le_refl _) (.cells #[.int .i64 a, .int .i64 b] 27)
          clear hlc hcm hwf hmem hlc2 hcm2 hwf2 hmem2 hn hn2 hr h1 h2 h3
          go_enter Try.func24, Try.ntmps24
          go_wp2_with fail
          generalize w.alloc (.cells #[.int .i64 a, .int .i64 b] 27) = w1 at hb0 HP ⊢
          refine (sFits_any _ a b a1 xs.length c1 _ HP.out).mono ?_; rw [H1.out]; rintro e w' ⟨rfl, m1, rfl⟩
          go_wp2_with fail
          refine (sFits_any _ a b a2 zs.length c2 _ (GP.drewN HP.out m1)).mono ?_; rw [H2.out]; rintro e w' ⟨rfl, m2, rfl⟩
          go_wp2_with fail
          refine (sHalves_any _ a b _ (GP.drewN HP.out (m1 + m2)) (by have := HA.out; omega) (by have := HA.out; omega)).mono ?_; rw [H3.out]; rintro e w' ⟨rfl, rfl⟩
          go_wp2_with fail
          go_ret2
          exact ⟨⟨_, rfl, fres_none _ _ _⟩, below_drewN hb0 _⟩
    | false =>
          rw [(okTwo_no (.inl (by rw [h1, h2]; rfl))).1, (okTwo_no (.inl (by rw [h1, h2]; rfl))).2]
          have H1 := Lib.hid h1; have H2 := Lib.hid h2
          obtain ⟨a1, c1, rfl, hlc, hcm, hwf, hmem⟩ := hu
          obtain ⟨a2, c2, rfl, hlc2, hcm2, hwf2, hmem2⟩ := hv
          have HP := Lib.hid (gp_new w a b 27)
          have hb0 := (Below.refl w.heap.size w).alloc (Nat.le_refl _) (.cells #[.int .i64 a, .int .i64 b] 27)
          clear hlc hcm hwf hmem hlc2 hcm2 hwf2 hmem2 hn hn2 hr h1 h2
          go_enter Try.func24, Try.ntmps24
          go_wp2_with fail
          generalize w.alloc (.cells #[.int .i64 a, .int .i64 b] 27) = w1 at hb0 HP ⊢
          refine (sFits_any _ a b a1 xs.length c1 _ HP.out).mono ?_; rw [H1.out]; rintro e w' ⟨rfl, m1, rfl⟩
          go_wp2_with fail
          refine (sFits_any _ a b a2 zs.length c2 _ (GP.drewN HP.out m1)).mono ?_; rw [H2.out]; rintro e w' ⟨rfl, m2, rfl⟩
          go_wp2_with fail
          go_ret2
          exact ⟨⟨_, rfl, fres_none _ _ _⟩, below_drewN hb0 _⟩
  | false =>
          rw [(okTwo_no (.inl (by rw [h1]; rfl))).1, (okTwo_no (.inl (by rw [h1]; rfl))).2]
          have H1 := Lib.hid h1
          obtain ⟨a1, c1, rfl, hlc, hcm, hwf, hmem⟩ := hu
          obtain ⟨a2, c2, rfl, hlc2, hcm2, hwf2, hmem2⟩ := hv
          have HP := Lib.hid (gp_new w a b 27)
          have hb0 := (Below.refl w.heap.size w).alloc (Nat.le_refl _) (.cells #[.int .i64 a, .int .i64 b] 27)
          clear hlc hcm hwf hmem hlc2 hcm2 hwf2 hmem2 hn hn2 hr h1
          go_enter Try.func24, Try.ntmps24
          go_wp2_with fail
          generalize w.alloc (.cells #[.int .i64 a, .int .i64 b] 27) = w1 at hb0 HP ⊢
          refine (sFits_any _ a b a1 xs.length c1 _ HP.out).mono ?_; rw [H1.out]; rintro e w' ⟨rfl, m1, rfl⟩
          go_wp2_with fail
          go_ret2
          exact ⟨⟨_, rfl, fres_none _ _ _⟩, below_drewN hb0 _⟩
end Go.Proofs.Ytjfnecmnofcjbaa
