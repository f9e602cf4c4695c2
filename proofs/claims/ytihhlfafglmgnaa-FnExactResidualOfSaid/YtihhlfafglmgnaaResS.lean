/-
  ResidualOf of the model.
-/
import Derived.Test.YtihhlfafglmgnaaRes
namespace Go.Proofs.Ytihhlfafglmgnaa
open Go.Fl Go.RowKit
open Go.Joins (ownsRow_le)
set_option linter.unusedSimpArgs false
set_option linter.unusedVariables false

set_option maxHeartbeats 8000000 in
set_option maxRecDepth 100000 in
theorem sResidualOf_any (a b : Int) (u : Value) (xs : List Nat) (v : Value) (zs : List Nat) (w : World) (hu : FS .f32 w u xs) (hn : xs.length ≤ 1048576) (hv : FS .f32 w v zs) (hn2 : zs.length ≤ 1048576) :
    Calls Try.prog 27 #[GV a b, u, v] w fun e w' => (∃ r, e = .returned (.tuple #[.float .f32 r, .bool (okResidualOf a b xs zs)]) ∧ Is .f32 r (valResidualOf a b xs zs)) ∧ Below w.heap.size w w' := by
  have HU := Lib.hid hu; have HV := Lib.hid hv
  obtain ⟨a1, c1, rfl, hlc, hcm, hwf, hmem⟩ := hu
  obtain ⟨a2, c2, rfl, hlc2, hcm2, hwf2, hmem2⟩ := hv
  have HP := Lib.hid (gp_new w a b 28)
  have hb0 := (Below.refl w.heap.size w).alloc (Nat.le_refl _) (.cells #[.int .i64 a, .int .i64 b] 28)
  clear hmem hlc hcm hwf hmem2 hlc2 hcm2 hwf2
  unfold valResidualOf okResidualOf
  cases h1 : fieldOk a b xs.length with
  | true =>
    cases h2 : fieldOk a b zs.length with
    | true =>
      have HLL := Lib.hid (show zs.length = xs.length by have := (fieldOk_true h1).2.2.2.2.1; have := (fieldOk_true h2).2.2.2.2.1; omega)
      have HA := Lib.hid (fieldOk_true h1)
      have hpos : 0 < xs.length := by
        have := HA.out; have h4 : 4 * 4 ≤ a * b := Int.mul_le_mul this.1 this.2.2.1 (by omega) (by omega); omega
      have H1 := Lib.hid h1; have H2 := Lib.hid h2
      clear h1 h2
      go_enter Try.func27, Try.ntmps27
      go_wp2_with fail
      generalize w.alloc (.cells #[.int .i64 a, .int .i64 b] 28) = w1 at hb0 HP ⊢
      refine (sFits_any _ a b a1 xs.length c1 _ HP.out).mono ?_; rw [H1.out]; rintro e w' ⟨rfl, m1, rfl⟩
      go_wp2_with fail
      refine (sFits_any _ a b a2 zs.length c2 _ (GP.drewN HP.out m1)).mono ?_; rw [H2.out]; rintro e w' ⟨rfl, m2, rfl⟩
      go_wp2_with fail
      refine (sRest_any _ a b _ _ xs zs _ (GP.drewN HP.out (m1 + m2)) ((HU.out.below hb0).drewN (m1 + m2)) ((HV.out.below hb0).drewN (m1 + m2)) H1.out HLL.out).mono ?_; rintro e w3 ⟨⟨q, rfl, hq⟩, hb3⟩
      have hbb := below_drewN hb0 (m1 + m2)
      obtain ⟨g, cap, ms, rfl, hml, hme, hmo⟩ := fres_row hq hpos
      have HML := Lib.hid hml; have HME := Lib.hid hme; have HMO := Lib.hid hmo
      have HD := Lib.hid (hbb.trans (hb3.mono hbb.size))
      clear hq hml hme hmo hb3 hbb hb0
      generalize hG : restV a b xs (lvlF zs) = G at HME
      have HGG := Lib.hid hG
      clear hG
      go_wp2_with fail
      go_loopw [8, 25] (fun s i wr => ∃ (k r m : Nat), s = .float .f32 r ∧ i = .int .i64 (k : Int) ∧ k ≤ xs.length ∧ wr = w3.drewN m ∧ Hid (Is .f32 r (resR G k)) ∧ Hid (Plus (resR G k))) (fun _ i _ => xs.length - (intOf i).toNat)
      case atStart => exact ⟨0, 0, 0, rfl, rfl, Nat.zero_le _, rfl, Lib.hid (Is.const rfl), Lib.hid plus_zero⟩
      case round =>
        obtain ⟨k, r0, m, rfl, rfl, hk, rfl, HR, HPL⟩ := hrel
        by_cases hlt : k < xs.length
        · have xm := row_at' HMO.out HML.out hlt
          have ixm := HME.out k (Nat.zero_le _) hlt
          have ixr := HR.out
          have iK0 : (0 : Int) ≤ (k : Int) := Int.natCast_nonneg _
          have iK1 : (k : Int) < (xs.length : Int) := by omega
          generalize hms : ms.getD k 0 = y at xm ixm
          clear hms
          by_cases hnan : nan .f32 (G k) = true
          · have hc : fcmp .lss .f32 (G k) 0 = false := lss_nan 0 hnan
            have hne : fcmp .neq .f32 (G k) (G k) = true := by rw [neq_self]; exact hnan
            have HQ := Lib.hid (show Is .f32 y (resR G xs.length) by
              rw [resR_nan G hnan xs.length hlt, ← cn_nan .f32 hnan, ixm.canon]; exact ixm)
            generalize G k = X at ixm hc hne
            clear hnan
            go_wp2_with (first | (apply wpList_fcmp; rfl; rfl; rfl; rfl; (first | with_reducible assumption | exact Is.const rfl); (first | with_reducible assumption | exact Is.const rfl); (first | with_reducible assumption | exact rfl)))
            go_ret2
            exact ⟨⟨_, rfl, by rw [HGG.out]; simpa using HQ.out⟩, below_drewN HD.out _⟩
          · have hX := not_nan_of hnan
            have HST := Lib.hid (stepR_num HPL.out ixm.lt' hX)
            have HSX := Lib.hid (show resR G (k + 1) = stepR (resR G k) (G k) from rfl)
            have HNA := Lib.hid (absV_num ixm.lt' hX)
            clear hnan
            generalize resR G k = O at ixr HST HSX
            generalize G k = X at ixm HST HSX HNA hX
            by_cases hc : fcmp .lss .f32 X 0 = true
            · have hA : absV X = fneg .f32 X := by unfold absV; rw [if_pos hc]
              have ixn := ixm.neg32
              rw [hA] at HST HNA
              have hne : fcmp .neq .f32 (fneg .f32 X) (fneg .f32 X) = false := by rw [neq_self]; exact HNA.out
              generalize fneg .f32 X = Z at ixn HST hne
              clear hA HNA hX
              by_cases hg : fcmp .gtr .f32 Z O = true
              · have HV := Lib.hid HST.out
                have HNX := Lib.hid (show resR G (k + 1) = Z by rw [HSX.out, HST.out.1, if_pos hg])
                have HPN := Lib.hid (show Plus (resR G (k + 1)) by rw [HSX.out]; exact HST.out.2)
                go_wp2_with (first | (apply wpList_fcmp; rfl; rfl; rfl; rfl; (first | with_reducible assumption | exact Is.const rfl); (first | with_reducible assumption | exact Is.const rfl); (first | with_reducible assumption | exact rfl)))
                go_roundw
                case rel => exact ⟨k + 1, (Op.negFloat .f32 y), m, rfl, by go_num, by omega, rfl, Lib.hid (by rw [HNX.out]; assumption), HPN⟩
                case measure => simp [intOf]; omega
              · have hg : fcmp .gtr .f32 Z O = false := by simpa using hg
                have HNX := Lib.hid (show resR G (k + 1) = O by rw [HSX.out, HST.out.1, if_neg (by rw [hg]; simp)])
                have HPN := Lib.hid (show Plus (resR G (k + 1)) by rw [HSX.out]; exact HST.out.2)
                go_wp2_with (first | (apply wpList_fcmp; rfl; rfl; rfl; rfl; (first | with_reducible assumption | exact Is.const rfl); (first | with_reducible assumption | exact Is.const rfl); (first | with_reducible assumption | exact rfl)))
                go_roundw
                case rel => exact ⟨k + 1, r0, m, rfl, by go_num, by omega, rfl, Lib.hid (by rw [HNX.out]; assumption), HPN⟩
                case measure => simp [intOf]; omega
            · have hc : fcmp .lss .f32 X 0 = false := by simpa using hc
              have hA : absV X = X := by unfold absV; rw [hc]; rfl
              rw [hA] at HST
              have hne : fcmp .neq .f32 X X = false := by rw [neq_self]; exact hX
              clear hA HNA hX
              by_cases hg : fcmp .gtr .f32 X O = true
              · have HV := Lib.hid HST.out
                have HNX := Lib.hid (show resR G (k + 1) = X by rw [HSX.out, HST.out.1, if_pos hg])
                have HPN := Lib.hid (show Plus (resR G (k + 1)) by rw [HSX.out]; exact HST.out.2)
                go_wp2_with (first | (apply wpList_fcmp; rfl; rfl; rfl; rfl; (first | with_reducible assumption | exact Is.const rfl); (first | with_reducible assumption | exact Is.const rfl); (first | with_reducible assumption | exact rfl)))
                go_roundw
                case rel => exact ⟨k + 1, y, m, rfl, by go_num, by omega, rfl, Lib.hid (by rw [HNX.out]; assumption), HPN⟩
                case measure => simp [intOf]; omega
              · have hg : fcmp .gtr .f32 X O = false := by simpa using hg
                have HNX := Lib.hid (show resR G (k + 1) = O by rw [HSX.out, HST.out.1, if_neg (by rw [hg]; simp)])
                have HPN := Lib.hid (show Plus (resR G (k + 1)) by rw [HSX.out]; exact HST.out.2)
                go_wp2_with (first | (apply wpList_fcmp; rfl; rfl; rfl; rfl; (first | with_reducible assumption | exact Is.const rfl); (first | with_reducible assumption | exact Is.const rfl); (first | with_reducible assumption | exact rfl)))
                go_roundw
                case rel => exact ⟨k + 1, r0, m, rfl, by go_num, by omega, rfl, Lib.hid (by rw [HNX.out]; assumption), HPN⟩
                case measure => simp [intOf]; omega
        · have hk2 : k = xs.length := by omega
          have HR2 := Lib.hid (show Is .f32 r0 (resR G xs.length) by rw [← hk2]; exact HR.out)
          clear hk2
          go_wp2_with fail
          go_ret2
          exact ⟨⟨_, rfl, by rw [HGG.out]; simpa using HR2.out⟩, below_drewN HD.out _⟩
    | false =>
      have H1 := Lib.hid h1; have H2 := Lib.hid h2
      clear h1 h2
      go_enter Try.func27, Try.ntmps27
      go_wp2_with fail
      generalize w.alloc (.cells #[.int .i64 a, .int .i64 b] 28) = w1 at hb0 HP ⊢
      refine (sFits_any _ a b a1 xs.length c1 _ HP.out).mono ?_; rw [H1.out]; rintro e w' ⟨rfl, m1, rfl⟩
      go_wp2_with fail
      refine (sFits_any _ a b a2 zs.length c2 _ (GP.drewN HP.out m1)).mono ?_; rw [H2.out]; rintro e w' ⟨rfl, m2, rfl⟩
      go_wp2_with fail
      go_ret2
      exact ⟨⟨0, rfl, Is.const rfl⟩, below_drewN hb0 _⟩
  | false =>
    have H1 := Lib.hid h1
    clear h1
    go_enter Try.func27, Try.ntmps27
    go_wp2_with fail
    generalize w.alloc (.cells #[.int .i64 a, .int .i64 b] 28) = w1 at hb0 HP ⊢
    refine (sFits_any _ a b a1 xs.length c1 _ HP.out).mono ?_; rw [H1.out]; rintro e w' ⟨rfl, m1, rfl⟩
    go_wp2_with fail
    go_ret2
    exact ⟨⟨0, rfl, Is.const rfl⟩, below_drewN hb0 _⟩
end Go.Proofs.Ytihhlfafglmgnaa
