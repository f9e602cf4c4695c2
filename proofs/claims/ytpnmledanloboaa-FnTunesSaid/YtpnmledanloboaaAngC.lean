/-
  Angles: contracts of the program's functions and of the model's.
-/
import Derived.Test.YtpnmledanloboaaAng
import Derived.Test.YtpnmledanloboaaRoot
namespace Go.Proofs.Ytpnmledanloboaa
open Go.Fl Go.RowKit
set_option maxRecDepth 100000

theorem tau2_any (w : World) : Calls Try.prog 134 #[] w fun e w' => e = .returned (.float .f64 4618760256179416344) ∧ w = w' := by
  go_enter Try.func134, Try.ntmps134
  go_wp2
  go_ret
  exact ⟨rfl, rfl⟩

set_option maxHeartbeats 1000000 in
theorem iFlat_any (x T : Nat) (ix : Is .f64 x T) (w : World) :
    Calls Try.prog 129 #[.float .f64 x] w fun e w' => (∃ r, e = .returned (.float .f64 r) ∧ Is .f64 r (flatA T)) ∧ ∃ n, w' = w.drewN n := by
  have e : flatA T = (fop .quo .f64 (fop .mul .f64 4620693217682128896 (fop .mul .f64 (rtN T 3) (serA (fop .mul .f64 (rtN T 3) (rtN T 3)) 8))) 4618760256179416344) := rfl
  have EE := Lib.hid e
  clear e
  go_enter Try.func129, Try.ntmps129
  go_wp2
  go_loopw [0, 6] (fun p k wr => ∃ (j : Nat) (K : Int), j ≤ 3 ∧ K = (j : Int) ∧ k = .int .i64 K ∧ (∃ r, p = .float .f64 r ∧ Is .f64 r (rtN T j)) ∧ ∃ n, wr = w.drewN n) (fun _ k _ => (3 - intOf k).toNat)
  case atStart => exact ⟨0, 0, by omega, by omega, rfl, ⟨_, rfl, by assumption⟩, 0, rfl⟩
  case round =>
    obtain ⟨j, K, hj, hK, rfl, ⟨r, rfl, hr⟩, n, rfl⟩ := hrel
    have hcase : j = 0 ∨ j = 1 ∨ j = 2 ∨ j = 3 := by omega
    rcases hcase with rfl | rfl | rfl | rfl
    · obtain rfl : K = 0 := by omega
      clear hK hj EE
      go_wp2_with (first | (apply wpList_fcmp; rfl; rfl; rfl; rfl; (first | with_reducible assumption | exact Is.const rfl); (first | with_reducible assumption | exact Is.const rfl); (first | with_reducible assumption | exact rfl)) | (apply wpList_farith; rfl; rfl; rfl; rfl; (first | with_reducible assumption | exact Is.const rfl); (first | with_reducible assumption | exact Is.const rfl); intro r n hr) | (go_at_call 108; refine (sqrt_any _ _ (by assumption) _).mono ?_; rintro e w' ⟨⟨r, rfl, hr⟩, n, rfl⟩))
      go_roundw
      case rel => exact ⟨1, 1, by omega, by omega, rfl, ⟨_, rfl, by assumption⟩, _, rfl⟩
      case measure => simp [intOf]
    · obtain rfl : K = 1 := by omega
      clear hK hj EE
      go_wp2_with (first | (apply wpList_fcmp; rfl; rfl; rfl; rfl; (first | with_reducible assumption | exact Is.const rfl); (first | with_reducible assumption | exact Is.const rfl); (first | with_reducible assumption | exact rfl)) | (apply wpList_farith; rfl; rfl; rfl; rfl; (first | with_reducible assumption | exact Is.const rfl); (first | with_reducible assumption | exact Is.const rfl); intro r n hr) | (go_at_call 108; refine (sqrt_any _ _ (by assumption) _).mono ?_; rintro e w' ⟨⟨r, rfl, hr⟩, n, rfl⟩))
      go_roundw
      case rel => exact ⟨2, 2, by omega, by omega, rfl, ⟨_, rfl, by assumption⟩, _, rfl⟩
      case measure => simp [intOf]
    · obtain rfl : K = 2 := by omega
      clear hK hj EE
      go_wp2_with (first | (apply wpList_fcmp; rfl; rfl; rfl; rfl; (first | with_reducible assumption | exact Is.const rfl); (first | with_reducible assumption | exact Is.const rfl); (first | with_reducible assumption | exact rfl)) | (apply wpList_farith; rfl; rfl; rfl; rfl; (first | with_reducible assumption | exact Is.const rfl); (first | with_reducible assumption | exact Is.const rfl); intro r n hr) | (go_at_call 108; refine (sqrt_any _ _ (by assumption) _).mono ?_; rintro e w' ⟨⟨r, rfl, hr⟩, n, rfl⟩))
      go_roundw
      case rel => exact ⟨3, 3, by omega, by omega, rfl, ⟨_, rfl, by assumption⟩, _, rfl⟩
      case measure => simp [intOf]
    · obtain rfl : K = 3 := by omega
      clear hK hj
      go_wp2_with (first | (apply wpList_fcmp; rfl; rfl; rfl; rfl; (first | with_reducible assumption | exact Is.const rfl); (first | with_reducible assumption | exact Is.const rfl); (first | with_reducible assumption | exact rfl)) | (apply wpList_farith; rfl; rfl; rfl; rfl; (first | with_reducible assumption | exact Is.const rfl); (first | with_reducible assumption | exact Is.const rfl); intro r n hr))
      go_loopw [4, 5] (fun p k wr => ∃ (j : Nat) (K : Int), j ≤ 8 ∧ K = 15 - 2 * (j : Int) ∧ k = .int .i64 K ∧ (∃ r, p = .float .f64 r ∧ Is .f64 r (serA (fop .mul .f64 (rtN T 3) (rtN T 3)) j)) ∧ ∃ n, wr = w.drewN n) (fun _ k _ => (1 + intOf k).toNat)
      case atStart => exact ⟨0, 15, by omega, by omega, rfl, ⟨_, rfl, Is.const rfl⟩, _, rfl⟩
      case round =>
        obtain ⟨j, K, hj, hK, rfl, ⟨r, rfl, hr⟩, n, rfl⟩ := hrel
        have hcase : j = 0 ∨ j = 1 ∨ j = 2 ∨ j = 3 ∨ j = 4 ∨ j = 5 ∨ j = 6 ∨ j = 7 ∨ j = 8 := by omega
        rcases hcase with rfl | rfl | rfl | rfl | rfl | rfl | rfl | rfl | rfl
        · obtain rfl : K = 15 := by omega
          clear hK hj EE
          go_wp2_with (first | (apply wpList_fcmp; rfl; rfl; rfl; rfl; (first | with_reducible assumption | exact Is.const rfl); (first | with_reducible assumption | exact Is.const rfl); (first | with_reducible assumption | exact rfl)) | (apply wpList_farith; rfl; rfl; rfl; rfl; (first | with_reducible assumption | with_reducible exact intWord_is _ | exact Is.const rfl); (first | with_reducible assumption | with_reducible exact intWord_is _ | exact Is.const rfl); intro r n hr))
          go_roundw
          case rel => exact ⟨1, 13, by omega, by omega, rfl, ⟨_, rfl, by assumption⟩, _, rfl⟩
          case measure => simp [intOf]
        · obtain rfl : K = 13 := by omega
          clear hK hj EE
          go_wp2_with (first | (apply wpList_fcmp; rfl; rfl; rfl; rfl; (first | with_reducible assumption | exact Is.const rfl); (first | with_reducible assumption | exact Is.const rfl); (first | with_reducible assumption | exact rfl)) | (apply wpList_farith; rfl; rfl; rfl; rfl; (first | with_reducible assumption | with_reducible exact intWord_is _ | exact Is.const rfl); (first | with_reducible assumption | with_reducible exact intWord_is _ | exact Is.const rfl); intro r n hr))
          go_roundw
          case rel => exact ⟨2, 11, by omega, by omega, rfl, ⟨_, rfl, by assumption⟩, _, rfl⟩
          case measure => simp [intOf]
        · obtain rfl : K = 11 := by omega
          clear hK hj EE
          go_wp2_with (first | (apply wpList_fcmp; rfl; rfl; rfl; rfl; (first | with_reducible assumption | exact Is.const rfl); (first | with_reducible assumption | exact Is.const rfl); (first | with_reducible assumption | exact rfl)) | (apply wpList_farith; rfl; rfl; rfl; rfl; (first | with_reducible assumption | with_reducible exact intWord_is _ | exact Is.const rfl); (first | with_reducible assumption | with_reducible exact intWord_is _ | exact Is.const rfl); intro r n hr))
          go_roundw
          case rel => exact ⟨3, 9, by omega, by omega, rfl, ⟨_, rfl, by assumption⟩, _, rfl⟩
          case measure => simp [intOf]
        · obtain rfl : K = 9 := by omega
          clear hK hj EE
          go_wp2_with (first | (apply wpList_fcmp; rfl; rfl; rfl; rfl; (first | with_reducible assumption | exact Is.const rfl); (first | with_reducible assumption | exact Is.const rfl); (first | with_reducible assumption | exact rfl)) | (apply wpList_farith; rfl; rfl; rfl; rfl; (first | with_reducible assumption | with_reducible exact intWord_is _ | exact Is.const rfl); (first | with_reducible assumption | with_reducible exact intWord_is _ | exact Is.const rfl); intro r n hr))
          go_roundw
          case rel => exact ⟨4, 7, by omega, by omega, rfl, ⟨_, rfl, by assumption⟩, _, rfl⟩
          case measure => simp [intOf]
        · obtain rfl : K = 7 := by omega
          clear hK hj EE
          go_wp2_with (first | (apply wpList_fcmp; rfl; rfl; rfl; rfl; (first | with_reducible assumption | exact Is.const rfl); (first | with_reducible assumption | exact Is.const rfl); (first | with_reducible assumption | exact rfl)) | (apply wpList_farith; rfl; rfl; rfl; rfl; (first | with_reducible assumption | with_reducible exact intWord_is _ | exact Is.const rfl); (first | with_reducible assumption | with_reducible exact intWord_is _ | exact Is.const rfl); intro r n hr))
          go_roundw
          case rel => exact ⟨5, 5, by omega, by omega, rfl, ⟨_, rfl, by assumption⟩, _, rfl⟩
          case measure => simp [intOf]
        · obtain rfl : K = 5 := by omega
          clear hK hj EE
          go_wp2_with (first | (apply wpList_fcmp; rfl; rfl; rfl; rfl; (first | with_reducible assumption | exact Is.const rfl); (first | with_reducible assumption | exact Is.const rfl); (first | with_reducible assumption | exact rfl)) | (apply wpList_farith; rfl; rfl; rfl; rfl; (first | with_reducible assumption | with_reducible exact intWord_is _ | exact Is.const rfl); (first | with_reducible assumption | with_reducible exact intWord_is _ | exact Is.const rfl); intro r n hr))
          go_roundw
          case rel => exact ⟨6, 3, by omega, by omega, rfl, ⟨_, rfl, by assumption⟩, _, rfl⟩
          case measure => simp [intOf]
        · obtain rfl : K = 3 := by omega
          clear hK hj EE
          go_wp2_with (first | (apply wpList_fcmp; rfl; rfl; rfl; rfl; (first | with_reducible assumption | exact Is.const rfl); (first | with_reducible assumption | exact Is.const rfl); (first | with_reducible assumption | exact rfl)) | (apply wpList_farith; rfl; rfl; rfl; rfl; (first | with_reducible assumption | with_reducible exact intWord_is _ | exact Is.const rfl); (first | with_reducible assumption | with_reducible exact intWord_is _ | exact Is.const rfl); intro r n hr))
          go_roundw
          case rel => exact ⟨7, 1, by omega, by omega, rfl, ⟨_, rfl, by assumption⟩, _, rfl⟩
          case measure => simp [intOf]
        · obtain rfl : K = 1 := by omega
          clear hK hj EE
          go_wp2_with (first | (apply wpList_fcmp; rfl; rfl; rfl; rfl; (first | with_reducible assumption | exact Is.const rfl); (first | with_reducible assumption | exact Is.const rfl); (first | with_reducible assumption | exact rfl)) | (apply wpList_farith; rfl; rfl; rfl; rfl; (first | with_reducible assumption | with_reducible exact intWord_is _ | exact Is.const rfl); (first | with_reducible assumption | with_reducible exact intWord_is _ | exact Is.const rfl); intro r n hr))
          go_roundw
          case rel => exact ⟨8, -1, by omega, by omega, rfl, ⟨_, rfl, by assumption⟩, _, rfl⟩
          case measure => simp [intOf]
        · obtain rfl : K = -1 := by omega
          clear hK hj
          go_wp2_with (first | (apply wpList_fcmp; rfl; rfl; rfl; rfl; (first | with_reducible assumption | exact Is.const rfl); (first | with_reducible assumption | exact Is.const rfl); (first | with_reducible assumption | exact rfl)) | (apply wpList_farith; rfl; rfl; rfl; rfl; (first | with_reducible assumption | exact Is.const rfl); (first | with_reducible assumption | exact Is.const rfl); intro r n hr) | (go_at_call 134; refine (tau2_any _).mono ?_; rintro e w' ⟨rfl, rfl⟩))
          go_ret
          exact ⟨⟨_, rfl, by rw [EE.out]; assumption⟩, _, rfl⟩

theorem iSteep_any (a A b B : Nat) (ia : Is .f64 a A) (ib : Is .f64 b B) (w : World) :
    Calls Try.prog 112 #[.float .f64 a, .float .f64 b] w fun e w' => (∃ r, e = .returned (.float .f64 r) ∧ Is .f64 r (steep A B)) ∧ ∃ n, w' = w.drewN n := by
  by_cases h : fcmp .gtr .f64 A B = true
  · have e : steep A B = fop .sub .f64 4598175219545276416 (flatA (fop .quo .f64 B A)) := by unfold steep; rw [if_pos h]; rfl
    rw [e]; clear e
    go_enter Try.func112, Try.ntmps112
    go_wp2_with (first | (apply wpList_fcmp; rfl; rfl; rfl; rfl; (first | with_reducible assumption | exact Is.const rfl); (first | with_reducible assumption | exact Is.const rfl); (first | with_reducible assumption | exact rfl)) | (apply wpList_farith; rfl; rfl; rfl; rfl; (first | with_reducible assumption | exact Is.const rfl); (first | with_reducible assumption | exact Is.const rfl); intro r n hr) | (go_at_call 129; refine (iFlat_any _ _ (by assumption) _).mono ?_; rintro e w' ⟨⟨r, rfl, hr⟩, n, rfl⟩))
    go_ret
    exact ⟨⟨_, rfl, by assumption⟩, _, rfl⟩
  · have h' : fcmp .gtr .f64 A B = false := by simpa using h
    have e : steep A B = flatA (fop .quo .f64 A B) := by unfold steep; rw [if_neg h]
    rw [e]; clear e h
    go_enter Try.func112, Try.ntmps112
    go_wp2_with (first | (apply wpList_fcmp; rfl; rfl; rfl; rfl; (first | with_reducible assumption | exact Is.const rfl); (first | with_reducible assumption | exact Is.const rfl); (first | with_reducible assumption | exact rfl)) | (apply wpList_farith; rfl; rfl; rfl; rfl; (first | with_reducible assumption | exact Is.const rfl); (first | with_reducible assumption | exact Is.const rfl); intro r n hr) | (go_at_call 129; refine (iFlat_any _ _ (by assumption) _).mono ?_; rintro e w' ⟨⟨r, rfl, hr⟩, n, rfl⟩))
    go_ret
    exact ⟨⟨_, rfl, by assumption⟩, _, rfl⟩

theorem nan2_any (w : World) : Calls Try.prog 110 #[] w fun e w' => e = .returned (.float .f64 9221120237041090561) ∧ w = w' := by
  go_enter Try.func110, Try.ntmps110
  go_wp2
  go_ret
  exact ⟨rfl, rfl⟩

theorem iWide2_any (x X : Nat) (ix : Is .f64 x X) (w : World) : Calls Try.prog 116 #[.float .f64 x] w fun e w' => e = .returned (.bool (fin .f64 X)) ∧ w = w' := by
  rw [← finWide]
  by_cases hc : fcmp .gtr .f64 (fabs X) 9218868437227405311 = true
  · rw [hc]
    go_enter Try.func116, Try.ntmps116
    go_wp2_with (first | (go_at_call 131; refine (isInf_any _ _ ix _).mono ?_; rintro e w' ⟨rfl, rfl⟩) | (go_at_call 132; refine (isNaN_any _ _ ix _).mono ?_; rintro e w' ⟨rfl, rfl⟩))
    go_ret
    exact ⟨rfl, rfl⟩
  · have hc' : fcmp .gtr .f64 (fabs X) 9218868437227405311 = false := by simpa using hc
    clear hc
    rw [hc']
    go_enter Try.func116, Try.ntmps116
    go_wp2_with (first | (go_at_call 131; refine (isInf_any _ _ ix _).mono ?_; rintro e w' ⟨rfl, rfl⟩) | (go_at_call 132; refine (isNaN_any _ _ ix _).mono ?_; rintro e w' ⟨rfl, rfl⟩))
    go_ret
    exact ⟨by simp, rfl⟩

theorem iFinite2_any (x X : Nat) (ix : Is .f32 x X) (w : World) : Calls Try.prog 109 #[.float .f32 x] w fun e w' => e = .returned (.bool (fin .f32 X)) ∧ ∃ n, w' = w.drewN n := by
  rw [← fin_wid]
  go_enter Try.func109, Try.ntmps109
  go_wp2_with (first | (apply wpList_wid; rfl; rfl; (first | with_reducible assumption | exact Is.const rfl); exact U32; exact U64; intro r n hr) | (go_at_call 116; refine (iWide2_any _ _ (by assumption) _).mono ?_; rintro e w' ⟨rfl, rfl⟩))
  go_ret
  exact ⟨rfl, _, rfl⟩

theorem l64 {x X : Nat} (h : Is .f64 x X) : x < 18446744073709551616 := by have := h.lt; rwa [w64] at this

set_option maxHeartbeats 1000000 in
theorem iAngle_ttt (y Y x X : Nat) (iy : Is .f32 y Y) (ix : Is .f32 x X) (hx : fin .f32 X = true) (hy : fin .f32 Y = true) (zx : fcmp .eql .f32 X 0 = true) (zy : fcmp .eql .f32 Y 0 = false)
    (h1 : fcmp .lss .f32 X 0 = true) (h2 : fcmp .lss .f32 Y 0 = true) (hfit0 : fits (angW (wid Y) (wid X))) (w : World) :
    Calls Try.prog 78 #[.float .f32 y, .float .f32 x] w fun e w' => (∃ r, e = .returned (.float .f32 r) ∧ Is .f32 r (nar (angW (wid Y) (wid X)))) ∧ ∃ n, w' = w.drewN n := by
  have e : angW (wid Y) (wid X) = (fneg .f64 (fop .sub .f64 4602678819172646912 (steep (fabs (wid Y)) (fabs (wid X))))) := angW_eq rfl ((lss_wid hx).trans h1) ((lss_wid hy).trans h2)
  rw [e] at hfit0 ⊢
  have hfit := hfit0
  clear e hfit0
  go_enter Try.func78, Try.ntmps78
  go_wp2_with (first | (apply wpList_fcmp; rfl; rfl; rfl; rfl; (first | with_reducible assumption | exact Is.const rfl); (first | with_reducible assumption | exact Is.const rfl); (first | with_reducible assumption | exact rfl)) | (apply wpList_wid; rfl; rfl; (first | with_reducible assumption | exact Is.const rfl); exact U32; exact U64; intro r n hr) | (apply wpList_fneg; rfl; rfl; have hg := Is.fneg (by assumption)) | (apply wpList_farith; rfl; rfl; rfl; rfl; (first | with_reducible assumption | exact Is.const rfl); (first | with_reducible assumption | exact Is.const rfl); intro r n hr) | (go_at_call 109; first | (refine (iFinite2_any _ _ ix _).mono ?_; rintro e w' ⟨rfl, n, rfl⟩; (try rw [hx])) | (refine (iFinite2_any _ _ iy _).mono ?_; rintro e w' ⟨rfl, n, rfl⟩; (try rw [hy]))) | (go_at_call 111; refine (abs_any _ (l64 (by assumption)) _).mono ?_; rintro e w' ⟨rfl, rfl⟩; have ha := Is.abs (by assumption)) | (go_at_call 112; refine (iSteep_any _ _ _ _ (by assumption) (by assumption) _).mono ?_; rintro e w' ⟨⟨r, rfl, hr⟩, n, rfl⟩) | (go_at_call 113; refine (iNarrow_any _ _ (by assumption) hfit _).mono ?_; rintro e w' ⟨⟨r, rfl, hr⟩, n, rfl⟩))
  go_ret
  exact ⟨⟨_, rfl, by assumption⟩, _, rfl⟩

set_option maxHeartbeats 1000000 in
theorem iAngle_ttf (y Y x X : Nat) (iy : Is .f32 y Y) (ix : Is .f32 x X) (hx : fin .f32 X = true) (hy : fin .f32 Y = true) (zx : fcmp .eql .f32 X 0 = true) (zy : fcmp .eql .f32 Y 0 = false)
    (h1 : fcmp .lss .f32 X 0 = true) (h2 : fcmp .lss .f32 Y 0 = false) (hfit0 : fits (angW (wid Y) (wid X))) (w : World) :
    Calls Try.prog 78 #[.float .f32 y, .float .f32 x] w fun e w' => (∃ r, e = .returned (.float .f32 r) ∧ Is .f32 r (nar (angW (wid Y) (wid X)))) ∧ ∃ n, w' = w.drewN n := by
  have e : angW (wid Y) (wid X) = (fop .sub .f64 4602678819172646912 (steep (fabs (wid Y)) (fabs (wid X)))) := angW_eq rfl ((lss_wid hx).trans h1) ((lss_wid hy).trans h2)
  rw [e] at hfit0 ⊢
  have hfit := hfit0
  clear e hfit0
  go_enter Try.func78, Try.ntmps78
  go_wp2_with (first | (apply wpList_fcmp; rfl; rfl; rfl; rfl; (first | with_reducible assumption | exact Is.const rfl); (first | with_reducible assumption | exact Is.const rfl); (first | with_reducible assumption | exact rfl)) | (apply wpList_wid; rfl; rfl; (first | with_reducible assumption | exact Is.const rfl); exact U32; exact U64; intro r n hr) | (apply wpList_fneg; rfl; rfl; have hg := Is.fneg (by assumption)) | (apply wpList_farith; rfl; rfl; rfl; rfl; (first | with_reducible assumption | exact Is.const rfl); (first | with_reducible assumption | exact Is.const rfl); intro r n hr) | (go_at_call 109; first | (refine (iFinite2_any _ _ ix _).mono ?_; rintro e w' ⟨rfl, n, rfl⟩; (try rw [hx])) | (refine (iFinite2_any _ _ iy _).mono ?_; rintro e w' ⟨rfl, n, rfl⟩; (try rw [hy]))) | (go_at_call 111; refine (abs_any _ (l64 (by assumption)) _).mono ?_; rintro e w' ⟨rfl, rfl⟩; have ha := Is.abs (by assumption)) | (go_at_call 112; refine (iSteep_any _ _ _ _ (by assumption) (by assumption) _).mono ?_; rintro e w' ⟨⟨r, rfl, hr⟩, n, rfl⟩) | (go_at_call 113; refine (iNarrow_any _ _ (by assumption) hfit _).mono ?_; rintro e w' ⟨⟨r, rfl, hr⟩, n, rfl⟩))
  go_ret
  exact ⟨⟨_, rfl, by assumption⟩, _, rfl⟩

set_option maxHeartbeats 1000000 in
theorem iAngle_tft (y Y x X : Nat) (iy : Is .f32 y Y) (ix : Is .f32 x X) (hx : fin .f32 X = true) (hy : fin .f32 Y = true) (zx : fcmp .eql .f32 X 0 = true) (zy : fcmp .eql .f32 Y 0 = false)
    (h1 : fcmp .lss .f32 X 0 = false) (h2 : fcmp .lss .f32 Y 0 = true) (hfit0 : fits (angW (wid Y) (wid X))) (w : World) :
    Calls Try.prog 78 #[.float .f32 y, .float .f32 x] w fun e w' => (∃ r, e = .returned (.float .f32 r) ∧ Is .f32 r (nar (angW (wid Y) (wid X)))) ∧ ∃ n, w' = w.drewN n := by
  have e : angW (wid Y) (wid X) = (fneg .f64 (steep (fabs (wid Y)) (fabs (wid X)))) := angW_eq rfl ((lss_wid hx).trans h1) ((lss_wid hy).trans h2)
  rw [e] at hfit0 ⊢
  have hfit := hfit0
  clear e hfit0
  go_enter Try.func78, Try.ntmps78
  go_wp2_with (first | (apply wpList_fcmp; rfl; rfl; rfl; rfl; (first | with_reducible assumption | exact Is.const rfl); (first | with_reducible assumption | exact Is.const rfl); (first | with_reducible assumption | exact rfl)) | (apply wpList_wid; rfl; rfl; (first | with_reducible assumption | exact Is.const rfl); exact U32; exact U64; intro r n hr) | (apply wpList_fneg; rfl; rfl; have hg := Is.fneg (by assumption)) | (apply wpList_farith; rfl; rfl; rfl; rfl; (first | with_reducible assumption | exact Is.const rfl); (first | with_reducible assumption | exact Is.const rfl); intro r n hr) | (go_at_call 109; first | (refine (iFinite2_any _ _ ix _).mono ?_; rintro e w' ⟨rfl, n, rfl⟩; (try rw [hx])) | (refine (iFinite2_any _ _ iy _).mono ?_; rintro e w' ⟨rfl, n, rfl⟩; (try rw [hy]))) | (go_at_call 111; refine (abs_any _ (l64 (by assumption)) _).mono ?_; rintro e w' ⟨rfl, rfl⟩; have ha := Is.abs (by assumption)) | (go_at_call 112; refine (iSteep_any _ _ _ _ (by assumption) (by assumption) _).mono ?_; rintro e w' ⟨⟨r, rfl, hr⟩, n, rfl⟩) | (go_at_call 113; refine (iNarrow_any _ _ (by assumption) hfit _).mono ?_; rintro e w' ⟨⟨r, rfl, hr⟩, n, rfl⟩))
  go_ret
  exact ⟨⟨_, rfl, by assumption⟩, _, rfl⟩

set_option maxHeartbeats 1000000 in
theorem iAngle_tff (y Y x X : Nat) (iy : Is .f32 y Y) (ix : Is .f32 x X) (hx : fin .f32 X = true) (hy : fin .f32 Y = true) (zx : fcmp .eql .f32 X 0 = true) (zy : fcmp .eql .f32 Y 0 = false)
    (h1 : fcmp .lss .f32 X 0 = false) (h2 : fcmp .lss .f32 Y 0 = false) (hfit0 : fits (angW (wid Y) (wid X))) (w : World) :
    Calls Try.prog 78 #[.float .f32 y, .float .f32 x] w fun e w' => (∃ r, e = .returned (.float .f32 r) ∧ Is .f32 r (nar (angW (wid Y) (wid X)))) ∧ ∃ n, w' = w.drewN n := by
  have e : angW (wid Y) (wid X) = (steep (fabs (wid Y)) (fabs (wid X))) := angW_eq rfl ((lss_wid hx).trans h1) ((lss_wid hy).trans h2)
  rw [e] at hfit0 ⊢
  have hfit := hfit0
  clear e hfit0
  go_enter Try.func78, Try.ntmps78
  go_wp2_with (first | (apply wpList_fcmp; rfl; rfl; rfl; rfl; (first | with_reducible assumption | exact Is.const rfl); (first | with_reducible assumption | exact Is.const rfl); (first | with_reducible assumption | exact rfl)) | (apply wpList_wid; rfl; rfl; (first | with_reducible assumption | exact Is.const rfl); exact U32; exact U64; intro r n hr) | (apply wpList_fneg; rfl; rfl; have hg := Is.fneg (by assumption)) | (apply wpList_farith; rfl; rfl; rfl; rfl; (first | with_reducible assumption | exact Is.const rfl); (first | with_reducible assumption | exact Is.const rfl); intro r n hr) | (go_at_call 109; first | (refine (iFinite2_any _ _ ix _).mono ?_; rintro e w' ⟨rfl, n, rfl⟩; (try rw [hx])) | (refine (iFinite2_any _ _ iy _).mono ?_; rintro e w' ⟨rfl, n, rfl⟩; (try rw [hy]))) | (go_at_call 111; refine (abs_any _ (l64 (by assumption)) _).mono ?_; rintro e w' ⟨rfl, rfl⟩; have ha := Is.abs (by assumption)) | (go_at_call 112; refine (iSteep_any _ _ _ _ (by assumption) (by assumption) _).mono ?_; rintro e w' ⟨⟨r, rfl, hr⟩, n, rfl⟩) | (go_at_call 113; refine (iNarrow_any _ _ (by assumption) hfit _).mono ?_; rintro e w' ⟨⟨r, rfl, hr⟩, n, rfl⟩))
  go_ret
  exact ⟨⟨_, rfl, by assumption⟩, _, rfl⟩

set_option maxHeartbeats 1000000 in
theorem iAngle_ftt (y Y x X : Nat) (iy : Is .f32 y Y) (ix : Is .f32 x X) (hx : fin .f32 X = true) (hy : fin .f32 Y = true) (zx : fcmp .eql .f32 X 0 = false)
    (h1 : fcmp .lss .f32 X 0 = true) (h2 : fcmp .lss .f32 Y 0 = true) (hfit0 : fits (angW (wid Y) (wid X))) (w : World) :
    Calls Try.prog 78 #[.float .f32 y, .float .f32 x] w fun e w' => (∃ r, e = .returned (.float .f32 r) ∧ Is .f32 r (nar (angW (wid Y) (wid X)))) ∧ ∃ n, w' = w.drewN n := by
  have e : angW (wid Y) (wid X) = (fneg .f64 (fop .sub .f64 4602678819172646912 (steep (fabs (wid Y)) (fabs (wid X))))) := angW_eq rfl ((lss_wid hx).trans h1) ((lss_wid hy).trans h2)
  rw [e] at hfit0 ⊢
  have hfit := hfit0
  clear e hfit0
  go_enter Try.func78, Try.ntmps78
  go_wp2_with (first | (apply wpList_fcmp; rfl; rfl; rfl; rfl; (first | with_reducible assumption | exact Is.const rfl); (first | with_reducible assumption | exact Is.const rfl); (first | with_reducible assumption | exact rfl)) | (apply wpList_wid; rfl; rfl; (first | with_reducible assumption | exact Is.const rfl); exact U32; exact U64; intro r n hr) | (apply wpList_fneg; rfl; rfl; have hg := Is.fneg (by assumption)) | (apply wpList_farith; rfl; rfl; rfl; rfl; (first | with_reducible assumption | exact Is.const rfl); (first | with_reducible assumption | exact Is.const rfl); intro r n hr) | (go_at_call 109; first | (refine (iFinite2_any _ _ ix _).mono ?_; rintro e w' ⟨rfl, n, rfl⟩; (try rw [hx])) | (refine (iFinite2_any _ _ iy _).mono ?_; rintro e w' ⟨rfl, n, rfl⟩; (try rw [hy]))) | (go_at_call 111; refine (abs_any _ (l64 (by assumption)) _).mono ?_; rintro e w' ⟨rfl, rfl⟩; have ha := Is.abs (by assumption)) | (go_at_call 112; refine (iSteep_any _ _ _ _ (by assumption) (by assumption) _).mono ?_; rintro e w' ⟨⟨r, rfl, hr⟩, n, rfl⟩) | (go_at_call 113; refine (iNarrow_any _ _ (by assumption) hfit _).mono ?_; rintro e w' ⟨⟨r, rfl, hr⟩, n, rfl⟩))
  go_ret
  exact ⟨⟨_, rfl, by assumption⟩, _, rfl⟩

set_option maxHeartbeats 1000000 in
theorem iAngle_ftf (y Y x X : Nat) (iy : Is .f32 y Y) (ix : Is .f32 x X) (hx : fin .f32 X = true) (hy : fin .f32 Y = true) (zx : fcmp .eql .f32 X 0 = false)
    (h1 : fcmp .lss .f32 X 0 = true) (h2 : fcmp .lss .f32 Y 0 = false) (hfit0 : fits (angW (wid Y) (wid X))) (w : World) :
    Calls Try.prog 78 #[.float .f32 y, .float .f32 x] w fun e w' => (∃ r, e = .returned (.float .f32 r) ∧ Is .f32 r (nar (angW (wid Y) (wid X)))) ∧ ∃ n, w' = w.drewN n := by
  have e : angW (wid Y) (wid X) = (fop .sub .f64 4602678819172646912 (steep (fabs (wid Y)) (fabs (wid X)))) := angW_eq rfl ((lss_wid hx).trans h1) ((lss_wid hy).trans h2)
  rw [e] at hfit0 ⊢
  have hfit := hfit0
  clear e hfit0
  go_enter Try.func78, Try.ntmps78
  go_wp2_with (first | (apply wpList_fcmp; rfl; rfl; rfl; rfl; (first | with_reducible assumption | exact Is.const rfl); (first | with_reducible assumption | exact Is.const rfl); (first | with_reducible assumption | exact rfl)) | (apply wpList_wid; rfl; rfl; (first | with_reducible assumption | exact Is.const rfl); exact U32; exact U64; intro r n hr) | (apply wpList_fneg; rfl; rfl; have hg := Is.fneg (by assumption)) | (apply wpList_farith; rfl; rfl; rfl; rfl; (first | with_reducible assumption | exact Is.const rfl); (first | with_reducible assumption | exact Is.const rfl); intro r n hr) | (go_at_call 109; first | (refine (iFinite2_any _ _ ix _).mono ?_; rintro e w' ⟨rfl, n, rfl⟩; (try rw [hx])) | (refine (iFinite2_any _ _ iy _).mono ?_; rintro e w' ⟨rfl, n, rfl⟩; (try rw [hy]))) | (go_at_call 111; refine (abs_any _ (l64 (by assumption)) _).mono ?_; rintro e w' ⟨rfl, rfl⟩; have ha := Is.abs (by assumption)) | (go_at_call 112; refine (iSteep_any _ _ _ _ (by assumption) (by assumption) _).mono ?_; rintro e w' ⟨⟨r, rfl, hr⟩, n, rfl⟩) | (go_at_call 113; refine (iNarrow_any _ _ (by assumption) hfit _).mono ?_; rintro e w' ⟨⟨r, rfl, hr⟩, n, rfl⟩))
  go_ret
  exact ⟨⟨_, rfl, by assumption⟩, _, rfl⟩

set_option maxHeartbeats 1000000 in
theorem iAngle_fft (y Y x X : Nat) (iy : Is .f32 y Y) (ix : Is .f32 x X) (hx : fin .f32 X = true) (hy : fin .f32 Y = true) (zx : fcmp .eql .f32 X 0 = false)
    (h1 : fcmp .lss .f32 X 0 = false) (h2 : fcmp .lss .f32 Y 0 = true) (hfit0 : fits (angW (wid Y) (wid X))) (w : World) :
    Calls Try.prog 78 #[.float .f32 y, .float .f32 x] w fun e w' => (∃ r, e = .returned (.float .f32 r) ∧ Is .f32 r (nar (angW (wid Y) (wid X)))) ∧ ∃ n, w' = w.drewN n := by
  have e : angW (wid Y) (wid X) = (fneg .f64 (steep (fabs (wid Y)) (fabs (wid X)))) := angW_eq rfl ((lss_wid hx).trans h1) ((lss_wid hy).trans h2)
  rw [e] at hfit0 ⊢
  have hfit := hfit0
  clear e hfit0
  go_enter Try.func78, Try.ntmps78
  go_wp2_with (first | (apply wpList_fcmp; rfl; rfl; rfl; rfl; (first | with_reducible assumption | exact Is.const rfl); (first | with_reducible assumption | exact Is.const rfl); (first | with_reducible assumption | exact rfl)) | (apply wpList_wid; rfl; rfl; (first | with_reducible assumption | exact Is.const rfl); exact U32; exact U64; intro r n hr) | (apply wpList_fneg; rfl; rfl; have hg := Is.fneg (by assumption)) | (apply wpList_farith; rfl; rfl; rfl; rfl; (first | with_reducible assumption | exact Is.const rfl); (first | with_reducible assumption | exact Is.const rfl); intro r n hr) | (go_at_call 109; first | (refine (iFinite2_any _ _ ix _).mono ?_; rintro e w' ⟨rfl, n, rfl⟩; (try rw [hx])) | (refine (iFinite2_any _ _ iy _).mono ?_; rintro e w' ⟨rfl, n, rfl⟩; (try rw [hy]))) | (go_at_call 111; refine (abs_any _ (l64 (by assumption)) _).mono ?_; rintro e w' ⟨rfl, rfl⟩; have ha := Is.abs (by assumption)) | (go_at_call 112; refine (iSteep_any _ _ _ _ (by assumption) (by assumption) _).mono ?_; rintro e w' ⟨⟨r, rfl, hr⟩, n, rfl⟩) | (go_at_call 113; refine (iNarrow_any _ _ (by assumption) hfit _).mono ?_; rintro e w' ⟨⟨r, rfl, hr⟩, n, rfl⟩))
  go_ret
  exact ⟨⟨_, rfl, by assumption⟩, _, rfl⟩

set_option maxHeartbeats 1000000 in
theorem iAngle_fff (y Y x X : Nat) (iy : Is .f32 y Y) (ix : Is .f32 x X) (hx : fin .f32 X = true) (hy : fin .f32 Y = true) (zx : fcmp .eql .f32 X 0 = false)
    (h1 : fcmp .lss .f32 X 0 = false) (h2 : fcmp .lss .f32 Y 0 = false) (hfit0 : fits (angW (wid Y) (wid X))) (w : World) :
    Calls Try.prog 78 #[.float .f32 y, .float .f32 x] w fun e w' => (∃ r, e = .returned (.float .f32 r) ∧ Is .f32 r (nar (angW (wid Y) (wid X)))) ∧ ∃ n, w' = w.drewN n := by
  have e : angW (wid Y) (wid X) = (steep (fabs (wid Y)) (fabs (wid X))) := angW_eq rfl ((lss_wid hx).trans h1) ((lss_wid hy).trans h2)
  rw [e] at hfit0 ⊢
  have hfit := hfit0
  clear e hfit0
  go_enter Try.func78, Try.ntmps78
  go_wp2_with (first | (apply wpList_fcmp; rfl; rfl; rfl; rfl; (first | with_reducible assumption | exact Is.const rfl); (first | with_reducible assumption | exact Is.const rfl); (first | with_reducible assumption | exact rfl)) | (apply wpList_wid; rfl; rfl; (first | with_reducible assumption | exact Is.const rfl); exact U32; exact U64; intro r n hr) | (apply wpList_fneg; rfl; rfl; have hg := Is.fneg (by assumption)) | (apply wpList_farith; rfl; rfl; rfl; rfl; (first | with_reducible assumption | exact Is.const rfl); (first | with_reducible assumption | exact Is.const rfl); intro r n hr) | (go_at_call 109; first | (refine (iFinite2_any _ _ ix _).mono ?_; rintro e w' ⟨rfl, n, rfl⟩; (try rw [hx])) | (refine (iFinite2_any _ _ iy _).mono ?_; rintro e w' ⟨rfl, n, rfl⟩; (try rw [hy]))) | (go_at_call 111; refine (abs_any _ (l64 (by assumption)) _).mono ?_; rintro e w' ⟨rfl, rfl⟩; have ha := Is.abs (by assumption)) | (go_at_call 112; refine (iSteep_any _ _ _ _ (by assumption) (by assumption) _).mono ?_; rintro e w' ⟨⟨r, rfl, hr⟩, n, rfl⟩) | (go_at_call 113; refine (iNarrow_any _ _ (by assumption) hfit _).mono ?_; rintro e w' ⟨⟨r, rfl, hr⟩, n, rfl⟩))
  go_ret
  exact ⟨⟨_, rfl, by assumption⟩, _, rfl⟩

theorem iAngle_any (y Y x X : Nat) (iy : Is .f32 y Y) (ix : Is .f32 x X) (w : World) :
    Calls Try.prog 78 #[.float .f32 y, .float .f32 x] w fun e w' => (∃ r, e = .returned (.float .f32 r) ∧ Is .f32 r (angT Y X)) ∧ ∃ n, w' = w.drewN n := by
  by_cases hx : fin .f32 X = true
  · by_cases hy : fin .f32 Y = true
    · by_cases zz : (fcmp .eql .f32 X 0 && fcmp .eql .f32 Y 0) = true
      · have e : angT Y X = 0 := by unfold angT; rw [if_pos (by rw [hx, hy]; rfl), if_pos zz]
        rw [e]; clear e
        rw [Bool.and_eq_true] at zz
        obtain ⟨zx, zy⟩ := zz
        go_enter Try.func78, Try.ntmps78
        go_wp2_with (first | (apply wpList_fcmp; rfl; rfl; rfl; rfl; (first | with_reducible assumption | exact Is.const rfl); (first | with_reducible assumption | exact Is.const rfl); (first | with_reducible assumption | exact rfl)) | (go_at_call 109; first | (refine (iFinite2_any _ _ ix _).mono ?_; rintro e w' ⟨rfl, n, rfl⟩; (try rw [hx])) | (refine (iFinite2_any _ _ iy _).mono ?_; rintro e w' ⟨rfl, n, rfl⟩; (try rw [hy]))))
        go_ret
        exact ⟨⟨_, rfl, Is.const rfl⟩, _, rfl⟩
      · have e : angT Y X = nar (angW (wid Y) (wid X)) := by unfold angT; rw [if_pos (by rw [hx, hy]; rfl), if_neg zz]
        have hf := angT_fits hx hy (by simpa using zz)
        rw [e]; clear e
        by_cases h1 : fcmp .lss .f32 X 0 = true
        · by_cases h2 : fcmp .lss .f32 Y 0 = true
          · by_cases zx : fcmp .eql .f32 X 0 = true
            · exact iAngle_ttt y Y x X iy ix hx hy zx (by rw [zx, Bool.true_and] at zz; simpa using zz) h1 h2 hf w
            · exact iAngle_ftt y Y x X iy ix hx hy (by simpa using zx) h1 h2 hf w
          · by_cases zx : fcmp .eql .f32 X 0 = true
            · exact iAngle_ttf y Y x X iy ix hx hy zx (by rw [zx, Bool.true_and] at zz; simpa using zz) h1 (by simpa using h2) hf w
            · exact iAngle_ftf y Y x X iy ix hx hy (by simpa using zx) h1 (by simpa using h2) hf w
        · by_cases h2 : fcmp .lss .f32 Y 0 = true
          · by_cases zx : fcmp .eql .f32 X 0 = true
            · exact iAngle_tft y Y x X iy ix hx hy zx (by rw [zx, Bool.true_and] at zz; simpa using zz) (by simpa using h1) h2 hf w
            · exact iAngle_fft y Y x X iy ix hx hy (by simpa using zx) (by simpa using h1) h2 hf w
          · by_cases zx : fcmp .eql .f32 X 0 = true
            · exact iAngle_tff y Y x X iy ix hx hy zx (by rw [zx, Bool.true_and] at zz; simpa using zz) (by simpa using h1) (by simpa using h2) hf w
            · exact iAngle_fff y Y x X iy ix hx hy (by simpa using zx) (by simpa using h1) (by simpa using h2) hf w
    · have hy' : fin .f32 Y = false := by simpa using hy
      have e : angT Y X = nar (qn .f64) := by unfold angT; rw [hx, hy', if_neg (by decide), nar_nan]
      have hni := nan_is
      have hfn := fits_nan
      rw [e]; clear e hy
      have hy := hy'
      clear hy'
      go_enter Try.func78, Try.ntmps78
      go_wp2_with (first | (apply wpList_nar; rfl; rfl; (first | with_reducible assumption | exact Is.const rfl); exact U64; exact U32; (with_reducible assumption); intro r n hr) | (go_at_call 109; first | (refine (iFinite2_any _ _ ix _).mono ?_; rintro e w' ⟨rfl, n, rfl⟩; (try rw [hx])) | (refine (iFinite2_any _ _ iy _).mono ?_; rintro e w' ⟨rfl, n, rfl⟩; (try rw [hy]))) | (go_at_call 110; refine (nan2_any _).mono ?_; rintro e w' ⟨rfl, rfl⟩))
      go_ret
      exact ⟨⟨_, rfl, by assumption⟩, _, rfl⟩
  · have hx' : fin .f32 X = false := by simpa using hx
    have e : angT Y X = nar (qn .f64) := by unfold angT; rw [hx', Bool.false_and, if_neg (by decide), nar_nan]
    have hni := nan_is
    have hfn := fits_nan
    rw [e]; clear e hx
    have hx := hx'
    clear hx'
    go_enter Try.func78, Try.ntmps78
    go_wp2_with (first | (apply wpList_nar; rfl; rfl; (first | with_reducible assumption | exact Is.const rfl); exact U64; exact U32; (with_reducible assumption); intro r n hr) | (go_at_call 109; first | (refine (iFinite2_any _ _ ix _).mono ?_; rintro e w' ⟨rfl, n, rfl⟩; (try rw [hx])) | (refine (iFinite2_any _ _ iy _).mono ?_; rintro e w' ⟨rfl, n, rfl⟩; (try rw [hy]))) | (go_at_call 110; refine (nan2_any _).mono ?_; rintro e w' ⟨rfl, rfl⟩))
    go_ret
    exact ⟨⟨_, rfl, by assumption⟩, _, rfl⟩

end Go.Proofs.Ytpnmledanloboaa
