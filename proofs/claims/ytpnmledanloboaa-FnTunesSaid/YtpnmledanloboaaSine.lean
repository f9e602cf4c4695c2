/-
  The sine: contracts of the program's functions and of the model's.
-/
import Derived.Test.YtpnmledanloboaaCirc
import Derived.Test.YtpnmledanloboaaMath
namespace Go.Proofs.Ytpnmledanloboaa
open Go.Fl Go.RowKit

theorem part_any (x Y : Nat) (ix : Is .f64 x Y) (hs : short Y) (w : World) : Calls Try.prog 133 #[.float .f64 x] w fun e w' => (∃ r, e = .returned (.float .f64 r) ∧ Is .f64 r (partT Y)) ∧ ∃ n, w' = w.drewN n := by
  have ht := hs.toInt
  have hi := intWord_is (tint Y)
  by_cases hc : fcmp .lss .f64 (part0 Y) 0 = true
  · have e : partT Y = fop .add .f64 (part0 Y) ONE := by unfold partT; rw [if_pos hc]
    rw [e]
    clear e hs
    unfold part0 ONE at *
    go_enter Try.func133, Try.ntmps133
    go_wp2_with (first | (apply wpList_toInt; rfl; rfl; (first | with_reducible assumption | exact Is.const rfl); exact U64; exact UI; (with_reducible assumption)) | (apply wpList_fcmp; rfl; rfl; rfl; rfl; (first | with_reducible assumption | exact Is.const rfl); (first | with_reducible assumption | exact Is.const rfl); (first | with_reducible assumption | exact rfl)) | (apply wpList_farith; rfl; rfl; rfl; rfl; (first | with_reducible assumption | exact Is.const rfl); (first | with_reducible assumption | exact Is.const rfl); intro r n hr))
    go_ret
    exact ⟨⟨_, rfl, hr⟩, _, rfl⟩
  · have hc' : fcmp .lss .f64 (part0 Y) 0 = false := by simpa using hc
    have e : partT Y = part0 Y := by unfold partT; rw [if_neg hc]
    rw [e]
    clear e hs hc
    unfold part0 at *
    go_enter Try.func133, Try.ntmps133
    go_wp2_with (first | (apply wpList_toInt; rfl; rfl; (first | with_reducible assumption | exact Is.const rfl); exact U64; exact UI; (with_reducible assumption)) | (apply wpList_fcmp; rfl; rfl; rfl; rfl; (first | with_reducible assumption | exact Is.const rfl); (first | with_reducible assumption | exact Is.const rfl); (first | with_reducible assumption | exact rfl)) | (apply wpList_farith; rfl; rfl; rfl; rfl; (first | with_reducible assumption | exact Is.const rfl); (first | with_reducible assumption | exact Is.const rfl); intro r n hr))
    go_ret
    exact ⟨⟨_, rfl, hr⟩, _, rfl⟩

theorem tau_any (w : World) : Calls Try.prog 134 #[] w fun e w' => e = .returned (.float .f64 4618760256179416344) ∧ w = w' := by
  go_enter Try.func134, Try.ntmps134
  go_wp2
  go_ret
  exact ⟨rfl, rfl⟩

set_option maxHeartbeats 1000000 in
theorem iSineOf_tt (x F : Nat) (HP : Hid (∀ w, Calls Try.prog 133 #[.float .f64 x] w fun e w' => (∃ r, e = .returned (.float .f64 r) ∧ Is .f64 r F) ∧ ∃ n, w' = w.drewN n))
    (h1 : fcmp .geq .f64 F 4602678819172646912 = true) (h2 : fcmp .gtr .f64 (fop .sub .f64 F 4602678819172646912) 4598175219545276416 = true) (w : World) :
    Calls Try.prog 118 #[.float .f64 x] w fun e w' => (∃ r, e = .returned (.float .f64 r) ∧ Is .f64 r (sineF F)) ∧ ∃ n, w' = w.drewN n := by
  have e : sineF F = fneg .f64 (fop .mul .f64 (fop .mul .f64 (fop .sub .f64 4602678819172646912 (fop .sub .f64 F 4602678819172646912)) 4618760256179416344) (ser (fop .mul .f64 (fop .mul .f64 (fop .sub .f64 4602678819172646912 (fop .sub .f64 F 4602678819172646912)) 4618760256179416344) (fop .mul .f64 (fop .sub .f64 4602678819172646912 (fop .sub .f64 F 4602678819172646912)) 4618760256179416344)) 8)) := by
    simp only [sineF, sineV, sineZ, fold1, fold2, HALF, QUART, TAU, h1, h2, if_true]
  have EE := Lib.hid e
  clear e
  go_enter Try.func118, Try.ntmps118
  go_wp2_with (first | (apply wpList_fcmp; rfl; rfl; rfl; rfl; (first | with_reducible assumption | exact Is.const rfl); (first | with_reducible assumption | exact Is.const rfl); (first | with_reducible assumption | exact rfl)) | (apply wpList_farith; rfl; rfl; rfl; rfl; (first | with_reducible assumption | exact Is.const rfl); (first | with_reducible assumption | exact Is.const rfl); intro r n hr) | (go_at_call 133; refine (HP.out _).mono ?_; rintro e w' ⟨⟨r, rfl, hr⟩, n, rfl⟩) | (go_at_call 134; refine (tau_any _).mono ?_; rintro e w' ⟨rfl, rfl⟩))
  go_loopw [7, 8] (fun p k wr => ∃ (j : Nat) (K : Int), j ≤ 8 ∧ K = 8 - (j : Int) ∧ k = .int .i64 K ∧ (∃ r, p = .float .f64 r ∧ Is .f64 r (ser (fop .mul .f64 (fop .mul .f64 (fop .sub .f64 4602678819172646912 (fop .sub .f64 F 4602678819172646912)) 4618760256179416344) (fop .mul .f64 (fop .sub .f64 4602678819172646912 (fop .sub .f64 F 4602678819172646912)) 4618760256179416344)) j)) ∧ ∃ n, wr = w.drewN n) (fun _ k _ => (intOf k).toNat)
  case atStart => exact ⟨0, 8, by omega, by omega, rfl, ⟨_, rfl, Is.const rfl⟩, _, rfl⟩
  case round =>
    obtain ⟨j, K, hj, hK, rfl, ⟨r, rfl, hr⟩, n, rfl⟩ := hrel
    have hcase : j = 0 ∨ j = 1 ∨ j = 2 ∨ j = 3 ∨ j = 4 ∨ j = 5 ∨ j = 6 ∨ j = 7 ∨ j = 8 := by omega
    rcases hcase with rfl | rfl | rfl | rfl | rfl | rfl | rfl | rfl | rfl
    · obtain rfl : K = 8 := by omega
      clear hK hj
      go_wp2_with (first | (apply wpList_fcmp; rfl; rfl; rfl; rfl; (first | with_reducible assumption | exact Is.const rfl); (first | with_reducible assumption | exact Is.const rfl); (first | with_reducible assumption | exact rfl)) | (apply wpList_farith; rfl; rfl; rfl; rfl; (first | with_reducible assumption | with_reducible exact intWord_is _ | exact Is.const rfl); (first | with_reducible assumption | with_reducible exact intWord_is _ | exact Is.const rfl); intro r n hr))
      go_roundw
      case rel => exact ⟨1, 7, by omega, by omega, rfl, ⟨_, rfl, by assumption⟩, _, rfl⟩
      case measure => simp [intOf]
    · obtain rfl : K = 7 := by omega
      clear hK hj
      go_wp2_with (first | (apply wpList_fcmp; rfl; rfl; rfl; rfl; (first | with_reducible assumption | exact Is.const rfl); (first | with_reducible assumption | exact Is.const rfl); (first | with_reducible assumption | exact rfl)) | (apply wpList_farith; rfl; rfl; rfl; rfl; (first | with_reducible assumption | with_reducible exact intWord_is _ | exact Is.const rfl); (first | with_reducible assumption | with_reducible exact intWord_is _ | exact Is.const rfl); intro r n hr))
      go_roundw
      case rel => exact ⟨2, 6, by omega, by omega, rfl, ⟨_, rfl, by assumption⟩, _, rfl⟩
      case measure => simp [intOf]
    · obtain rfl : K = 6 := by omega
      clear hK hj
      go_wp2_with (first | (apply wpList_fcmp; rfl; rfl; rfl; rfl; (first | with_reducible assumption | exact Is.const rfl); (first | with_reducible assumption | exact Is.const rfl); (first | with_reducible assumption | exact rfl)) | (apply wpList_farith; rfl; rfl; rfl; rfl; (first | with_reducible assumption | with_reducible exact intWord_is _ | exact Is.const rfl); (first | with_reducible assumption | with_reducible exact intWord_is _ | exact Is.const rfl); intro r n hr))
      go_roundw
      case rel => exact ⟨3, 5, by omega, by omega, rfl, ⟨_, rfl, by assumption⟩, _, rfl⟩
      case measure => simp [intOf]
    · obtain rfl : K = 5 := by omega
      clear hK hj
      go_wp2_with (first | (apply wpList_fcmp; rfl; rfl; rfl; rfl; (first | with_reducible assumption | exact Is.const rfl); (first | with_reducible assumption | exact Is.const rfl); (first | with_reducible assumption | exact rfl)) | (apply wpList_farith; rfl; rfl; rfl; rfl; (first | with_reducible assumption | with_reducible exact intWord_is _ | exact Is.const rfl); (first | with_reducible assumption | with_reducible exact intWord_is _ | exact Is.const rfl); intro r n hr))
      go_roundw
      case rel => exact ⟨4, 4, by omega, by omega, rfl, ⟨_, rfl, by assumption⟩, _, rfl⟩
      case measure => simp [intOf]
    · obtain rfl : K = 4 := by omega
      clear hK hj
      go_wp2_with (first | (apply wpList_fcmp; rfl; rfl; rfl; rfl; (first | with_reducible assumption | exact Is.const rfl); (first | with_reducible assumption | exact Is.const rfl); (first | with_reducible assumption | exact rfl)) | (apply wpList_farith; rfl; rfl; rfl; rfl; (first | with_reducible assumption | with_reducible exact intWord_is _ | exact Is.const rfl); (first | with_reducible assumption | with_reducible exact intWord_is _ | exact Is.const rfl); intro r n hr))
      go_roundw
      case rel => exact ⟨5, 3, by omega, by omega, rfl, ⟨_, rfl, by assumption⟩, _, rfl⟩
      case measure => simp [intOf]
    · obtain rfl : K = 3 := by omega
      clear hK hj
      go_wp2_with (first | (apply wpList_fcmp; rfl; rfl; rfl; rfl; (first | with_reducible assumption | exact Is.const rfl); (first | with_reducible assumption | exact Is.const rfl); (first | with_reducible assumption | exact rfl)) | (apply wpList_farith; rfl; rfl; rfl; rfl; (first | with_reducible assumption | with_reducible exact intWord_is _ | exact Is.const rfl); (first | with_reducible assumption | with_reducible exact intWord_is _ | exact Is.const rfl); intro r n hr))
      go_roundw
      case rel => exact ⟨6, 2, by omega, by omega, rfl, ⟨_, rfl, by assumption⟩, _, rfl⟩
      case measure => simp [intOf]
    · obtain rfl : K = 2 := by omega
      clear hK hj
      go_wp2_with (first | (apply wpList_fcmp; rfl; rfl; rfl; rfl; (first | with_reducible assumption | exact Is.const rfl); (first | with_reducible assumption | exact Is.const rfl); (first | with_reducible assumption | exact rfl)) | (apply wpList_farith; rfl; rfl; rfl; rfl; (first | with_reducible assumption | with_reducible exact intWord_is _ | exact Is.const rfl); (first | with_reducible assumption | with_reducible exact intWord_is _ | exact Is.const rfl); intro r n hr))
      go_roundw
      case rel => exact ⟨7, 1, by omega, by omega, rfl, ⟨_, rfl, by assumption⟩, _, rfl⟩
      case measure => simp [intOf]
    · obtain rfl : K = 1 := by omega
      clear hK hj
      go_wp2_with (first | (apply wpList_fcmp; rfl; rfl; rfl; rfl; (first | with_reducible assumption | exact Is.const rfl); (first | with_reducible assumption | exact Is.const rfl); (first | with_reducible assumption | exact rfl)) | (apply wpList_farith; rfl; rfl; rfl; rfl; (first | with_reducible assumption | with_reducible exact intWord_is _ | exact Is.const rfl); (first | with_reducible assumption | with_reducible exact intWord_is _ | exact Is.const rfl); intro r n hr))
      go_roundw
      case rel => exact ⟨8, 0, by omega, by omega, rfl, ⟨_, rfl, by assumption⟩, _, rfl⟩
      case measure => simp [intOf]
    · obtain rfl : K = 0 := by omega
      clear hK hj
      go_wp2_with (first | (apply wpList_fcmp; rfl; rfl; rfl; rfl; (first | with_reducible assumption | exact Is.const rfl); (first | with_reducible assumption | exact Is.const rfl); (first | with_reducible assumption | exact rfl)) | (apply wpList_fneg; rfl; rfl; have hg := Is.fneg (by assumption)) | (apply wpList_farith; rfl; rfl; rfl; rfl; (first | with_reducible assumption | exact Is.const rfl); (first | with_reducible assumption | exact Is.const rfl); intro r n hr))
      go_ret
      exact ⟨⟨_, rfl, by rw [EE.out]; assumption⟩, _, rfl⟩

set_option maxHeartbeats 1000000 in
theorem iSineOf_tf (x F : Nat) (HP : Hid (∀ w, Calls Try.prog 133 #[.float .f64 x] w fun e w' => (∃ r, e = .returned (.float .f64 r) ∧ Is .f64 r F) ∧ ∃ n, w' = w.drewN n))
    (h1 : fcmp .geq .f64 F 4602678819172646912 = true) (h2 : fcmp .gtr .f64 (fop .sub .f64 F 4602678819172646912) 4598175219545276416 = false) (w : World) :
    Calls Try.prog 118 #[.float .f64 x] w fun e w' => (∃ r, e = .returned (.float .f64 r) ∧ Is .f64 r (sineF F)) ∧ ∃ n, w' = w.drewN n := by
  have e : sineF F = fneg .f64 (fop .mul .f64 (fop .mul .f64 (fop .sub .f64 F 4602678819172646912) 4618760256179416344) (ser (fop .mul .f64 (fop .mul .f64 (fop .sub .f64 F 4602678819172646912) 4618760256179416344) (fop .mul .f64 (fop .sub .f64 F 4602678819172646912) 4618760256179416344)) 8)) := by
    simp only [sineF, sineV, sineZ, fold1, fold2, HALF, QUART, TAU, h1, h2, if_true, Bool.false_eq_true, if_false]
  have EE := Lib.hid e
  clear e
  go_enter Try.func118, Try.ntmps118
  go_wp2_with (first | (apply wpList_fcmp; rfl; rfl; rfl; rfl; (first | with_reducible assumption | exact Is.const rfl); (first | with_reducible assumption | exact Is.const rfl); (first | with_reducible assumption | exact rfl)) | (apply wpList_farith; rfl; rfl; rfl; rfl; (first | with_reducible assumption | exact Is.const rfl); (first | with_reducible assumption | exact Is.const rfl); intro r n hr) | (go_at_call 133; refine (HP.out _).mono ?_; rintro e w' ⟨⟨r, rfl, hr⟩, n, rfl⟩) | (go_at_call 134; refine (tau_any _).mono ?_; rintro e w' ⟨rfl, rfl⟩))
  go_loopw [7, 8] (fun p k wr => ∃ (j : Nat) (K : Int), j ≤ 8 ∧ K = 8 - (j : Int) ∧ k = .int .i64 K ∧ (∃ r, p = .float .f64 r ∧ Is .f64 r (ser (fop .mul .f64 (fop .mul .f64 (fop .sub .f64 F 4602678819172646912) 4618760256179416344) (fop .mul .f64 (fop .sub .f64 F 4602678819172646912) 4618760256179416344)) j)) ∧ ∃ n, wr = w.drewN n) (fun _ k _ => (intOf k).toNat)
  case atStart => exact ⟨0, 8, by omega, by omega, rfl, ⟨_, rfl, Is.const rfl⟩, _, rfl⟩
  case round =>
    obtain ⟨j, K, hj, hK, rfl, ⟨r, rfl, hr⟩, n, rfl⟩ := hrel
    have hcase : j = 0 ∨ j = 1 ∨ j = 2 ∨ j = 3 ∨ j = 4 ∨ j = 5 ∨ j = 6 ∨ j = 7 ∨ j = 8 := by omega
    rcases hcase with rfl | rfl | rfl | rfl | rfl | rfl | rfl | rfl | rfl
    · obtain rfl : K = 8 := by omega
      clear hK hj
      go_wp2_with (first | (apply wpList_fcmp; rfl; rfl; rfl; rfl; (first | with_reducible assumption | exact Is.const rfl); (first | with_reducible assumption | exact Is.const rfl); (first | with_reducible assumption | exact rfl)) | (apply wpList_farith; rfl; rfl; rfl; rfl; (first | with_reducible assumption | with_reducible exact intWord_is _ | exact Is.const rfl); (first | with_reducible assumption | with_reducible exact intWord_is _ | exact Is.const rfl); intro r n hr))
      go_roundw
      case rel => exact ⟨1, 7, by omega, by omega, rfl, ⟨_, rfl, by assumption⟩, _, rfl⟩
      case measure => simp [intOf]
    · obtain rfl : K = 7 := by omega
      clear hK hj
      go_wp2_with (first | (apply wpList_fcmp; rfl; rfl; rfl; rfl; (first | with_reducible assumption | exact Is.const rfl); (first | with_reducible assumption | exact Is.const rfl); (first | with_reducible assumption | exact rfl)) | (apply wpList_farith; rfl; rfl; rfl; rfl; (first | with_reducible assumption | with_reducible exact intWord_is _ | exact Is.const rfl); (first | with_reducible assumption | with_reducible exact intWord_is _ | exact Is.const rfl); intro r n hr))
      go_roundw
      case rel => exact ⟨2, 6, by omega, by omega, rfl, ⟨_, rfl, by assumption⟩, _, rfl⟩
      case measure => simp [intOf]
    · obtain rfl : K = 6 := by omega
      clear hK hj
      go_wp2_with (first | (apply wpList_fcmp; rfl; rfl; rfl; rfl; (first | with_reducible assumption | exact Is.const rfl); (first | with_reducible assumption | exact Is.const rfl); (first | with_reducible assumption | exact rfl)) | (apply wpList_farith; rfl; rfl; rfl; rfl; (first | with_reducible assumption | with_reducible exact intWord_is _ | exact Is.const rfl); (first | with_reducible assumption | with_reducible exact intWord_is _ | exact Is.const rfl); intro r n hr))
      go_roundw
      case rel => exact ⟨3, 5, by omega, by omega, rfl, ⟨_, rfl, by assumption⟩, _, rfl⟩
      case measure => simp [intOf]
    · obtain rfl : K = 5 := by omega
      clear hK hj
      go_wp2_with (first | (apply wpList_fcmp; rfl; rfl; rfl; rfl; (first | with_reducible assumption | exact Is.const rfl); (first | with_reducible assumption | exact Is.const rfl); (first | with_reducible assumption | exact rfl)) | (apply wpList_farith; rfl; rfl; rfl; rfl; (first | with_reducible assumption | with_reducible exact intWord_is _ | exact Is.const rfl); (first | with_reducible assumption | with_reducible exact intWord_is _ | exact Is.const rfl); intro r n hr))
      go_roundw
      case rel => exact ⟨4, 4, by omega, by omega, rfl, ⟨_, rfl, by assumption⟩, _, rfl⟩
      case measure => simp [intOf]
    · obtain rfl : K = 4 := by omega
      clear hK hj
      go_wp2_with (first | (apply wpList_fcmp; rfl; rfl; rfl; rfl; (first | with_reducible assumption | exact Is.const rfl); (first | with_reducible assumption | exact Is.const rfl); (first | with_reducible assumption | exact rfl)) | (apply wpList_farith; rfl; rfl; rfl; rfl; (first | with_reducible assumption | with_reducible exact intWord_is _ | exact Is.const rfl); (first | with_reducible assumption | with_reducible exact intWord_is _ | exact Is.const rfl); intro r n hr))
      go_roundw
      case rel => exact ⟨5, 3, by omega, by omega, rfl, ⟨_, rfl, by assumption⟩, _, rfl⟩
      case measure => simp [intOf]
    · obtain rfl : K = 3 := by omega
      clear hK hj
      go_wp2_with (first | (apply wpList_fcmp; rfl; rfl; rfl; rfl; (first | with_reducible assumption | exact Is.const rfl); (first | with_reducible assumption | exact Is.const rfl); (first | with_reducible assumption | exact rfl)) | (apply wpList_farith; rfl; rfl; rfl; rfl; (first | with_reducible assumption | with_reducible exact intWord_is _ | exact Is.const rfl); (first | with_reducible assumption | with_reducible exact intWord_is _ | exact Is.const rfl); intro r n hr))
      go_roundw
      case rel => exact ⟨6, 2, by omega, by omega, rfl, ⟨_, rfl, by assumption⟩, _, rfl⟩
      case measure => simp [intOf]
    · obtain rfl : K = 2 := by omega
      clear hK hj
      go_wp2_with (first | (apply wpList_fcmp; rfl; rfl; rfl; rfl; (first | with_reducible assumption | exact Is.const rfl); (first | with_reducible assumption | exact Is.const rfl); (first | with_reducible assumption | exact rfl)) | (apply wpList_farith; rfl; rfl; rfl; rfl; (first | with_reducible assumption | with_reducible exact intWord_is _ | exact Is.const rfl); (first | with_reducible assumption | with_reducible exact intWord_is _ | exact Is.const rfl); intro r n hr))
      go_roundw
      case rel => exact ⟨7, 1, by omega, by omega, rfl, ⟨_, rfl, by assumption⟩, _, rfl⟩
      case measure => simp [intOf]
    · obtain rfl : K = 1 := by omega
      clear hK hj
      go_wp2_with (first | (apply wpList_fcmp; rfl; rfl; rfl; rfl; (first | with_reducible assumption | exact Is.const rfl); (first | with_reducible assumption | exact Is.const rfl); (first | with_reducible assumption | exact rfl)) | (apply wpList_farith; rfl; rfl; rfl; rfl; (first | with_reducible assumption | with_reducible exact intWord_is _ | exact Is.const rfl); (first | with_reducible assumption | with_reducible exact intWord_is _ | exact Is.const rfl); intro r n hr))
      go_roundw
      case rel => exact ⟨8, 0, by omega, by omega, rfl, ⟨_, rfl, by assumption⟩, _, rfl⟩
      case measure => simp [intOf]
    · obtain rfl : K = 0 := by omega
      clear hK hj
      go_wp2_with (first | (apply wpList_fcmp; rfl; rfl; rfl; rfl; (first | with_reducible assumption | exact Is.const rfl); (first | with_reducible assumption | exact Is.const rfl); (first | with_reducible assumption | exact rfl)) | (apply wpList_fneg; rfl; rfl; have hg := Is.fneg (by assumption)) | (apply wpList_farith; rfl; rfl; rfl; rfl; (first | with_reducible assumption | exact Is.const rfl); (first | with_reducible assumption | exact Is.const rfl); intro r n hr))
      go_ret
      exact ⟨⟨_, rfl, by rw [EE.out]; assumption⟩, _, rfl⟩

set_option maxHeartbeats 1000000 in
theorem iSineOf_ft (x F : Nat) (HP : Hid (∀ w, Calls Try.prog 133 #[.float .f64 x] w fun e w' => (∃ r, e = .returned (.float .f64 r) ∧ Is .f64 r F) ∧ ∃ n, w' = w.drewN n))
    (h1 : fcmp .geq .f64 F 4602678819172646912 = false) (h2 : fcmp .gtr .f64 F 4598175219545276416 = true) (w : World) :
    Calls Try.prog 118 #[.float .f64 x] w fun e w' => (∃ r, e = .returned (.float .f64 r) ∧ Is .f64 r (sineF F)) ∧ ∃ n, w' = w.drewN n := by
  have e : sineF F = (fop .mul .f64 (fop .mul .f64 (fop .sub .f64 4602678819172646912 F) 4618760256179416344) (ser (fop .mul .f64 (fop .mul .f64 (fop .sub .f64 4602678819172646912 F) 4618760256179416344) (fop .mul .f64 (fop .sub .f64 4602678819172646912 F) 4618760256179416344)) 8)) := by
    simp only [sineF, sineV, sineZ, fold1, fold2, HALF, QUART, TAU, h1, h2, if_true, Bool.false_eq_true, if_false]
  have EE := Lib.hid e
  clear e
  go_enter Try.func118, Try.ntmps118
  go_wp2_with (first | (apply wpList_fcmp; rfl; rfl; rfl; rfl; (first | with_reducible assumption | exact Is.const rfl); (first | with_reducible assumption | exact Is.const rfl); (first | with_reducible assumption | exact rfl)) | (apply wpList_farith; rfl; rfl; rfl; rfl; (first | with_reducible assumption | exact Is.const rfl); (first | with_reducible assumption | exact Is.const rfl); intro r n hr) | (go_at_call 133; refine (HP.out _).mono ?_; rintro e w' ⟨⟨r, rfl, hr⟩, n, rfl⟩) | (go_at_call 134; refine (tau_any _).mono ?_; rintro e w' ⟨rfl, rfl⟩))
  go_loopw [7, 8] (fun p k wr => ∃ (j : Nat) (K : Int), j ≤ 8 ∧ K = 8 - (j : Int) ∧ k = .int .i64 K ∧ (∃ r, p = .float .f64 r ∧ Is .f64 r (ser (fop .mul .f64 (fop .mul .f64 (fop .sub .f64 4602678819172646912 F) 4618760256179416344) (fop .mul .f64 (fop .sub .f64 4602678819172646912 F) 4618760256179416344)) j)) ∧ ∃ n, wr = w.drewN n) (fun _ k _ => (intOf k).toNat)
  case atStart => exact ⟨0, 8, by omega, by omega, rfl, ⟨_, rfl, Is.const rfl⟩, _, rfl⟩
  case round =>
    obtain ⟨j, K, hj, hK, rfl, ⟨r, rfl, hr⟩, n, rfl⟩ := hrel
    have hcase : j = 0 ∨ j = 1 ∨ j = 2 ∨ j = 3 ∨ j = 4 ∨ j = 5 ∨ j = 6 ∨ j = 7 ∨ j = 8 := by omega
    rcases hcase with rfl | rfl | rfl | rfl | rfl | rfl | rfl | rfl | rfl
    · obtain rfl : K = 8 := by omega
      clear hK hj
      go_wp2_with (first | (apply wpList_fcmp; rfl; rfl; rfl; rfl; (first | with_reducible assumption | exact Is.const rfl); (first | with_reducible assumption | exact Is.const rfl); (first | with_reducible assumption | exact rfl)) | (apply wpList_farith; rfl; rfl; rfl; rfl; (first | with_reducible assumption | with_reducible exact intWord_is _ | exact Is.const rfl); (first | with_reducible assumption | with_reducible exact intWord_is _ | exact Is.const rfl); intro r n hr))
      go_roundw
      case rel => exact ⟨1, 7, by omega, by omega, rfl, ⟨_, rfl, by assumption⟩, _, rfl⟩
      case measure => simp [intOf]
    · obtain rfl : K = 7 := by omega
      clear hK hj
      go_wp2_with (first | (apply wpList_fcmp; rfl; rfl; rfl; rfl; (first | with_reducible assumption | exact Is.const rfl); (first | with_reducible assumption | exact Is.const rfl); (first | with_reducible assumption | exact rfl)) | (apply wpList_farith; rfl; rfl; rfl; rfl; (first | with_reducible assumption | with_reducible exact intWord_is _ | exact Is.const rfl); (first | with_reducible assumption | with_reducible exact intWord_is _ | exact Is.const rfl); intro r n hr))
      go_roundw
      case rel => exact ⟨2, 6, by omega, by omega, rfl, ⟨_, rfl, by assumption⟩, _, rfl⟩
      case measure => simp [intOf]
    · obtain rfl : K = 6 := by omega
      clear hK hj
      go_wp2_with (first | (apply wpList_fcmp; rfl; rfl; rfl; rfl; (first | with_reducible assumption | exact Is.const rfl); (first | with_reducible assumption | exact Is.const rfl); (first | with_reducible assumption | exact rfl)) | (apply wpList_farith; rfl; rfl; rfl; rfl; (first | with_reducible assumption | with_reducible exact intWord_is _ | exact Is.const rfl); (first | with_reducible assumption | with_reducible exact intWord_is _ | exact Is.const rfl); intro r n hr))
      go_roundw
      case rel => exact ⟨3, 5, by omega, by omega, rfl, ⟨_, rfl, by assumption⟩, _, rfl⟩
      case measure => simp [intOf]
    · obtain rfl : K = 5 := by omega
      clear hK hj
      go_wp2_with (first | (apply wpList_fcmp; rfl; rfl; rfl; rfl; (first | with_reducible assumption | exact Is.const rfl); (first | with_reducible assumption | exact Is.const rfl); (first | with_reducible assumption | exact rfl)) | (apply wpList_farith; rfl; rfl; rfl; rfl; (first | with_reducible assumption | with_reducible exact intWord_is _ | exact Is.const rfl); (first | with_reducible assumption | with_reducible exact intWord_is _ | exact Is.const rfl); intro r n hr))
      go_roundw
      case rel => exact ⟨4, 4, by omega, by omega, rfl, ⟨_, rfl, by assumption⟩, _, rfl⟩
      case measure => simp [intOf]
    · obtain rfl : K = 4 := by omega
      clear hK hj
      go_wp2_with (first | (apply wpList_fcmp; rfl; rfl; rfl; rfl; (first | with_reducible assumption | exact Is.const rfl); (first | with_reducible assumption | exact Is.const rfl); (first | with_reducible assumption | exact rfl)) | (apply wpList_farith; rfl; rfl; rfl; rfl; (first | with_reducible assumption | with_reducible exact intWord_is _ | exact Is.const rfl); (first | with_reducible assumption | with_reducible exact intWord_is _ | exact Is.const rfl); intro r n hr))
      go_roundw
      case rel => exact ⟨5, 3, by omega, by omega, rfl, ⟨_, rfl, by assumption⟩, _, rfl⟩
      case measure => simp [intOf]
    · obtain rfl : K = 3 := by omega
      clear hK hj
      go_wp2_with (first | (apply wpList_fcmp; rfl; rfl; rfl; rfl; (first | with_reducible assumption | exact Is.const rfl); (first | with_reducible assumption | exact Is.const rfl); (first | with_reducible assumption | exact rfl)) | (apply wpList_farith; rfl; rfl; rfl; rfl; (first | with_reducible assumption | with_reducible exact intWord_is _ | exact Is.const rfl); (first | with_reducible assumption | with_reducible exact intWord_is _ | exact Is.const rfl); intro r n hr))
      go_roundw
      case rel => exact ⟨6, 2, by omega, by omega, rfl, ⟨_, rfl, by assumption⟩, _, rfl⟩
      case measure => simp [intOf]
    · obtain rfl : K = 2 := by omega
      clear hK hj
      go_wp2_with (first | (apply wpList_fcmp; rfl; rfl; rfl; rfl; (first | with_reducible assumption | exact Is.const rfl); (first | with_reducible assumption | exact Is.const rfl); (first | with_reducible assumption | exact rfl)) | (apply wpList_farith; rfl; rfl; rfl; rfl; (first | with_reducible assumption | with_reducible exact intWord_is _ | exact Is.const rfl); (first | with_reducible assumption | with_reducible exact intWord_is _ | exact Is.const rfl); intro r n hr))
      go_roundw
      case rel => exact ⟨7, 1, by omega, by omega, rfl, ⟨_, rfl, by assumption⟩, _, rfl⟩
      case measure => simp [intOf]
    · obtain rfl : K = 1 := by omega
      clear hK hj
      go_wp2_with (first | (apply wpList_fcmp; rfl; rfl; rfl; rfl; (first | with_reducible assumption | exact Is.const rfl); (first | with_reducible assumption | exact Is.const rfl); (first | with_reducible assumption | exact rfl)) | (apply wpList_farith; rfl; rfl; rfl; rfl; (first | with_reducible assumption | with_reducible exact intWord_is _ | exact Is.const rfl); (first | with_reducible assumption | with_reducible exact intWord_is _ | exact Is.const rfl); intro r n hr))
      go_roundw
      case rel => exact ⟨8, 0, by omega, by omega, rfl, ⟨_, rfl, by assumption⟩, _, rfl⟩
      case measure => simp [intOf]
    · obtain rfl : K = 0 := by omega
      clear hK hj
      go_wp2_with (first | (apply wpList_fcmp; rfl; rfl; rfl; rfl; (first | with_reducible assumption | exact Is.const rfl); (first | with_reducible assumption | exact Is.const rfl); (first | with_reducible assumption | exact rfl)) | (apply wpList_fneg; rfl; rfl; have hg := Is.fneg (by assumption)) | (apply wpList_farith; rfl; rfl; rfl; rfl; (first | with_reducible assumption | exact Is.const rfl); (first | with_reducible assumption | exact Is.const rfl); intro r n hr))
      go_ret
      exact ⟨⟨_, rfl, by rw [EE.out]; assumption⟩, _, rfl⟩

set_option maxHeartbeats 1000000 in
theorem iSineOf_ff (x F : Nat) (HP : Hid (∀ w, Calls Try.prog 133 #[.float .f64 x] w fun e w' => (∃ r, e = .returned (.float .f64 r) ∧ Is .f64 r F) ∧ ∃ n, w' = w.drewN n))
    (h1 : fcmp .geq .f64 F 4602678819172646912 = false) (h2 : fcmp .gtr .f64 F 4598175219545276416 = false) (w : World) :
    Calls Try.prog 118 #[.float .f64 x] w fun e w' => (∃ r, e = .returned (.float .f64 r) ∧ Is .f64 r (sineF F)) ∧ ∃ n, w' = w.drewN n := by
  have e : sineF F = (fop .mul .f64 (fop .mul .f64 F 4618760256179416344) (ser (fop .mul .f64 (fop .mul .f64 F 4618760256179416344) (fop .mul .f64 F 4618760256179416344)) 8)) := by
    simp only [sineF, sineV, sineZ, fold1, fold2, HALF, QUART, TAU, h1, h2, Bool.false_eq_true, if_false]
  have EE := Lib.hid e
  clear e
  go_enter Try.func118, Try.ntmps118
  go_wp2_with (first | (apply wpList_fcmp; rfl; rfl; rfl; rfl; (first | with_reducible assumption | exact Is.const rfl); (first | with_reducible assumption | exact Is.const rfl); (first | with_reducible assumption | exact rfl)) | (apply wpList_farith; rfl; rfl; rfl; rfl; (first | with_reducible assumption | exact Is.const rfl); (first | with_reducible assumption | exact Is.const rfl); intro r n hr) | (go_at_call 133; refine (HP.out _).mono ?_; rintro e w' ⟨⟨r, rfl, hr⟩, n, rfl⟩) | (go_at_call 134; refine (tau_any _).mono ?_; rintro e w' ⟨rfl, rfl⟩))
  go_loopw [7, 8] (fun p k wr => ∃ (j : Nat) (K : Int), j ≤ 8 ∧ K = 8 - (j : Int) ∧ k = .int .i64 K ∧ (∃ r, p = .float .f64 r ∧ Is .f64 r (ser (fop .mul .f64 (fop .mul .f64 F 4618760256179416344) (fop .mul .f64 F 4618760256179416344)) j)) ∧ ∃ n, wr = w.drewN n) (fun _ k _ => (intOf k).toNat)
  case atStart => exact ⟨0, 8, by omega, by omega, rfl, ⟨_, rfl, Is.const rfl⟩, _, rfl⟩
  case round =>
    obtain ⟨j, K, hj, hK, rfl, ⟨r, rfl, hr⟩, n, rfl⟩ := hrel
    have hcase : j = 0 ∨ j = 1 ∨ j = 2 ∨ j = 3 ∨ j = 4 ∨ j = 5 ∨ j = 6 ∨ j = 7 ∨ j = 8 := by omega
    rcases hcase with rfl | rfl | rfl | rfl | rfl | rfl | rfl | rfl | rfl
    · obtain rfl : K = 8 := by omega
      clear hK hj
      go_wp2_with (first | (apply wpList_fcmp; rfl; rfl; rfl; rfl; (first | with_reducible assumption | exact Is.const rfl); (first | with_reducible assumption | exact Is.const rfl); (first | with_reducible assumption | exact rfl)) | (apply wpList_farith; rfl; rfl; rfl; rfl; (first | with_reducible assumption | with_reducible exact intWord_is _ | exact Is.const rfl); (first | with_reducible assumption | with_reducible exact intWord_is _ | exact Is.const rfl); intro r n hr))
      go_roundw
      case rel => exact ⟨1, 7, by omega, by omega, rfl, ⟨_, rfl, by assumption⟩, _, rfl⟩
      case measure => simp [intOf]
    · obtain rfl : K = 7 := by omega
      clear hK hj
      go_wp2_with (first | (apply wpList_fcmp; rfl; rfl; rfl; rfl; (first | with_reducible assumption | exact Is.const rfl); (first | with_reducible assumption | exact Is.const rfl); (first | with_reducible assumption | exact rfl)) | (apply wpList_farith; rfl; rfl; rfl; rfl; (first | with_reducible assumption | with_reducible exact intWord_is _ | exact Is.const rfl); (first | with_reducible assumption | with_reducible exact intWord_is _ | exact Is.const rfl); intro r n hr))
      go_roundw
      case rel => exact ⟨2, 6, by omega, by omega, rfl, ⟨_, rfl, by assumption⟩, _, rfl⟩
      case measure => simp [intOf]
    · obtain rfl : K = 6 := by omega
      clear hK hj
      go_wp2_with (first | (apply wpList_fcmp; rfl; rfl; rfl; rfl; (first | with_reducible assumption | exact Is.const rfl); (first | with_reducible assumption | exact Is.const rfl); (first | with_reducible assumption | exact rfl)) | (apply wpList_farith; rfl; rfl; rfl; rfl; (first | with_reducible assumption | with_reducible exact intWord_is _ | exact Is.const rfl); (first | with_reducible assumption | with_reducible exact intWord_is _ | exact Is.const rfl); intro r n hr))
      go_roundw
      case rel => exact ⟨3, 5, by omega, by omega, rfl, ⟨_, rfl, by assumption⟩, _, rfl⟩
      case measure => simp [intOf]
    · obtain rfl : K = 5 := by omega
      clear hK hj
      go_wp2_with (first | (apply wpList_fcmp; rfl; rfl; rfl; rfl; (first | with_reducible assumption | exact Is.const rfl); (first | with_reducible assumption | exact Is.const rfl); (first | with_reducible assumption | exact rfl)) | (apply wpList_farith; rfl; rfl; rfl; rfl; (first | with_reducible assumption | with_reducible exact intWord_is _ | exact Is.const rfl); (first | with_reducible assumption | with_reducible exact intWord_is _ | exact Is.const rfl); intro r n hr))
      go_roundw
      case rel => exact ⟨4, 4, by omega, by omega, rfl, ⟨_, rfl, by assumption⟩, _, rfl⟩
      case measure => simp [intOf]
    · obtain rfl : K = 4 := by omega
      clear hK hj
      go_wp2_with (first | (apply wpList_fcmp; rfl; rfl; rfl; rfl; (first | with_reducible assumption | exact Is.const rfl); (first | with_reducible assumption | exact Is.const rfl); (first | with_reducible assumption | exact rfl)) | (apply wpList_farith; rfl; rfl; rfl; rfl; (first | with_reducible assumption | with_reducible exact intWord_is _ | exact Is.const rfl); (first | with_reducible assumption | with_reducible exact intWord_is _ | exact Is.const rfl); intro r n hr))
      go_roundw
      case rel => exact ⟨5, 3, by omega, by omega, rfl, ⟨_, rfl, by assumption⟩, _, rfl⟩
      case measure => simp [intOf]
    · obtain rfl : K = 3 := by omega
      clear hK hj
      go_wp2_with (first | (apply wpList_fcmp; rfl; rfl; rfl; rfl; (first | with_reducible assumption | exact Is.const rfl); (first | with_reducible assumption | exact Is.const rfl); (first | with_reducible assumption | exact rfl)) | (apply wpList_farith; rfl; rfl; rfl; rfl; (first | with_reducible assumption | with_reducible exact intWord_is _ | exact Is.const rfl); (first | with_reducible assumption | with_reducible exact intWord_is _ | exact Is.const rfl); intro r n hr))
      go_roundw
      case rel => exact ⟨6, 2, by omega, by omega, rfl, ⟨_, rfl, by assumption⟩, _, rfl⟩
      case measure => simp [intOf]
    · obtain rfl : K = 2 := by omega
      clear hK hj
      go_wp2_with (first | (apply wpList_fcmp; rfl; rfl; rfl; rfl; (first | with_reducible assumption | exact Is.const rfl); (first | with_reducible assumption | exact Is.const rfl); (first | with_reducible assumption | exact rfl)) | (apply wpList_farith; rfl; rfl; rfl; rfl; (first | with_reducible assumption | with_reducible exact intWord_is _ | exact Is.const rfl); (first | with_reducible assumption | with_reducible exact intWord_is _ | exact Is.const rfl); intro r n hr))
      go_roundw
      case rel => exact ⟨7, 1, by omega, by omega, rfl, ⟨_, rfl, by assumption⟩, _, rfl⟩
      case measure => simp [intOf]
    · obtain rfl : K = 1 := by omega
      clear hK hj
      go_wp2_with (first | (apply wpList_fcmp; rfl; rfl; rfl; rfl; (first | with_reducible assumption | exact Is.const rfl); (first | with_reducible assumption | exact Is.const rfl); (first | with_reducible assumption | exact rfl)) | (apply wpList_farith; rfl; rfl; rfl; rfl; (first | with_reducible assumption | with_reducible exact intWord_is _ | exact Is.const rfl); (first | with_reducible assumption | with_reducible exact intWord_is _ | exact Is.const rfl); intro r n hr))
      go_roundw
      case rel => exact ⟨8, 0, by omega, by omega, rfl, ⟨_, rfl, by assumption⟩, _, rfl⟩
      case measure => simp [intOf]
    · obtain rfl : K = 0 := by omega
      clear hK hj
      go_wp2_with (first | (apply wpList_fcmp; rfl; rfl; rfl; rfl; (first | with_reducible assumption | exact Is.const rfl); (first | with_reducible assumption | exact Is.const rfl); (first | with_reducible assumption | exact rfl)) | (apply wpList_fneg; rfl; rfl; have hg := Is.fneg (by assumption)) | (apply wpList_farith; rfl; rfl; rfl; rfl; (first | with_reducible assumption | exact Is.const rfl); (first | with_reducible assumption | exact Is.const rfl); intro r n hr))
      go_ret
      exact ⟨⟨_, rfl, by rw [EE.out]; assumption⟩, _, rfl⟩

theorem iSineOf_any (x Y : Nat) (ix : Is .f64 x Y) (hs : short Y) (w : World) : Calls Try.prog 118 #[.float .f64 x] w fun e w' => (∃ r, e = .returned (.float .f64 r) ∧ Is .f64 r (sineW Y)) ∧ ∃ n, w' = w.drewN n := by
  have hp := fun w => part_any x Y ix hs w
  have HP := Lib.hid hp
  unfold sineW
  generalize partT Y = F at HP
  by_cases h1 : fcmp .geq .f64 F 4602678819172646912 = true
  · by_cases h2 : fcmp .gtr .f64 (fop .sub .f64 F 4602678819172646912) 4598175219545276416 = true
    · exact iSineOf_tt x F HP h1 h2 w
    · exact iSineOf_tf x F HP h1 (by simpa using h2) w
  · by_cases h2 : fcmp .gtr .f64 F 4598175219545276416 = true
    · exact iSineOf_ft x F HP (by simpa using h1) h2 w
    · exact iSineOf_ff x F HP (by simpa using h1) (by simpa using h2) w

set_option maxHeartbeats 1000000 in
theorem sWide_ttt (y Y : Nat) (ix : Is .f64 y Y) (ht : floatToIntVal .f64 Y .i64 = some (tint Y)) (hq : fcmp .neq .f64 (fop .sub .f64 Y Y) 0 = false) (hg : fcmp .geq .f64 Y 4841369599423283200 = false) (hl : fcmp .leq .f64 Y 14064741636278059008 = false)
    (h0 : fcmp .lss .f64 (fop .sub .f64 Y (floatOfInt .f64 (tint Y))) 0 = true) (h1 : fcmp .geq .f64 (fop .add .f64 (fop .sub .f64 Y (floatOfInt .f64 (tint Y))) 4607182418800017408) 4602678819172646912 = true) (h2 : fcmp .gtr .f64 (fop .sub .f64 (fop .add .f64 (fop .sub .f64 Y (floatOfInt .f64 (tint Y))) 4607182418800017408) 4602678819172646912) 4598175219545276416 = true) (w : World) :
    Calls Try.prog 114 #[.float .f64 y] w fun e w' => (∃ r, e = .returned (.float .f64 r) ∧ Is .f64 r (sineW Y)) ∧ ∃ n, w' = w.drewN n := by
  have e : sineW Y = fneg .f64 (fop .mul .f64 (fop .mul .f64 (fop .sub .f64 4602678819172646912 (fop .sub .f64 (fop .add .f64 (fop .sub .f64 Y (floatOfInt .f64 (tint Y))) 4607182418800017408) 4602678819172646912)) 4618760256179416344) (ser (fop .mul .f64 (fop .mul .f64 (fop .sub .f64 4602678819172646912 (fop .sub .f64 (fop .add .f64 (fop .sub .f64 Y (floatOfInt .f64 (tint Y))) 4607182418800017408) 4602678819172646912)) 4618760256179416344) (fop .mul .f64 (fop .sub .f64 4602678819172646912 (fop .sub .f64 (fop .add .f64 (fop .sub .f64 Y (floatOfInt .f64 (tint Y))) 4607182418800017408) 4602678819172646912)) 4618760256179416344)) 8)) := by
    simp only [sineW, partT, part0, sineF, sineV, sineZ, fold1, fold2, HALF, QUART, TAU, h0, h1, h2, ONE, if_true]
  have EE := Lib.hid e
  have hi := intWord_is (tint Y)
  clear e
  go_enter Try.func114, Try.ntmps114
  go_wp2_with (first | (apply wpList_toInt; rfl; rfl; (first | with_reducible assumption | exact Is.const rfl); exact U64; exact UI; (with_reducible assumption)) | (apply wpList_fcmp; rfl; rfl; rfl; rfl; (first | with_reducible assumption | exact Is.const rfl); (first | with_reducible assumption | exact Is.const rfl); (first | with_reducible assumption | exact rfl)) | (apply wpList_farith; rfl; rfl; rfl; rfl; (first | with_reducible assumption | exact Is.const rfl); (first | with_reducible assumption | exact Is.const rfl); intro r n hr))
  go_loopw [7, 8] (fun p k wr => ∃ (j : Nat) (K : Int), j ≤ 8 ∧ K = 8 - (j : Int) ∧ k = .int .i64 K ∧ (∃ r, p = .float .f64 r ∧ Is .f64 r (ser (fop .mul .f64 (fop .mul .f64 (fop .sub .f64 4602678819172646912 (fop .sub .f64 (fop .add .f64 (fop .sub .f64 Y (floatOfInt .f64 (tint Y))) 4607182418800017408) 4602678819172646912)) 4618760256179416344) (fop .mul .f64 (fop .sub .f64 4602678819172646912 (fop .sub .f64 (fop .add .f64 (fop .sub .f64 Y (floatOfInt .f64 (tint Y))) 4607182418800017408) 4602678819172646912)) 4618760256179416344)) j)) ∧ ∃ n, wr = w.drewN n) (fun _ k _ => (intOf k).toNat)
  case atStart => exact ⟨0, 8, by omega, by omega, rfl, ⟨_, rfl, Is.const rfl⟩, _, rfl⟩
  case round =>
    obtain ⟨j, K, hj, hK, rfl, ⟨r, rfl, hr⟩, n, rfl⟩ := hrel
    have hcase : j = 0 ∨ j = 1 ∨ j = 2 ∨ j = 3 ∨ j = 4 ∨ j = 5 ∨ j = 6 ∨ j = 7 ∨ j = 8 := by omega
    rcases hcase with rfl | rfl | rfl | rfl | rfl | rfl | rfl | rfl | rfl
    · obtain rfl : K = 8 := by omega
      clear hK hj
      go_wp2_with (first | (apply wpList_fcmp; rfl; rfl; rfl; rfl; (first | with_reducible assumption | exact Is.const rfl); (first | with_reducible assumption | exact Is.const rfl); (first | with_reducible assumption | exact rfl)) | (apply wpList_farith; rfl; rfl; rfl; rfl; (first | with_reducible assumption | with_reducible exact intWord_is _ | exact Is.const rfl); (first | with_reducible assumption | with_reducible exact intWord_is _ | exact Is.const rfl); intro r n hr))
      go_roundw
      case rel => exact ⟨1, 7, by omega, by omega, rfl, ⟨_, rfl, by assumption⟩, _, rfl⟩
      case measure => simp [intOf]
    · obtain rfl : K = 7 := by omega
      clear hK hj
      go_wp2_with (first | (apply wpList_fcmp; rfl; rfl; rfl; rfl; (first | with_reducible assumption | exact Is.const rfl); (first | with_reducible assumption | exact Is.const rfl); (first | with_reducible assumption | exact rfl)) | (apply wpList_farith; rfl; rfl; rfl; rfl; (first | with_reducible assumption | with_reducible exact intWord_is _ | exact Is.const rfl); (first | with_reducible assumption | with_reducible exact intWord_is _ | exact Is.const rfl); intro r n hr))
      go_roundw
      case rel => exact ⟨2, 6, by omega, by omega, rfl, ⟨_, rfl, by assumption⟩, _, rfl⟩
      case measure => simp [intOf]
    · obtain rfl : K = 6 := by omega
      clear hK hj
      go_wp2_with (first | (apply wpList_fcmp; rfl; rfl; rfl; rfl; (first | with_reducible assumption | exact Is.const rfl); (first | with_reducible assumption | exact Is.const rfl); (first | with_reducible assumption | exact rfl)) | (apply wpList_farith; rfl; rfl; rfl; rfl; (first | with_reducible assumption | with_reducible exact intWord_is _ | exact Is.const rfl); (first | with_reducible assumption | with_reducible exact intWord_is _ | exact Is.const rfl); intro r n hr))
      go_roundw
      case rel => exact ⟨3, 5, by omega, by omega, rfl, ⟨_, rfl, by assumption⟩, _, rfl⟩
      case measure => simp [intOf]
    · obtain rfl : K = 5 := by omega
      clear hK hj
      go_wp2_with (first | (apply wpList_fcmp; rfl; rfl; rfl; rfl; (first | with_reducible assumption | exact Is.const rfl); (first | with_reducible assumption | exact Is.const rfl); (first | with_reducible assumption | exact rfl)) | (apply wpList_farith; rfl; rfl; rfl; rfl; (first | with_reducible assumption | with_reducible exact intWord_is _ | exact Is.const rfl); (first | with_reducible assumption | with_reducible exact intWord_is _ | exact Is.const rfl); intro r n hr))
      go_roundw
      case rel => exact ⟨4, 4, by omega, by omega, rfl, ⟨_, rfl, by assumption⟩, _, rfl⟩
      case measure => simp [intOf]
    · obtain rfl : K = 4 := by omega
      clear hK hj
      go_wp2_with (first | (apply wpList_fcmp; rfl; rfl; rfl; rfl; (first | with_reducible assumption | exact Is.const rfl); (first | with_reducible assumption | exact Is.const rfl); (first | with_reducible assumption | exact rfl)) | (apply wpList_farith; rfl; rfl; rfl; rfl; (first | with_reducible assumption | with_reducible exact intWord_is _ | exact Is.const rfl); (first | with_reducible assumption | with_reducible exact intWord_is _ | exact Is.const rfl); intro r n hr))
      go_roundw
      case rel => exact ⟨5, 3, by omega, by omega, rfl, ⟨_, rfl, by assumption⟩, _, rfl⟩
      case measure => simp [intOf]
    · obtain rfl : K = 3 := by omega
      clear hK hj
      go_wp2_with (first | (apply wpList_fcmp; rfl; rfl; rfl; rfl; (first | with_reducible assumption | exact Is.const rfl); (first | with_reducible assumption | exact Is.const rfl); (first | with_reducible assumption | exact rfl)) | (apply wpList_farith; rfl; rfl; rfl; rfl; (first | with_reducible assumption | with_reducible exact intWord_is _ | exact Is.const rfl); (first | with_reducible assumption | with_reducible exact intWord_is _ | exact Is.const rfl); intro r n hr))
      go_roundw
      case rel => exact ⟨6, 2, by omega, by omega, rfl, ⟨_, rfl, by assumption⟩, _, rfl⟩
      case measure => simp [intOf]
    · obtain rfl : K = 2 := by omega
      clear hK hj
      go_wp2_with (first | (apply wpList_fcmp; rfl; rfl; rfl; rfl; (first | with_reducible assumption | exact Is.const rfl); (first | with_reducible assumption | exact Is.const rfl); (first | with_reducible assumption | exact rfl)) | (apply wpList_farith; rfl; rfl; rfl; rfl; (first | with_reducible assumption | with_reducible exact intWord_is _ | exact Is.const rfl); (first | with_reducible assumption | with_reducible exact intWord_is _ | exact Is.const rfl); intro r n hr))
      go_roundw
      case rel => exact ⟨7, 1, by omega, by omega, rfl, ⟨_, rfl, by assumption⟩, _, rfl⟩
      case measure => simp [intOf]
    · obtain rfl : K = 1 := by omega
      clear hK hj
      go_wp2_with (first | (apply wpList_fcmp; rfl; rfl; rfl; rfl; (first | with_reducible assumption | exact Is.const rfl); (first | with_reducible assumption | exact Is.const rfl); (first | with_reducible assumption | exact rfl)) | (apply wpList_farith; rfl; rfl; rfl; rfl; (first | with_reducible assumption | with_reducible exact intWord_is _ | exact Is.const rfl); (first | with_reducible assumption | with_reducible exact intWord_is _ | exact Is.const rfl); intro r n hr))
      go_roundw
      case rel => exact ⟨8, 0, by omega, by omega, rfl, ⟨_, rfl, by assumption⟩, _, rfl⟩
      case measure => simp [intOf]
    · obtain rfl : K = 0 := by omega
      clear hK hj
      go_wp2_with (first | (apply wpList_fcmp; rfl; rfl; rfl; rfl; (first | with_reducible assumption | exact Is.const rfl); (first | with_reducible assumption | exact Is.const rfl); (first | with_reducible assumption | exact rfl)) | (apply wpList_fneg; rfl; rfl; have hg := Is.fneg (by assumption)) | (apply wpList_farith; rfl; rfl; rfl; rfl; (first | with_reducible assumption | exact Is.const rfl); (first | with_reducible assumption | exact Is.const rfl); intro r n hr))
      go_ret
      exact ⟨⟨_, rfl, by rw [EE.out]; assumption⟩, _, rfl⟩

set_option maxHeartbeats 1000000 in
theorem sWide_ttf (y Y : Nat) (ix : Is .f64 y Y) (ht : floatToIntVal .f64 Y .i64 = some (tint Y)) (hq : fcmp .neq .f64 (fop .sub .f64 Y Y) 0 = false) (hg : fcmp .geq .f64 Y 4841369599423283200 = false) (hl : fcmp .leq .f64 Y 14064741636278059008 = false)
    (h0 : fcmp .lss .f64 (fop .sub .f64 Y (floatOfInt .f64 (tint Y))) 0 = true) (h1 : fcmp .geq .f64 (fop .add .f64 (fop .sub .f64 Y (floatOfInt .f64 (tint Y))) 4607182418800017408) 4602678819172646912 = true) (h2 : fcmp .gtr .f64 (fop .sub .f64 (fop .add .f64 (fop .sub .f64 Y (floatOfInt .f64 (tint Y))) 4607182418800017408) 4602678819172646912) 4598175219545276416 = false) (w : World) :
    Calls Try.prog 114 #[.float .f64 y] w fun e w' => (∃ r, e = .returned (.float .f64 r) ∧ Is .f64 r (sineW Y)) ∧ ∃ n, w' = w.drewN n := by
  have e : sineW Y = fneg .f64 (fop .mul .f64 (fop .mul .f64 (fop .sub .f64 (fop .add .f64 (fop .sub .f64 Y (floatOfInt .f64 (tint Y))) 4607182418800017408) 4602678819172646912) 4618760256179416344) (ser (fop .mul .f64 (fop .mul .f64 (fop .sub .f64 (fop .add .f64 (fop .sub .f64 Y (floatOfInt .f64 (tint Y))) 4607182418800017408) 4602678819172646912) 4618760256179416344) (fop .mul .f64 (fop .sub .f64 (fop .add .f64 (fop .sub .f64 Y (floatOfInt .f64 (tint Y))) 4607182418800017408) 4602678819172646912) 4618760256179416344)) 8)) := by
    simp only [sineW, partT, part0, sineF, sineV, sineZ, fold1, fold2, HALF, QUART, TAU, h0, h1, h2, ONE, if_true, Bool.false_eq_true, if_false]
  have EE := Lib.hid e
  have hi := intWord_is (tint Y)
  clear e
  go_enter Try.func114, Try.ntmps114
  go_wp2_with (first | (apply wpList_toInt; rfl; rfl; (first | with_reducible assumption | exact Is.const rfl); exact U64; exact UI; (with_reducible assumption)) | (apply wpList_fcmp; rfl; rfl; rfl; rfl; (first | with_reducible assumption | exact Is.const rfl); (first | with_reducible assumption | exact Is.const rfl); (first | with_reducible assumption | exact rfl)) | (apply wpList_farith; rfl; rfl; rfl; rfl; (first | with_reducible assumption | exact Is.const rfl); (first | with_reducible assumption | exact Is.const rfl); intro r n hr))
  go_loopw [7, 8] (fun p k wr => ∃ (j : Nat) (K : Int), j ≤ 8 ∧ K = 8 - (j : Int) ∧ k = .int .i64 K ∧ (∃ r, p = .float .f64 r ∧ Is .f64 r (ser (fop .mul .f64 (fop .mul .f64 (fop .sub .f64 (fop .add .f64 (fop .sub .f64 Y (floatOfInt .f64 (tint Y))) 4607182418800017408) 4602678819172646912) 4618760256179416344) (fop .mul .f64 (fop .sub .f64 (fop .add .f64 (fop .sub .f64 Y (floatOfInt .f64 (tint Y))) 4607182418800017408) 4602678819172646912) 4618760256179416344)) j)) ∧ ∃ n, wr = w.drewN n) (fun _ k _ => (intOf k).toNat)
  case atStart => exact ⟨0, 8, by omega, by omega, rfl, ⟨_, rfl, Is.const rfl⟩, _, rfl⟩
  case round =>
    obtain ⟨j, K, hj, hK, rfl, ⟨r, rfl, hr⟩, n, rfl⟩ := hrel
    have hcase : j = 0 ∨ j = 1 ∨ j = 2 ∨ j = 3 ∨ j = 4 ∨ j = 5 ∨ j = 6 ∨ j = 7 ∨ j = 8 := by omega
    rcases hcase with rfl | rfl | rfl | rfl | rfl | rfl | rfl | rfl | rfl
    · obtain rfl : K = 8 := by omega
      clear hK hj
      go_wp2_with (first | (apply wpList_fcmp; rfl; rfl; rfl; rfl; (first | with_reducible assumption | exact Is.const rfl); (first | with_reducible assumption | exact Is.const rfl); (first | with_reducible assumption | exact rfl)) | (apply wpList_farith; rfl; rfl; rfl; rfl; (first | with_reducible assumption | with_reducible exact intWord_is _ | exact Is.const rfl); (first | with_reducible assumption | with_reducible exact intWord_is _ | exact Is.const rfl); intro r n hr))
      go_roundw
      case rel => exact ⟨1, 7, by omega, by omega, rfl, ⟨_, rfl, by assumption⟩, _, rfl⟩
      case measure => simp [intOf]
    · obtain rfl : K = 7 := by omega
      clear hK hj
      go_wp2_with (first | (apply wpList_fcmp; rfl; rfl; rfl; rfl; (first | with_reducible assumption | exact Is.const rfl); (first | with_reducible assumption | exact Is.const rfl); (first | with_reducible assumption | exact rfl)) | (apply wpList_farith; rfl; rfl; rfl; rfl; (first | with_reducible assumption | with_reducible exact intWord_is _ | exact Is.const rfl); (first | with_reducible assumption | with_reducible exact intWord_is _ | exact Is.const rfl); intro r n hr))
      go_roundw
      case rel => exact ⟨2, 6, by omega, by omega, rfl, ⟨_, rfl, by assumption⟩, _, rfl⟩
      case measure => simp [intOf]
    · obtain rfl : K = 6 := by omega
      clear hK hj
      go_wp2_with (first | (apply wpList_fcmp; rfl; rfl; rfl; rfl; (first | with_reducible assumption | exact Is.const rfl); (first | with_reducible assumption | exact Is.const rfl); (first | with_reducible assumption | exact rfl)) | (apply wpList_farith; rfl; rfl; rfl; rfl; (first | with_reducible assumption | with_reducible exact intWord_is _ | exact Is.const rfl); (first | with_reducible assumption | with_reducible exact intWord_is _ | exact Is.const rfl); intro r n hr))
      go_roundw
      case rel => exact ⟨3, 5, by omega, by omega, rfl, ⟨_, rfl, by assumption⟩, _, rfl⟩
      case measure => simp [intOf]
    · obtain rfl : K = 5 := by omega
      clear hK hj
      go_wp2_with (first | (apply wpList_fcmp; rfl; rfl; rfl; rfl; (first | with_reducible assumption | exact Is.const rfl); (first | with_reducible assumption | exact Is.const rfl); (first | with_reducible assumption | exact rfl)) | (apply wpList_farith; rfl; rfl; rfl; rfl; (first | with_reducible assumption | with_reducible exact intWord_is _ | exact Is.const rfl); (first | with_reducible assumption | with_reducible exact intWord_is _ | exact Is.const rfl); intro r n hr))
      go_roundw
      case rel => exact ⟨4, 4, by omega, by omega, rfl, ⟨_, rfl, by assumption⟩, _, rfl⟩
      case measure => simp [intOf]
    · obtain rfl : K = 4 := by omega
      clear hK hj
      go_wp2_with (first | (apply wpList_fcmp; rfl; rfl; rfl; rfl; (first | with_reducible assumption | exact Is.const rfl); (first | with_reducible assumption | exact Is.const rfl); (first | with_reducible assumption | exact rfl)) | (apply wpList_farith; rfl; rfl; rfl; rfl; (first | with_reducible assumption | with_reducible exact intWord_is _ | exact Is.const rfl); (first | with_reducible assumption | with_reducible exact intWord_is _ | exact Is.const rfl); intro r n hr))
      go_roundw
      case rel => exact ⟨5, 3, by omega, by omega, rfl, ⟨_, rfl, by assumption⟩, _, rfl⟩
      case measure => simp [intOf]
    · obtain rfl : K = 3 := by omega
      clear hK hj
      go_wp2_with (first | (apply wpList_fcmp; rfl; rfl; rfl; rfl; (first | with_reducible assumption | exact Is.const rfl); (first | with_reducible assumption | exact Is.const rfl); (first | with_reducible assumption | exact rfl)) | (apply wpList_farith; rfl; rfl; rfl; rfl; (first | with_reducible assumption | with_reducible exact intWord_is _ | exact Is.const rfl); (first | with_reducible assumption | with_reducible exact intWord_is _ | exact Is.const rfl); intro r n hr))
      go_roundw
      case rel => exact ⟨6, 2, by omega, by omega, rfl, ⟨_, rfl, by assumption⟩, _, rfl⟩
      case measure => simp [intOf]
    · obtain rfl : K = 2 := by omega
      clear hK hj
      go_wp2_with (first | (apply wpList_fcmp; rfl; rfl; rfl; rfl; (first | with_reducible assumption | exact Is.const rfl); (first | with_reducible assumption | exact Is.const rfl); (first | with_reducible assumption | exact rfl)) | (apply wpList_farith; rfl; rfl; rfl; rfl; (first | with_reducible assumption | with_reducible exact intWord_is _ | exact Is.const rfl); (first | with_reducible assumption | with_reducible exact intWord_is _ | exact Is.const rfl); intro r n hr))
      go_roundw
      case rel => exact ⟨7, 1, by omega, by omega, rfl, ⟨_, rfl, by assumption⟩, _, rfl⟩
      case measure => simp [intOf]
    · obtain rfl : K = 1 := by omega
      clear hK hj
      go_wp2_with (first | (apply wpList_fcmp; rfl; rfl; rfl; rfl; (first | with_reducible assumption | exact Is.const rfl); (first | with_reducible assumption | exact Is.const rfl); (first | with_reducible assumption | exact rfl)) | (apply wpList_farith; rfl; rfl; rfl; rfl; (first | with_reducible assumption | with_reducible exact intWord_is _ | exact Is.const rfl); (first | with_reducible assumption | with_reducible exact intWord_is _ | exact Is.const rfl); intro r n hr))
      go_roundw
      case rel => exact ⟨8, 0, by omega, by omega, rfl, ⟨_, rfl, by assumption⟩, _, rfl⟩
      case measure => simp [intOf]
    · obtain rfl : K = 0 := by omega
      clear hK hj
      go_wp2_with (first | (apply wpList_fcmp; rfl; rfl; rfl; rfl; (first | with_reducible assumption | exact Is.const rfl); (first | with_reducible assumption | exact Is.const rfl); (first | with_reducible assumption | exact rfl)) | (apply wpList_fneg; rfl; rfl; have hg := Is.fneg (by assumption)) | (apply wpList_farith; rfl; rfl; rfl; rfl; (first | with_reducible assumption | exact Is.const rfl); (first | with_reducible assumption | exact Is.const rfl); intro r n hr))
      go_ret
      exact ⟨⟨_, rfl, by rw [EE.out]; assumption⟩, _, rfl⟩

set_option maxHeartbeats 1000000 in
theorem sWide_tft (y Y : Nat) (ix : Is .f64 y Y) (ht : floatToIntVal .f64 Y .i64 = some (tint Y)) (hq : fcmp .neq .f64 (fop .sub .f64 Y Y) 0 = false) (hg : fcmp .geq .f64 Y 4841369599423283200 = false) (hl : fcmp .leq .f64 Y 14064741636278059008 = false)
    (h0 : fcmp .lss .f64 (fop .sub .f64 Y (floatOfInt .f64 (tint Y))) 0 = true) (h1 : fcmp .geq .f64 (fop .add .f64 (fop .sub .f64 Y (floatOfInt .f64 (tint Y))) 4607182418800017408) 4602678819172646912 = false) (h2 : fcmp .gtr .f64 (fop .add .f64 (fop .sub .f64 Y (floatOfInt .f64 (tint Y))) 4607182418800017408) 4598175219545276416 = true) (w : World) :
    Calls Try.prog 114 #[.float .f64 y] w fun e w' => (∃ r, e = .returned (.float .f64 r) ∧ Is .f64 r (sineW Y)) ∧ ∃ n, w' = w.drewN n := by
  have e : sineW Y = (fop .mul .f64 (fop .mul .f64 (fop .sub .f64 4602678819172646912 (fop .add .f64 (fop .sub .f64 Y (floatOfInt .f64 (tint Y))) 4607182418800017408)) 4618760256179416344) (ser (fop .mul .f64 (fop .mul .f64 (fop .sub .f64 4602678819172646912 (fop .add .f64 (fop .sub .f64 Y (floatOfInt .f64 (tint Y))) 4607182418800017408)) 4618760256179416344) (fop .mul .f64 (fop .sub .f64 4602678819172646912 (fop .add .f64 (fop .sub .f64 Y (floatOfInt .f64 (tint Y))) 4607182418800017408)) 4618760256179416344)) 8)) := by
    simp only [sineW, partT, part0, sineF, sineV, sineZ, fold1, fold2, HALF, QUART, TAU, h0, h1, h2, ONE, if_true, Bool.false_eq_true, if_false]
  have EE := Lib.hid e
  have hi := intWord_is (tint Y)
  clear e
  go_enter Try.func114, Try.ntmps114
  go_wp2_with (first | (apply wpList_toInt; rfl; rfl; (first | with_reducible assumption | exact Is.const rfl); exact U64; exact UI; (with_reducible assumption)) | (apply wpList_fcmp; rfl; rfl; rfl; rfl; (first | with_reducible assumption | exact Is.const rfl); (first | with_reducible assumption | exact Is.const rfl); (first | with_reducible assumption | exact rfl)) | (apply wpList_farith; rfl; rfl; rfl; rfl; (first | with_reducible assumption | exact Is.const rfl); (first | with_reducible assumption | exact Is.const rfl); intro r n hr))
  go_loopw [7, 8] (fun p k wr => ∃ (j : Nat) (K : Int), j ≤ 8 ∧ K = 8 - (j : Int) ∧ k = .int .i64 K ∧ (∃ r, p = .float .f64 r ∧ Is .f64 r (ser (fop .mul .f64 (fop .mul .f64 (fop .sub .f64 4602678819172646912 (fop .add .f64 (fop .sub .f64 Y (floatOfInt .f64 (tint Y))) 4607182418800017408)) 4618760256179416344) (fop .mul .f64 (fop .sub .f64 4602678819172646912 (fop .add .f64 (fop .sub .f64 Y (floatOfInt .f64 (tint Y))) 4607182418800017408)) 4618760256179416344)) j)) ∧ ∃ n, wr = w.drewN n) (fun _ k _ => (intOf k).toNat)
  case atStart => exact ⟨0, 8, by omega, by omega, rfl, ⟨_, rfl, Is.const rfl⟩, _, rfl⟩
  case round =>
    obtain ⟨j, K, hj, hK, rfl, ⟨r, rfl, hr⟩, n, rfl⟩ := hrel
    have hcase : j = 0 ∨ j = 1 ∨ j = 2 ∨ j = 3 ∨ j = 4 ∨ j = 5 ∨ j = 6 ∨ j = 7 ∨ j = 8 := by omega
    rcases hcase with rfl | rfl | rfl | rfl | rfl | rfl | rfl | rfl | rfl
    · obtain rfl : K = 8 := by omega
      clear hK hj
      go_wp2_with (first | (apply wpList_fcmp; rfl; rfl; rfl; rfl; (first | with_reducible assumption | exact Is.const rfl); (first | with_reducible assumption | exact Is.const rfl); (first | with_reducible assumption | exact rfl)) | (apply wpList_farith; rfl; rfl; rfl; rfl; (first | with_reducible assumption | with_reducible exact intWord_is _ | exact Is.const rfl); (first | with_reducible assumption | with_reducible exact intWord_is _ | exact Is.const rfl); intro r n hr))
      go_roundw
      case rel => exact ⟨1, 7, by omega, by omega, rfl, ⟨_, rfl, by assumption⟩, _, rfl⟩
      case measure => simp [intOf]
    · obtain rfl : K = 7 := by omega
      clear hK hj
      go_wp2_with (first | (apply wpList_fcmp; rfl; rfl; rfl; rfl; (first | with_reducible assumption | exact Is.const rfl); (first | with_reducible assumption | exact Is.const rfl); (first | with_reducible assumption | exact rfl)) | (apply wpList_farith; rfl; rfl; rfl; rfl; (first | with_reducible assumption | with_reducible exact intWord_is _ | exact Is.const rfl); (first | with_reducible assumption | with_reducible exact intWord_is _ | exact Is.const rfl); intro r n hr))
      go_roundw
      case rel => exact ⟨2, 6, by omega, by omega, rfl, ⟨_, rfl, by assumption⟩, _, rfl⟩
      case measure => simp [intOf]
    · obtain rfl : K = 6 := by omega
      clear hK hj
      go_wp2_with (first | (apply wpList_fcmp; rfl; rfl; rfl; rfl; (first | with_reducible assumption | exact Is.const rfl); (first | with_reducible assumption | exact Is.const rfl); (first | with_reducible assumption | exact rfl)) | (apply wpList_farith; rfl; rfl; rfl; rfl; (first | with_reducible assumption | with_reducible exact intWord_is _ | exact Is.const rfl); (first | with_reducible assumption | with_reducible exact intWord_is _ | exact Is.const rfl); intro r n hr))
      go_roundw
      case rel => exact ⟨3, 5, by omega, by omega, rfl, ⟨_, rfl, by assumption⟩, _, rfl⟩
      case measure => simp [intOf]
    · obtain rfl : K = 5 := by omega
      clear hK hj
      go_wp2_with (first | (apply wpList_fcmp; rfl; rfl; rfl; rfl; (first | with_reducible assumption | exact Is.const rfl); (first | with_reducible assumption | exact Is.const rfl); (first | with_reducible assumption | exact rfl)) | (apply wpList_farith; rfl; rfl; rfl; rfl; (first | with_reducible assumption | with_reducible exact intWord_is _ | exact Is.const rfl); (first | with_reducible assumption | with_reducible exact intWord_is _ | exact Is.const rfl); intro r n hr))
      go_roundw
      case rel => exact ⟨4, 4, by omega, by omega, rfl, ⟨_, rfl, by assumption⟩, _, rfl⟩
      case measure => simp [intOf]
    · obtain rfl : K = 4 := by omega
      clear hK hj
      go_wp2_with (first | (apply wpList_fcmp; rfl; rfl; rfl; rfl; (first | with_reducible assumption | exact Is.const rfl); (first | with_reducible assumption | exact Is.const rfl); (first | with_reducible assumption | exact rfl)) | (apply wpList_farith; rfl; rfl; rfl; rfl; (first | with_reducible assumption | with_reducible exact intWord_is _ | exact Is.const rfl); (first | with_reducible assumption | with_reducible exact intWord_is _ | exact Is.const rfl); intro r n hr))
      go_roundw
      case rel => exact ⟨5, 3, by omega, by omega, rfl, ⟨_, rfl, by assumption⟩, _, rfl⟩
      case measure => simp [intOf]
    · obtain rfl : K = 3 := by omega
      clear hK hj
      go_wp2_with (first | (apply wpList_fcmp; rfl; rfl; rfl; rfl; (first | with_reducible assumption | exact Is.const rfl); (first | with_reducible assumption | exact Is.const rfl); (first | with_reducible assumption | exact rfl)) | (apply wpList_farith; rfl; rfl; rfl; rfl; (first | with_reducible assumption | with_reducible exact intWord_is _ | exact Is.const rfl); (first | with_reducible assumption | with_reducible exact intWord_is _ | exact Is.const rfl); intro r n hr))
      go_roundw
      case rel => exact ⟨6, 2, by omega, by omega, rfl, ⟨_, rfl, by assumption⟩, _, rfl⟩
      case measure => simp [intOf]
    · obtain rfl : K = 2 := by omega
      clear hK hj
      go_wp2_with (first | (apply wpList_fcmp; rfl; rfl; rfl; rfl; (first | with_reducible assumption | exact Is.const rfl); (first | with_reducible assumption | exact Is.const rfl); (first | with_reducible assumption | exact rfl)) | (apply wpList_farith; rfl; rfl; rfl; rfl; (first | with_reducible assumption | with_reducible exact intWord_is _ | exact Is.const rfl); (first | with_reducible assumption | with_reducible exact intWord_is _ | exact Is.const rfl); intro r n hr))
      go_roundw
      case rel => exact ⟨7, 1, by omega, by omega, rfl, ⟨_, rfl, by assumption⟩, _, rfl⟩
      case measure => simp [intOf]
    · obtain rfl : K = 1 := by omega
      clear hK hj
      go_wp2_with (first | (apply wpList_fcmp; rfl; rfl; rfl; rfl; (first | with_reducible assumption | exact Is.const rfl); (first | with_reducible assumption | exact Is.const rfl); (first | with_reducible assumption | exact rfl)) | (apply wpList_farith; rfl; rfl; rfl; rfl; (first | with_reducible assumption | with_reducible exact intWord_is _ | exact Is.const rfl); (first | with_reducible assumption | with_reducible exact intWord_is _ | exact Is.const rfl); intro r n hr))
      go_roundw
      case rel => exact ⟨8, 0, by omega, by omega, rfl, ⟨_, rfl, by assumption⟩, _, rfl⟩
      case measure => simp [intOf]
    · obtain rfl : K = 0 := by omega
      clear hK hj
      go_wp2_with (first | (apply wpList_fcmp; rfl; rfl; rfl; rfl; (first | with_reducible assumption | exact Is.const rfl); (first | with_reducible assumption | exact Is.const rfl); (first | with_reducible assumption | exact rfl)) | (apply wpList_fneg; rfl; rfl; have hg := Is.fneg (by assumption)) | (apply wpList_farith; rfl; rfl; rfl; rfl; (first | with_reducible assumption | exact Is.const rfl); (first | with_reducible assumption | exact Is.const rfl); intro r n hr))
      go_ret
      exact ⟨⟨_, rfl, by rw [EE.out]; assumption⟩, _, rfl⟩

set_option maxHeartbeats 1000000 in
theorem sWide_tff (y Y : Nat) (ix : Is .f64 y Y) (ht : floatToIntVal .f64 Y .i64 = some (tint Y)) (hq : fcmp .neq .f64 (fop .sub .f64 Y Y) 0 = false) (hg : fcmp .geq .f64 Y 4841369599423283200 = false) (hl : fcmp .leq .f64 Y 14064741636278059008 = false)
    (h0 : fcmp .lss .f64 (fop .sub .f64 Y (floatOfInt .f64 (tint Y))) 0 = true) (h1 : fcmp .geq .f64 (fop .add .f64 (fop .sub .f64 Y (floatOfInt .f64 (tint Y))) 4607182418800017408) 4602678819172646912 = false) (h2 : fcmp .gtr .f64 (fop .add .f64 (fop .sub .f64 Y (floatOfInt .f64 (tint Y))) 4607182418800017408) 4598175219545276416 = false) (w : World) :
    Calls Try.prog 114 #[.float .f64 y] w fun e w' => (∃ r, e = .returned (.float .f64 r) ∧ Is .f64 r (sineW Y)) ∧ ∃ n, w' = w.drewN n := by
  have e : sineW Y = (fop .mul .f64 (fop .mul .f64 (fop .add .f64 (fop .sub .f64 Y (floatOfInt .f64 (tint Y))) 4607182418800017408) 4618760256179416344) (ser (fop .mul .f64 (fop .mul .f64 (fop .add .f64 (fop .sub .f64 Y (floatOfInt .f64 (tint Y))) 4607182418800017408) 4618760256179416344) (fop .mul .f64 (fop .add .f64 (fop .sub .f64 Y (floatOfInt .f64 (tint Y))) 4607182418800017408) 4618760256179416344)) 8)) := by
    simp only [sineW, partT, part0, sineF, sineV, sineZ, fold1, fold2, HALF, QUART, TAU, h0, h1, h2, ONE, if_true, Bool.false_eq_true, if_false]
  have EE := Lib.hid e
  have hi := intWord_is (tint Y)
  clear e
  go_enter Try.func114, Try.ntmps114
  go_wp2_with (first | (apply wpList_toInt; rfl; rfl; (first | with_reducible assumption | exact Is.const rfl); exact U64; exact UI; (with_reducible assumption)) | (apply wpList_fcmp; rfl; rfl; rfl; rfl; (first | with_reducible assumption | exact Is.const rfl); (first | with_reducible assumption | exact Is.const rfl); (first | with_reducible assumption | exact rfl)) | (apply wpList_farith; rfl; rfl; rfl; rfl; (first | with_reducible assumption | exact Is.const rfl); (first | with_reducible assumption | exact Is.const rfl); intro r n hr))
  go_loopw [7, 8] (fun p k wr => ∃ (j : Nat) (K : Int), j ≤ 8 ∧ K = 8 - (j : Int) ∧ k = .int .i64 K ∧ (∃ r, p = .float .f64 r ∧ Is .f64 r (ser (fop .mul .f64 (fop .mul .f64 (fop .add .f64 (fop .sub .f64 Y (floatOfInt .f64 (tint Y))) 4607182418800017408) 4618760256179416344) (fop .mul .f64 (fop .add .f64 (fop .sub .f64 Y (floatOfInt .f64 (tint Y))) 4607182418800017408) 4618760256179416344)) j)) ∧ ∃ n, wr = w.drewN n) (fun _ k _ => (intOf k).toNat)
  case atStart => exact ⟨0, 8, by omega, by omega, rfl, ⟨_, rfl, Is.const rfl⟩, _, rfl⟩
  case round =>
    obtain ⟨j, K, hj, hK, rfl, ⟨r, rfl, hr⟩, n, rfl⟩ := hrel
    have hcase : j = 0 ∨ j = 1 ∨ j = 2 ∨ j = 3 ∨ j = 4 ∨ j = 5 ∨ j = 6 ∨ j = 7 ∨ j = 8 := by omega
    rcases hcase with rfl | rfl | rfl | rfl | rfl | rfl | rfl | rfl | rfl
    · obtain rfl : K = 8 := by omega
      clear hK hj
      go_wp2_with (first | (apply wpList_fcmp; rfl; rfl; rfl; rfl; (first | with_reducible assumption | exact Is.const rfl); (first | with_reducible assumption | exact Is.const rfl); (first | with_reducible assumption | exact rfl)) | (apply wpList_farith; rfl; rfl; rfl; rfl; (first | with_reducible assumption | with_reducible exact intWord_is _ | exact Is.const rfl); (first | with_reducible assumption | with_reducible exact intWord_is _ | exact Is.const rfl); intro r n hr))
      go_roundw
      case rel => exact ⟨1, 7, by omega, by omega, rfl, ⟨_, rfl, by assumption⟩, _, rfl⟩
      case measure => simp [intOf]
    · obtain rfl : K = 7 := by omega
      clear hK hj
      go_wp2_with (first | (apply wpList_fcmp; rfl; rfl; rfl; rfl; (first | with_reducible assumption | exact Is.const rfl); (first | with_reducible assumption | exact Is.const rfl); (first | with_reducible assumption | exact rfl)) | (apply wpList_farith; rfl; rfl; rfl; rfl; (first | with_reducible assumption | with_reducible exact intWord_is _ | exact Is.const rfl); (first | with_reducible assumption | with_reducible exact intWord_is _ | exact Is.const rfl); intro r n hr))
      go_roundw
      case rel => exact ⟨2, 6, by omega, by omega, rfl, ⟨_, rfl, by assumption⟩, _, rfl⟩
      case measure => simp [intOf]
    · obtain rfl : K = 6 := by omega
      clear hK hj
      go_wp2_with (first | (apply wpList_fcmp; rfl; rfl; rfl; rfl; (first | with_reducible assumption | exact Is.const rfl); (first | with_reducible assumption | exact Is.const rfl); (first | with_reducible assumption | exact rfl)) | (apply wpList_farith; rfl; rfl; rfl; rfl; (first | with_reducible assumption | with_reducible exact intWord_is _ | exact Is.const rfl); (first | with_reducible assumption | with_reducible exact intWord_is _ | exact Is.const rfl); intro r n hr))
      go_roundw
      case rel => exact ⟨3, 5, by omega, by omega, rfl, ⟨_, rfl, by assumption⟩, _, rfl⟩
      case measure => simp [intOf]
    · obtain rfl : K = 5 := by omega
      clear hK hj
      go_wp2_with (first | (apply wpList_fcmp; rfl; rfl; rfl; rfl; (first | with_reducible assumption | exact Is.const rfl); (first | with_reducible assumption | exact Is.const rfl); (first | with_reducible assumption | exact rfl)) | (apply wpList_farith; rfl; rfl; rfl; rfl; (first | with_reducible assumption | with_reducible exact intWord_is _ | exact Is.const rfl); (first | with_reducible assumption | with_reducible exact intWord_is _ | exact Is.const rfl); intro r n hr))
      go_roundw
      case rel => exact ⟨4, 4, by omega, by omega, rfl, ⟨_, rfl, by assumption⟩, _, rfl⟩
      case measure => simp [intOf]
    · obtain rfl : K = 4 := by omega
      clear hK hj
      go_wp2_with (first | (apply wpList_fcmp; rfl; rfl; rfl; rfl; (first | with_reducible assumption | exact Is.const rfl); (first | with_reducible assumption | exact Is.const rfl); (first | with_reducible assumption | exact rfl)) | (apply wpList_farith; rfl; rfl; rfl; rfl; (first | with_reducible assumption | with_reducible exact intWord_is _ | exact Is.const rfl); (first | with_reducible assumption | with_reducible exact intWord_is _ | exact Is.const rfl); intro r n hr))
      go_roundw
      case rel => exact ⟨5, 3, by omega, by omega, rfl, ⟨_, rfl, by assumption⟩, _, rfl⟩
      case measure => simp [intOf]
    · obtain rfl : K = 3 := by omega
      clear hK hj
      go_wp2_with (first | (apply wpList_fcmp; rfl; rfl; rfl; rfl; (first | with_reducible assumption | exact Is.const rfl); (first | with_reducible assumption | exact Is.const rfl); (first | with_reducible assumption | exact rfl)) | (apply wpList_farith; rfl; rfl; rfl; rfl; (first | with_reducible assumption | with_reducible exact intWord_is _ | exact Is.const rfl); (first | with_reducible assumption | with_reducible exact intWord_is _ | exact Is.const rfl); intro r n hr))
      go_roundw
      case rel => exact ⟨6, 2, by omega, by omega, rfl, ⟨_, rfl, by assumption⟩, _, rfl⟩
      case measure => simp [intOf]
    · obtain rfl : K = 2 := by omega
      clear hK hj
      go_wp2_with (first | (apply wpList_fcmp; rfl; rfl; rfl; rfl; (first | with_reducible assumption | exact Is.const rfl); (first | with_reducible assumption | exact Is.const rfl); (first | with_reducible assumption | exact rfl)) | (apply wpList_farith; rfl; rfl; rfl; rfl; (first | with_reducible assumption | with_reducible exact intWord_is _ | exact Is.const rfl); (first | with_reducible assumption | with_reducible exact intWord_is _ | exact Is.const rfl); intro r n hr))
      go_roundw
      case rel => exact ⟨7, 1, by omega, by omega, rfl, ⟨_, rfl, by assumption⟩, _, rfl⟩
      case measure => simp [intOf]
    · obtain rfl : K = 1 := by omega
      clear hK hj
      go_wp2_with (first | (apply wpList_fcmp; rfl; rfl; rfl; rfl; (first | with_reducible assumption | exact Is.const rfl); (first | with_reducible assumption | exact Is.const rfl); (first | with_reducible assumption | exact rfl)) | (apply wpList_farith; rfl; rfl; rfl; rfl; (first | with_reducible assumption | with_reducible exact intWord_is _ | exact Is.const rfl); (first | with_reducible assumption | with_reducible exact intWord_is _ | exact Is.const rfl); intro r n hr))
      go_roundw
      case rel => exact ⟨8, 0, by omega, by omega, rfl, ⟨_, rfl, by assumption⟩, _, rfl⟩
      case measure => simp [intOf]
    · obtain rfl : K = 0 := by omega
      clear hK hj
      go_wp2_with (first | (apply wpList_fcmp; rfl; rfl; rfl; rfl; (first | with_reducible assumption | exact Is.const rfl); (first | with_reducible assumption | exact Is.const rfl); (first | with_reducible assumption | exact rfl)) | (apply wpList_fneg; rfl; rfl; have hg := Is.fneg (by assumption)) | (apply wpList_farith; rfl; rfl; rfl; rfl; (first | with_reducible assumption | exact Is.const rfl); (first | with_reducible assumption | exact Is.const rfl); intro r n hr))
      go_ret
      exact ⟨⟨_, rfl, by rw [EE.out]; assumption⟩, _, rfl⟩

set_option maxHeartbeats 1000000 in
theorem sWide_ftt (y Y : Nat) (ix : Is .f64 y Y) (ht : floatToIntVal .f64 Y .i64 = some (tint Y)) (hq : fcmp .neq .f64 (fop .sub .f64 Y Y) 0 = false) (hg : fcmp .geq .f64 Y 4841369599423283200 = false) (hl : fcmp .leq .f64 Y 14064741636278059008 = false)
    (h0 : fcmp .lss .f64 (fop .sub .f64 Y (floatOfInt .f64 (tint Y))) 0 = false) (h1 : fcmp .geq .f64 (fop .sub .f64 Y (floatOfInt .f64 (tint Y))) 4602678819172646912 = true) (h2 : fcmp .gtr .f64 (fop .sub .f64 (fop .sub .f64 Y (floatOfInt .f64 (tint Y))) 4602678819172646912) 4598175219545276416 = true) (w : World) :
    Calls Try.prog 114 #[.float .f64 y] w fun e w' => (∃ r, e = .returned (.float .f64 r) ∧ Is .f64 r (sineW Y)) ∧ ∃ n, w' = w.drewN n := by
  have e : sineW Y = fneg .f64 (fop .mul .f64 (fop .mul .f64 (fop .sub .f64 4602678819172646912 (fop .sub .f64 (fop .sub .f64 Y (floatOfInt .f64 (tint Y))) 4602678819172646912)) 4618760256179416344) (ser (fop .mul .f64 (fop .mul .f64 (fop .sub .f64 4602678819172646912 (fop .sub .f64 (fop .sub .f64 Y (floatOfInt .f64 (tint Y))) 4602678819172646912)) 4618760256179416344) (fop .mul .f64 (fop .sub .f64 4602678819172646912 (fop .sub .f64 (fop .sub .f64 Y (floatOfInt .f64 (tint Y))) 4602678819172646912)) 4618760256179416344)) 8)) := by
    simp only [sineW, partT, part0, sineF, sineV, sineZ, fold1, fold2, HALF, QUART, TAU, h0, h1, h2, if_true, Bool.false_eq_true, if_false]
  have EE := Lib.hid e
  have hi := intWord_is (tint Y)
  clear e
  go_enter Try.func114, Try.ntmps114
  go_wp2_with (first | (apply wpList_toInt; rfl; rfl; (first | with_reducible assumption | exact Is.const rfl); exact U64; exact UI; (with_reducible assumption)) | (apply wpList_fcmp; rfl; rfl; rfl; rfl; (first | with_reducible assumption | exact Is.const rfl); (first | with_reducible assumption | exact Is.const rfl); (first | with_reducible assumption | exact rfl)) | (apply wpList_farith; rfl; rfl; rfl; rfl; (first | with_reducible assumption | exact Is.const rfl); (first | with_reducible assumption | exact Is.const rfl); intro r n hr))
  go_loopw [7, 8] (fun p k wr => ∃ (j : Nat) (K : Int), j ≤ 8 ∧ K = 8 - (j : Int) ∧ k = .int .i64 K ∧ (∃ r, p = .float .f64 r ∧ Is .f64 r (ser (fop .mul .f64 (fop .mul .f64 (fop .sub .f64 4602678819172646912 (fop .sub .f64 (fop .sub .f64 Y (floatOfInt .f64 (tint Y))) 4602678819172646912)) 4618760256179416344) (fop .mul .f64 (fop .sub .f64 4602678819172646912 (fop .sub .f64 (fop .sub .f64 Y (floatOfInt .f64 (tint Y))) 4602678819172646912)) 4618760256179416344)) j)) ∧ ∃ n, wr = w.drewN n) (fun _ k _ => (intOf k).toNat)
  case atStart => exact ⟨0, 8, by omega, by omega, rfl, ⟨_, rfl, Is.const rfl⟩, _, rfl⟩
  case round =>
    obtain ⟨j, K, hj, hK, rfl, ⟨r, rfl, hr⟩, n, rfl⟩ := hrel
    have hcase : j = 0 ∨ j = 1 ∨ j = 2 ∨ j = 3 ∨ j = 4 ∨ j = 5 ∨ j = 6 ∨ j = 7 ∨ j = 8 := by omega
    rcases hcase with rfl | rfl | rfl | rfl | rfl | rfl | rfl | rfl | rfl
    · obtain rfl : K = 8 := by omega
      clear hK hj
      go_wp2_with (first | (apply wpList_fcmp; rfl; rfl; rfl; rfl; (first | with_reducible assumption | exact Is.const rfl); (first | with_reducible assumption | exact Is.const rfl); (first | with_reducible assumption | exact rfl)) | (apply wpList_farith; rfl; rfl; rfl; rfl; (first | with_reducible assumption | with_reducible exact intWord_is _ | exact Is.const rfl); (first | with_reducible assumption | with_reducible exact intWord_is _ | exact Is.const rfl); intro r n hr))
      go_roundw
      case rel => exact ⟨1, 7, by omega, by omega, rfl, ⟨_, rfl, by assumption⟩, _, rfl⟩
      case measure => simp [intOf]
    · obtain rfl : K = 7 := by omega
      clear hK hj
      go_wp2_with (first | (apply wpList_fcmp; rfl; rfl; rfl; rfl; (first | with_reducible assumption | exact Is.const rfl); (first | with_reducible assumption | exact Is.const rfl); (first | with_reducible assumption | exact rfl)) | (apply wpList_farith; rfl; rfl; rfl; rfl; (first | with_reducible assumption | with_reducible exact intWord_is _ | exact Is.const rfl); (first | with_reducible assumption | with_reducible exact intWord_is _ | exact Is.const rfl); intro r n hr))
      go_roundw
      case rel => exact ⟨2, 6, by omega, by omega, rfl, ⟨_, rfl, by assumption⟩, _, rfl⟩
      case measure => simp [intOf]
    · obtain rfl : K = 6 := by omega
      clear hK hj
      go_wp2_with (first | (apply wpList_fcmp; rfl; rfl; rfl; rfl; (first | with_reducible assumption | exact Is.const rfl); (first | with_reducible assumption | exact Is.const rfl); (first | with_reducible assumption | exact rfl)) | (apply wpList_farith; rfl; rfl; rfl; rfl; (first | with_reducible assumption | with_reducible exact intWord_is _ | exact Is.const rfl); (first | with_reducible assumption | with_reducible exact intWord_is _ | exact Is.const rfl); intro r n hr))
      go_roundw
      case rel => exact ⟨3, 5, by omega, by omega, rfl, ⟨_, rfl, by assumption⟩, _, rfl⟩
      case measure => simp [intOf]
    · obtain rfl : K = 5 := by omega
      clear hK hj
      go_wp2_with (first | (apply wpList_fcmp; rfl; rfl; rfl; rfl; (first | with_reducible assumption | exact Is.const rfl); (first | with_reducible assumption | exact Is.const rfl); (first | with_reducible assumption | exact rfl)) | (apply wpList_farith; rfl; rfl; rfl; rfl; (first | with_reducible assumption | with_reducible exact intWord_is _ | exact Is.const rfl); (first | with_reducible assumption | with_reducible exact intWord_is _ | exact Is.const rfl); intro r n hr))
      go_roundw
      case rel => exact ⟨4, 4, by omega, by omega, rfl, ⟨_, rfl, by assumption⟩, _, rfl⟩
      case measure => simp [intOf]
    · obtain rfl : K = 4 := by omega
      clear hK hj
      go_wp2_with (first | (apply wpList_fcmp; rfl; rfl; rfl; rfl; (first | with_reducible assumption | exact Is.const rfl); (first | with_reducible assumption | exact Is.const rfl); (first | with_reducible assumption | exact rfl)) | (apply wpList_farith; rfl; rfl; rfl; rfl; (first | with_reducible assumption | with_reducible exact intWord_is _ | exact Is.const rfl); (first | with_reducible assumption | with_reducible exact intWord_is _ | exact Is.const rfl); intro r n hr))
      go_roundw
      case rel => exact ⟨5, 3, by omega, by omega, rfl, ⟨_, rfl, by assumption⟩, _, rfl⟩
      case measure => simp [intOf]
    · obtain rfl : K = 3 := by omega
      clear hK hj
      go_wp2_with (first | (apply wpList_fcmp; rfl; rfl; rfl; rfl; (first | with_reducible assumption | exact Is.const rfl); (first | with_reducible assumption | exact Is.const rfl); (first | with_reducible assumption | exact rfl)) | (apply wpList_farith; rfl; rfl; rfl; rfl; (first | with_reducible assumption | with_reducible exact intWord_is _ | exact Is.const rfl); (first | with_reducible assumption | with_reducible exact intWord_is _ | exact Is.const rfl); intro r n hr))
      go_roundw
      case rel => exact ⟨6, 2, by omega, by omega, rfl, ⟨_, rfl, by assumption⟩, _, rfl⟩
      case measure => simp [intOf]
    · obtain rfl : K = 2 := by omega
      clear hK hj
      go_wp2_with (first | (apply wpList_fcmp; rfl; rfl; rfl; rfl; (first | with_reducible assumption | exact Is.const rfl); (first | with_reducible assumption | exact Is.const rfl); (first | with_reducible assumption | exact rfl)) | (apply wpList_farith; rfl; rfl; rfl; rfl; (first | with_reducible assumption | with_reducible exact intWord_is _ | exact Is.const rfl); (first | with_reducible assumption | with_reducible exact intWord_is _ | exact Is.const rfl); intro r n hr))
      go_roundw
      case rel => exact ⟨7, 1, by omega, by omega, rfl, ⟨_, rfl, by assumption⟩, _, rfl⟩
      case measure => simp [intOf]
    · obtain rfl : K = 1 := by omega
      clear hK hj
      go_wp2_with (first | (apply wpList_fcmp; rfl; rfl; rfl; rfl; (first | with_reducible assumption | exact Is.const rfl); (first | with_reducible assumption | exact Is.const rfl); (first | with_reducible assumption | exact rfl)) | (apply wpList_farith; rfl; rfl; rfl; rfl; (first | with_reducible assumption | with_reducible exact intWord_is _ | exact Is.const rfl); (first | with_reducible assumption | with_reducible exact intWord_is _ | exact Is.const rfl); intro r n hr))
      go_roundw
      case rel => exact ⟨8, 0, by omega, by omega, rfl, ⟨_, rfl, by assumption⟩, _, rfl⟩
      case measure => simp [intOf]
    · obtain rfl : K = 0 := by omega
      clear hK hj
      go_wp2_with (first | (apply wpList_fcmp; rfl; rfl; rfl; rfl; (first | with_reducible assumption | exact Is.const rfl); (first | with_reducible assumption | exact Is.const rfl); (first | with_reducible assumption | exact rfl)) | (apply wpList_fneg; rfl; rfl; have hg := Is.fneg (by assumption)) | (apply wpList_farith; rfl; rfl; rfl; rfl; (first | with_reducible assumption | exact Is.const rfl); (first | with_reducible assumption | exact Is.const rfl); intro r n hr))
      go_ret
      exact ⟨⟨_, rfl, by rw [EE.out]; assumption⟩, _, rfl⟩

set_option maxHeartbeats 1000000 in
theorem sWide_ftf (y Y : Nat) (ix : Is .f64 y Y) (ht : floatToIntVal .f64 Y .i64 = some (tint Y)) (hq : fcmp .neq .f64 (fop .sub .f64 Y Y) 0 = false) (hg : fcmp .geq .f64 Y 4841369599423283200 = false) (hl : fcmp .leq .f64 Y 14064741636278059008 = false)
    (h0 : fcmp .lss .f64 (fop .sub .f64 Y (floatOfInt .f64 (tint Y))) 0 = false) (h1 : fcmp .geq .f64 (fop .sub .f64 Y (floatOfInt .f64 (tint Y))) 4602678819172646912 = true) (h2 : fcmp .gtr .f64 (fop .sub .f64 (fop .sub .f64 Y (floatOfInt .f64 (tint Y))) 4602678819172646912) 4598175219545276416 = false) (w : World) :
    Calls Try.prog 114 #[.float .f64 y] w fun e w' => (∃ r, e = .returned (.float .f64 r) ∧ Is .f64 r (sineW Y)) ∧ ∃ n, w' = w.drewN n := by
  have e : sineW Y = fneg .f64 (fop .mul .f64 (fop .mul .f64 (fop .sub .f64 (fop .sub .f64 Y (floatOfInt .f64 (tint Y))) 4602678819172646912) 4618760256179416344) (ser (fop .mul .f64 (fop .mul .f64 (fop .sub .f64 (fop .sub .f64 Y (floatOfInt .f64 (tint Y))) 4602678819172646912) 4618760256179416344) (fop .mul .f64 (fop .sub .f64 (fop .sub .f64 Y (floatOfInt .f64 (tint Y))) 4602678819172646912) 4618760256179416344)) 8)) := by
    simp only [sineW, partT, part0, sineF, sineV, sineZ, fold1, fold2, HALF, QUART, TAU, h0, h1, h2, if_true, Bool.false_eq_true, if_false]
  have EE := Lib.hid e
  have hi := intWord_is (tint Y)
  clear e
  go_enter Try.func114, Try.ntmps114
  go_wp2_with (first | (apply wpList_toInt; rfl; rfl; (first | with_reducible assumption | exact Is.const rfl); exact U64; exact UI; (with_reducible assumption)) | (apply wpList_fcmp; rfl; rfl; rfl; rfl; (first | with_reducible assumption | exact Is.const rfl); (first | with_reducible assumption | exact Is.const rfl); (first | with_reducible assumption | exact rfl)) | (apply wpList_farith; rfl; rfl; rfl; rfl; (first | with_reducible assumption | exact Is.const rfl); (first | with_reducible assumption | exact Is.const rfl); intro r n hr))
  go_loopw [7, 8] (fun p k wr => ∃ (j : Nat) (K : Int), j ≤ 8 ∧ K = 8 - (j : Int) ∧ k = .int .i64 K ∧ (∃ r, p = .float .f64 r ∧ Is .f64 r (ser (fop .mul .f64 (fop .mul .f64 (fop .sub .f64 (fop .sub .f64 Y (floatOfInt .f64 (tint Y))) 4602678819172646912) 4618760256179416344) (fop .mul .f64 (fop .sub .f64 (fop .sub .f64 Y (floatOfInt .f64 (tint Y))) 4602678819172646912) 4618760256179416344)) j)) ∧ ∃ n, wr = w.drewN n) (fun _ k _ => (intOf k).toNat)
  case atStart => exact ⟨0, 8, by omega, by omega, rfl, ⟨_, rfl, Is.const rfl⟩, _, rfl⟩
  case round =>
    obtain ⟨j, K, hj, hK, rfl, ⟨r, rfl, hr⟩, n, rfl⟩ := hrel
    have hcase : j = 0 ∨ j = 1 ∨ j = 2 ∨ j = 3 ∨ j = 4 ∨ j = 5 ∨ j = 6 ∨ j = 7 ∨ j = 8 := by omega
    rcases hcase with rfl | rfl | rfl | rfl | rfl | rfl | rfl | rfl | rfl
    · obtain rfl : K = 8 := by omega
      clear hK hj
      go_wp2_with (first | (apply wpList_fcmp; rfl; rfl; rfl; rfl; (first | with_reducible assumption | exact Is.const rfl); (first | with_reducible assumption | exact Is.const rfl); (first | with_reducible assumption | exact rfl)) | (apply wpList_farith; rfl; rfl; rfl; rfl; (first | with_reducible assumption | with_reducible exact intWord_is _ | exact Is.const rfl); (first | with_reducible assumption | with_reducible exact intWord_is _ | exact Is.const rfl); intro r n hr))
      go_roundw
      case rel => exact ⟨1, 7, by omega, by omega, rfl, ⟨_, rfl, by assumption⟩, _, rfl⟩
      case measure => simp [intOf]
    · obtain rfl : K = 7 := by omega
      clear hK hj
      go_wp2_with (first | (apply wpList_fcmp; rfl; rfl; rfl; rfl; (first | with_reducible assumption | exact Is.const rfl); (first | with_reducible assumption | exact Is.const rfl); (first | with_reducible assumption | exact rfl)) | (apply wpList_farith; rfl; rfl; rfl; rfl; (first | with_reducible assumption | with_reducible exact intWord_is _ | exact Is.const rfl); (first | with_reducible assumption | with_reducible exact intWord_is _ | exact Is.const rfl); intro r n hr))
      go_roundw
      case rel => exact ⟨2, 6, by omega, by omega, rfl, ⟨_, rfl, by assumption⟩, _, rfl⟩
      case measure => simp [intOf]
    · obtain rfl : K = 6 := by omega
      clear hK hj
      go_wp2_with (first | (apply wpList_fcmp; rfl; rfl; rfl; rfl; (first | with_reducible assumption | exact Is.const rfl); (first | with_reducible assumption | exact Is.const rfl); (first | with_reducible assumption | exact rfl)) | (apply wpList_farith; rfl; rfl; rfl; rfl; (first | with_reducible assumption | with_reducible exact intWord_is _ | exact Is.const rfl); (first | with_reducible assumption | with_reducible exact intWord_is _ | exact Is.const rfl); intro r n hr))
      go_roundw
      case rel => exact ⟨3, 5, by omega, by omega, rfl, ⟨_, rfl, by assumption⟩, _, rfl⟩
      case measure => simp [intOf]
    · obtain rfl : K = 5 := by omega
      clear hK hj
      go_wp2_with (first | (apply wpList_fcmp; rfl; rfl; rfl; rfl; (first | with_reducible assumption | exact Is.const rfl); (first | with_reducible assumption | exact Is.const rfl); (first | with_reducible assumption | exact rfl)) | (apply wpList_farith; rfl; rfl; rfl; rfl; (first | with_reducible assumption | with_reducible exact intWord_is _ | exact Is.const rfl); (first | with_reducible assumption | with_reducible exact intWord_is _ | exact Is.const rfl); intro r n hr))
      go_roundw
      case rel => exact ⟨4, 4, by omega, by omega, rfl, ⟨_, rfl, by assumption⟩, _, rfl⟩
      case measure => simp [intOf]
    · obtain rfl : K = 4 := by omega
      clear hK hj
      go_wp2_with (first | (apply wpList_fcmp; rfl; rfl; rfl; rfl; (first | with_reducible assumption | exact Is.const rfl); (first | with_reducible assumption | exact Is.const rfl); (first | with_reducible assumption | exact rfl)) | (apply wpList_farith; rfl; rfl; rfl; rfl; (first | with_reducible assumption | with_reducible exact intWord_is _ | exact Is.const rfl); (first | with_reducible assumption | with_reducible exact intWord_is _ | exact Is.const rfl); intro r n hr))
      go_roundw
      case rel => exact ⟨5, 3, by omega, by omega, rfl, ⟨_, rfl, by assumption⟩, _, rfl⟩
      case measure => simp [intOf]
    · obtain rfl : K = 3 := by omega
      clear hK hj
      go_wp2_with (first | (apply wpList_fcmp; rfl; rfl; rfl; rfl; (first | with_reducible assumption | exact Is.const rfl); (first | with_reducible assumption | exact Is.const rfl); (first | with_reducible assumption | exact rfl)) | (apply wpList_farith; rfl; rfl; rfl; rfl; (first | with_reducible assumption | with_reducible exact intWord_is _ | exact Is.const rfl); (first | with_reducible assumption | with_reducible exact intWord_is _ | exact Is.const rfl); intro r n hr))
      go_roundw
      case rel => exact ⟨6, 2, by omega, by omega, rfl, ⟨_, rfl, by assumption⟩, _, rfl⟩
      case measure => simp [intOf]
    · obtain rfl : K = 2 := by omega
      clear hK hj
      go_wp2_with (first | (apply wpList_fcmp; rfl; rfl; rfl; rfl; (first | with_reducible assumption | exact Is.const rfl); (first | with_reducible assumption | exact Is.const rfl); (first | with_reducible assumption | exact rfl)) | (apply wpList_farith; rfl; rfl; rfl; rfl; (first | with_reducible assumption | with_reducible exact intWord_is _ | exact Is.const rfl); (first | with_reducible assumption | with_reducible exact intWord_is _ | exact Is.const rfl); intro r n hr))
      go_roundw
      case rel => exact ⟨7, 1, by omega, by omega, rfl, ⟨_, rfl, by assumption⟩, _, rfl⟩
      case measure => simp [intOf]
    · obtain rfl : K = 1 := by omega
      clear hK hj
      go_wp2_with (first | (apply wpList_fcmp; rfl; rfl; rfl; rfl; (first | with_reducible assumption | exact Is.const rfl); (first | with_reducible assumption | exact Is.const rfl); (first | with_reducible assumption | exact rfl)) | (apply wpList_farith; rfl; rfl; rfl; rfl; (first | with_reducible assumption | with_reducible exact intWord_is _ | exact Is.const rfl); (first | with_reducible assumption | with_reducible exact intWord_is _ | exact Is.const rfl); intro r n hr))
      go_roundw
      case rel => exact ⟨8, 0, by omega, by omega, rfl, ⟨_, rfl, by assumption⟩, _, rfl⟩
      case measure => simp [intOf]
    · obtain rfl : K = 0 := by omega
      clear hK hj
      go_wp2_with (first | (apply wpList_fcmp; rfl; rfl; rfl; rfl; (first | with_reducible assumption | exact Is.const rfl); (first | with_reducible assumption | exact Is.const rfl); (first | with_reducible assumption | exact rfl)) | (apply wpList_fneg; rfl; rfl; have hg := Is.fneg (by assumption)) | (apply wpList_farith; rfl; rfl; rfl; rfl; (first | with_reducible assumption | exact Is.const rfl); (first | with_reducible assumption | exact Is.const rfl); intro r n hr))
      go_ret
      exact ⟨⟨_, rfl, by rw [EE.out]; assumption⟩, _, rfl⟩

set_option maxHeartbeats 1000000 in
theorem sWide_fft (y Y : Nat) (ix : Is .f64 y Y) (ht : floatToIntVal .f64 Y .i64 = some (tint Y)) (hq : fcmp .neq .f64 (fop .sub .f64 Y Y) 0 = false) (hg : fcmp .geq .f64 Y 4841369599423283200 = false) (hl : fcmp .leq .f64 Y 14064741636278059008 = false)
    (h0 : fcmp .lss .f64 (fop .sub .f64 Y (floatOfInt .f64 (tint Y))) 0 = false) (h1 : fcmp .geq .f64 (fop .sub .f64 Y (floatOfInt .f64 (tint Y))) 4602678819172646912 = false) (h2 : fcmp .gtr .f64 (fop .sub .f64 Y (floatOfInt .f64 (tint Y))) 4598175219545276416 = true) (w : World) :
    Calls Try.prog 114 #[.float .f64 y] w fun e w' => (∃ r, e = .returned (.float .f64 r) ∧ Is .f64 r (sineW Y)) ∧ ∃ n, w' = w.drewN n := by
  have e : sineW Y = (fop .mul .f64 (fop .mul .f64 (fop .sub .f64 4602678819172646912 (fop .sub .f64 Y (floatOfInt .f64 (tint Y)))) 4618760256179416344) (ser (fop .mul .f64 (fop .mul .f64 (fop .sub .f64 4602678819172646912 (fop .sub .f64 Y (floatOfInt .f64 (tint Y)))) 4618760256179416344) (fop .mul .f64 (fop .sub .f64 4602678819172646912 (fop .sub .f64 Y (floatOfInt .f64 (tint Y)))) 4618760256179416344)) 8)) := by
    simp only [sineW, partT, part0, sineF, sineV, sineZ, fold1, fold2, HALF, QUART, TAU, h0, h1, h2, if_true, Bool.false_eq_true, if_false]
  have EE := Lib.hid e
  have hi := intWord_is (tint Y)
  clear e
  go_enter Try.func114, Try.ntmps114
  go_wp2_with (first | (apply wpList_toInt; rfl; rfl; (first | with_reducible assumption | exact Is.const rfl); exact U64; exact UI; (with_reducible assumption)) | (apply wpList_fcmp; rfl; rfl; rfl; rfl; (first | with_reducible assumption | exact Is.const rfl); (first | with_reducible assumption | exact Is.const rfl); (first | with_reducible assumption | exact rfl)) | (apply wpList_farith; rfl; rfl; rfl; rfl; (first | with_reducible assumption | exact Is.const rfl); (first | with_reducible assumption | exact Is.const rfl); intro r n hr))
  go_loopw [7, 8] (fun p k wr => ∃ (j : Nat) (K : Int), j ≤ 8 ∧ K = 8 - (j : Int) ∧ k = .int .i64 K ∧ (∃ r, p = .float .f64 r ∧ Is .f64 r (ser (fop .mul .f64 (fop .mul .f64 (fop .sub .f64 4602678819172646912 (fop .sub .f64 Y (floatOfInt .f64 (tint Y)))) 4618760256179416344) (fop .mul .f64 (fop .sub .f64 4602678819172646912 (fop .sub .f64 Y (floatOfInt .f64 (tint Y)))) 4618760256179416344)) j)) ∧ ∃ n, wr = w.drewN n) (fun _ k _ => (intOf k).toNat)
  case atStart => exact ⟨0, 8, by omega, by omega, rfl, ⟨_, rfl, Is.const rfl⟩, _, rfl⟩
  case round =>
    obtain ⟨j, K, hj, hK, rfl, ⟨r, rfl, hr⟩, n, rfl⟩ := hrel
    have hcase : j = 0 ∨ j = 1 ∨ j = 2 ∨ j = 3 ∨ j = 4 ∨ j = 5 ∨ j = 6 ∨ j = 7 ∨ j = 8 := by omega
    rcases hcase with rfl | rfl | rfl | rfl | rfl | rfl | rfl | rfl | rfl
    · obtain rfl : K = 8 := by omega
      clear hK hj
      go_wp2_with (first | (apply wpList_fcmp; rfl; rfl; rfl; rfl; (first | with_reducible assumption | exact Is.const rfl); (first | with_reducible assumption | exact Is.const rfl); (first | with_reducible assumption | exact rfl)) | (apply wpList_farith; rfl; rfl; rfl; rfl; (first | with_reducible assumption | with_reducible exact intWord_is _ | exact Is.const rfl); (first | with_reducible assumption | with_reducible exact intWord_is _ | exact Is.const rfl); intro r n hr))
      go_roundw
      case rel => exact ⟨1, 7, by omega, by omega, rfl, ⟨_, rfl, by assumption⟩, _, rfl⟩
      case measure => simp [intOf]
    · obtain rfl : K = 7 := by omega
      clear hK hj
      go_wp2_with (first | (apply wpList_fcmp; rfl; rfl; rfl; rfl; (first | with_reducible assumption | exact Is.const rfl); (first | with_reducible assumption | exact Is.const rfl); (first | with_reducible assumption | exact rfl)) | (apply wpList_farith; rfl; rfl; rfl; rfl; (first | with_reducible assumption | with_reducible exact intWord_is _ | exact Is.const rfl); (first | with_reducible assumption | with_reducible exact intWord_is _ | exact Is.const rfl); intro r n hr))
      go_roundw
      case rel => exact ⟨2, 6, by omega, by omega, rfl, ⟨_, rfl, by assumption⟩, _, rfl⟩
      case measure => simp [intOf]
    · obtain rfl : K = 6 := by omega
      clear hK hj
      go_wp2_with (first | (apply wpList_fcmp; rfl; rfl; rfl; rfl; (first | with_reducible assumption | exact Is.const rfl); (first | with_reducible assumption | exact Is.const rfl); (first | with_reducible assumption | exact rfl)) | (apply wpList_farith; rfl; rfl; rfl; rfl; (first | with_reducible assumption | with_reducible exact intWord_is _ | exact Is.const rfl); (first | with_reducible assumption | with_reducible exact intWord_is _ | exact Is.const rfl); intro r n hr))
      go_roundw
      case rel => exact ⟨3, 5, by omega, by omega, rfl, ⟨_, rfl, by assumption⟩, _, rfl⟩
      case measure => simp [intOf]
    · obtain rfl : K = 5 := by omega
      clear hK hj
      go_wp2_with (first | (apply wpList_fcmp; rfl; rfl; rfl; rfl; (first | with_reducible assumption | exact Is.const rfl); (first | with_reducible assumption | exact Is.const rfl); (first | with_reducible assumption | exact rfl)) | (apply wpList_farith; rfl; rfl; rfl; rfl; (first | with_reducible assumption | with_reducible exact intWord_is _ | exact Is.const rfl); (first | with_reducible assumption | with_reducible exact intWord_is _ | exact Is.const rfl); intro r n hr))
      go_roundw
      case rel => exact ⟨4, 4, by omega, by omega, rfl, ⟨_, rfl, by assumption⟩, _, rfl⟩
      case measure => simp [intOf]
    · obtain rfl : K = 4 := by omega
      clear hK hj
      go_wp2_with (first | (apply wpList_fcmp; rfl; rfl; rfl; rfl; (first | with_reducible assumption | exact Is.const rfl); (first | with_reducible assumption | exact Is.const rfl); (first | with_reducible assumption | exact rfl)) | (apply wpList_farith; rfl; rfl; rfl; rfl; (first | with_reducible assumption | with_reducible exact intWord_is _ | exact Is.const rfl); (first | with_reducible assumption | with_reducible exact intWord_is _ | exact Is.const rfl); intro r n hr))
      go_roundw
      case rel => exact ⟨5, 3, by omega, by omega, rfl, ⟨_, rfl, by assumption⟩, _, rfl⟩
      case measure => simp [intOf]
    · obtain rfl : K = 3 := by omega
      clear hK hj
      go_wp2_with (first | (apply wpList_fcmp; rfl; rfl; rfl; rfl; (first | with_reducible assumption | exact Is.const rfl); (first | with_reducible assumption | exact Is.const rfl); (first | with_reducible assumption | exact rfl)) | (apply wpList_farith; rfl; rfl; rfl; rfl; (first | with_reducible assumption | with_reducible exact intWord_is _ | exact Is.const rfl); (first | with_reducible assumption | with_reducible exact intWord_is _ | exact Is.const rfl); intro r n hr))
      go_roundw
      case rel => exact ⟨6, 2, by omega, by omega, rfl, ⟨_, rfl, by assumption⟩, _, rfl⟩
      case measure => simp [intOf]
    · obtain rfl : K = 2 := by omega
      clear hK hj
      go_wp2_with (first | (apply wpList_fcmp; rfl; rfl; rfl; rfl; (first | with_reducible assumption | exact Is.const rfl); (first | with_reducible assumption | exact Is.const rfl); (first | with_reducible assumption | exact rfl)) | (apply wpList_farith; rfl; rfl; rfl; rfl; (first | with_reducible assumption | with_reducible exact intWord_is _ | exact Is.const rfl); (first | with_reducible assumption | with_reducible exact intWord_is _ | exact Is.const rfl); intro r n hr))
      go_roundw
      case rel => exact ⟨7, 1, by omega, by omega, rfl, ⟨_, rfl, by assumption⟩, _, rfl⟩
      case measure => simp [intOf]
    · obtain rfl : K = 1 := by omega
      clear hK hj
      go_wp2_with (first | (apply wpList_fcmp; rfl; rfl; rfl; rfl; (first | with_reducible assumption | exact Is.const rfl); (first | with_reducible assumption | exact Is.const rfl); (first | with_reducible assumption | exact rfl)) | (apply wpList_farith; rfl; rfl; rfl; rfl; (first | with_reducible assumption | with_reducible exact intWord_is _ | exact Is.const rfl); (first | with_reducible assumption | with_reducible exact intWord_is _ | exact Is.const rfl); intro r n hr))
      go_roundw
      case rel => exact ⟨8, 0, by omega, by omega, rfl, ⟨_, rfl, by assumption⟩, _, rfl⟩
      case measure => simp [intOf]
    · obtain rfl : K = 0 := by omega
      clear hK hj
      go_wp2_with (first | (apply wpList_fcmp; rfl; rfl; rfl; rfl; (first | with_reducible assumption | exact Is.const rfl); (first | with_reducible assumption | exact Is.const rfl); (first | with_reducible assumption | exact rfl)) | (apply wpList_fneg; rfl; rfl; have hg := Is.fneg (by assumption)) | (apply wpList_farith; rfl; rfl; rfl; rfl; (first | with_reducible assumption | exact Is.const rfl); (first | with_reducible assumption | exact Is.const rfl); intro r n hr))
      go_ret
      exact ⟨⟨_, rfl, by rw [EE.out]; assumption⟩, _, rfl⟩

set_option maxHeartbeats 1000000 in
theorem sWide_fff (y Y : Nat) (ix : Is .f64 y Y) (ht : floatToIntVal .f64 Y .i64 = some (tint Y)) (hq : fcmp .neq .f64 (fop .sub .f64 Y Y) 0 = false) (hg : fcmp .geq .f64 Y 4841369599423283200 = false) (hl : fcmp .leq .f64 Y 14064741636278059008 = false)
    (h0 : fcmp .lss .f64 (fop .sub .f64 Y (floatOfInt .f64 (tint Y))) 0 = false) (h1 : fcmp .geq .f64 (fop .sub .f64 Y (floatOfInt .f64 (tint Y))) 4602678819172646912 = false) (h2 : fcmp .gtr .f64 (fop .sub .f64 Y (floatOfInt .f64 (tint Y))) 4598175219545276416 = false) (w : World) :
    Calls Try.prog 114 #[.float .f64 y] w fun e w' => (∃ r, e = .returned (.float .f64 r) ∧ Is .f64 r (sineW Y)) ∧ ∃ n, w' = w.drewN n := by
  have e : sineW Y = (fop .mul .f64 (fop .mul .f64 (fop .sub .f64 Y (floatOfInt .f64 (tint Y))) 4618760256179416344) (ser (fop .mul .f64 (fop .mul .f64 (fop .sub .f64 Y (floatOfInt .f64 (tint Y))) 4618760256179416344) (fop .mul .f64 (fop .sub .f64 Y (floatOfInt .f64 (tint Y))) 4618760256179416344)) 8)) := by
    simp only [sineW, partT, part0, sineF, sineV, sineZ, fold1, fold2, HALF, QUART, TAU, h0, h1, h2, Bool.false_eq_true, if_false]
  have EE := Lib.hid e
  have hi := intWord_is (tint Y)
  clear e
  go_enter Try.func114, Try.ntmps114
  go_wp2_with (first | (apply wpList_toInt; rfl; rfl; (first | with_reducible assumption | exact Is.const rfl); exact U64; exact UI; (with_reducible assumption)) | (apply wpList_fcmp; rfl; rfl; rfl; rfl; (first | with_reducible assumption | exact Is.const rfl); (first | with_reducible assumption | exact Is.const rfl); (first | with_reducible assumption | exact rfl)) | (apply wpList_farith; rfl; rfl; rfl; rfl; (first | with_reducible assumption | exact Is.const rfl); (first | with_reducible assumption | exact Is.const rfl); intro r n hr))
  go_loopw [7, 8] (fun p k wr => ∃ (j : Nat) (K : Int), j ≤ 8 ∧ K = 8 - (j : Int) ∧ k = .int .i64 K ∧ (∃ r, p = .float .f64 r ∧ Is .f64 r (ser (fop .mul .f64 (fop .mul .f64 (fop .sub .f64 Y (floatOfInt .f64 (tint Y))) 4618760256179416344) (fop .mul .f64 (fop .sub .f64 Y (floatOfInt .f64 (tint Y))) 4618760256179416344)) j)) ∧ ∃ n, wr = w.drewN n) (fun _ k _ => (intOf k).toNat)
  case atStart => exact ⟨0, 8, by omega, by omega, rfl, ⟨_, rfl, Is.const rfl⟩, _, rfl⟩
  case round =>
    obtain ⟨j, K, hj, hK, rfl, ⟨r, rfl, hr⟩, n, rfl⟩ := hrel
    have hcase : j = 0 ∨ j = 1 ∨ j = 2 ∨ j = 3 ∨ j = 4 ∨ j = 5 ∨ j = 6 ∨ j = 7 ∨ j = 8 := by omega
    rcases hcase with rfl | rfl | rfl | rfl | rfl | rfl | rfl | rfl | rfl
    · obtain rfl : K = 8 := by omega
      clear hK hj
      go_wp2_with (first | (apply wpList_fcmp; rfl; rfl; rfl; rfl; (first | with_reducible assumption | exact Is.const rfl); (first | with_reducible assumption | exact Is.const rfl); (first | with_reducible assumption | exact rfl)) | (apply wpList_farith; rfl; rfl; rfl; rfl; (first | with_reducible assumption | with_reducible exact intWord_is _ | exact Is.const rfl); (first | with_reducible assumption | with_reducible exact intWord_is _ | exact Is.const rfl); intro r n hr))
      go_roundw
      case rel => exact ⟨1, 7, by omega, by omega, rfl, ⟨_, rfl, by assumption⟩, _, rfl⟩
      case measure => simp [intOf]
    · obtain rfl : K = 7 := by omega
      clear hK hj
      go_wp2_with (first | (apply wpList_fcmp; rfl; rfl; rfl; rfl; (first | with_reducible assumption | exact Is.const rfl); (first | with_reducible assumption | exact Is.const rfl); (first | with_reducible assumption | exact rfl)) | (apply wpList_farith; rfl; rfl; rfl; rfl; (first | with_reducible assumption | with_reducible exact intWord_is _ | exact Is.const rfl); (first | with_reducible assumption | with_reducible exact intWord_is _ | exact Is.const rfl); intro r n hr))
      go_roundw
      case rel => exact ⟨2, 6, by omega, by omega, rfl, ⟨_, rfl, by assumption⟩, _, rfl⟩
      case measure => simp [intOf]
    · obtain rfl : K = 6 := by omega
      clear hK hj
      go_wp2_with (first | (apply wpList_fcmp; rfl; rfl; rfl; rfl; (first | with_reducible assumption | exact Is.const rfl); (first | with_reducible assumption | exact Is.const rfl); (first | with_reducible assumption | exact rfl)) | (apply wpList_farith; rfl; rfl; rfl; rfl; (first | with_reducible assumption | with_reducible exact intWord_is _ | exact Is.const rfl); (first | with_reducible assumption | with_reducible exact intWord_is _ | exact Is.const rfl); intro r n hr))
      go_roundw
      case rel => exact ⟨3, 5, by omega, by omega, rfl, ⟨_, rfl, by assumption⟩, _, rfl⟩
      case measure => simp [intOf]
    · obtain rfl : K = 5 := by omega
      clear hK hj
      go_wp2_with (first | (apply wpList_fcmp; rfl; rfl; rfl; rfl; (first | with_reducible assumption | exact Is.const rfl); (first | with_reducible assumption | exact Is.const rfl); (first | with_reducible assumption | exact rfl)) | (apply wpList_farith; rfl; rfl; rfl; rfl; (first | with_reducible assumption | with_reducible exact intWord_is _ | exact Is.const rfl); (first | with_reducible assumption | with_reducible exact intWord_is _ | exact Is.const rfl); intro r n hr))
      go_roundw
      case rel => exact ⟨4, 4, by omega, by omega, rfl, ⟨_, rfl, by assumption⟩, _, rfl⟩
      case measure => simp [intOf]
    · obtain rfl : K = 4 := by omega
      clear hK hj
      go_wp2_with (first | (apply wpList_fcmp; rfl; rfl; rfl; rfl; (first | with_reducible assumption | exact Is.const rfl); (first | with_reducible assumption | exact Is.const rfl); (first | with_reducible assumption | exact rfl)) | (apply wpList_farith; rfl; rfl; rfl; rfl; (first | with_reducible assumption | with_reducible exact intWord_is _ | exact Is.const rfl); (first | with_reducible assumption | with_reducible exact intWord_is _ | exact Is.const rfl); intro r n hr))
      go_roundw
      case rel => exact ⟨5, 3, by omega, by omega, rfl, ⟨_, rfl, by assumption⟩, _, rfl⟩
      case measure => simp [intOf]
    · obtain rfl : K = 3 := by omega
      clear hK hj
      go_wp2_with (first | (apply wpList_fcmp; rfl; rfl; rfl; rfl; (first | with_reducible assumption | exact Is.const rfl); (first | with_reducible assumption | exact Is.const rfl); (first | with_reducible assumption | exact rfl)) | (apply wpList_farith; rfl; rfl; rfl; rfl; (first | with_reducible assumption | with_reducible exact intWord_is _ | exact Is.const rfl); (first | with_reducible assumption | with_reducible exact intWord_is _ | exact Is.const rfl); intro r n hr))
      go_roundw
      case rel => exact ⟨6, 2, by omega, by omega, rfl, ⟨_, rfl, by assumption⟩, _, rfl⟩
      case measure => simp [intOf]
    · obtain rfl : K = 2 := by omega
      clear hK hj
      go_wp2_with (first | (apply wpList_fcmp; rfl; rfl; rfl; rfl; (first | with_reducible assumption | exact Is.const rfl); (first | with_reducible assumption | exact Is.const rfl); (first | with_reducible assumption | exact rfl)) | (apply wpList_farith; rfl; rfl; rfl; rfl; (first | with_reducible assumption | with_reducible exact intWord_is _ | exact Is.const rfl); (first | with_reducible assumption | with_reducible exact intWord_is _ | exact Is.const rfl); intro r n hr))
      go_roundw
      case rel => exact ⟨7, 1, by omega, by omega, rfl, ⟨_, rfl, by assumption⟩, _, rfl⟩
      case measure => simp [intOf]
    · obtain rfl : K = 1 := by omega
      clear hK hj
      go_wp2_with (first | (apply wpList_fcmp; rfl; rfl; rfl; rfl; (first | with_reducible assumption | exact Is.const rfl); (first | with_reducible assumption | exact Is.const rfl); (first | with_reducible assumption | exact rfl)) | (apply wpList_farith; rfl; rfl; rfl; rfl; (first | with_reducible assumption | with_reducible exact intWord_is _ | exact Is.const rfl); (first | with_reducible assumption | with_reducible exact intWord_is _ | exact Is.const rfl); intro r n hr))
      go_roundw
      case rel => exact ⟨8, 0, by omega, by omega, rfl, ⟨_, rfl, by assumption⟩, _, rfl⟩
      case measure => simp [intOf]
    · obtain rfl : K = 0 := by omega
      clear hK hj
      go_wp2_with (first | (apply wpList_fcmp; rfl; rfl; rfl; rfl; (first | with_reducible assumption | exact Is.const rfl); (first | with_reducible assumption | exact Is.const rfl); (first | with_reducible assumption | exact rfl)) | (apply wpList_fneg; rfl; rfl; have hg := Is.fneg (by assumption)) | (apply wpList_farith; rfl; rfl; rfl; rfl; (first | with_reducible assumption | exact Is.const rfl); (first | with_reducible assumption | exact Is.const rfl); intro r n hr))
      go_ret
      exact ⟨⟨_, rfl, by rw [EE.out]; assumption⟩, _, rfl⟩

theorem sWide_short (y Y : Nat) (ix : Is .f64 y Y) (hf : fin .f64 Y = true) (hlong : longB Y = false) (w : World) :
    Calls Try.prog 114 #[.float .f64 y] w fun e w' => (∃ r, e = .returned (.float .f64 r) ∧ Is .f64 r (sineW Y)) ∧ ∃ n, w' = w.drewN n := by
  have ht := (short_of hf hlong).toInt
  have hq : fcmp .neq .f64 (fop .sub .f64 Y Y) 0 = false := by rw [fcmp_neq_not, sub_self, hf]; rfl
  have h2 := long_two hf
  rw [hlong, Bool.or_eq_false_iff] at h2
  obtain ⟨hg, hl⟩ := h2
  by_cases h0 : fcmp .lss .f64 (fop .sub .f64 Y (floatOfInt .f64 (tint Y))) 0 = true
  · by_cases h1 : fcmp .geq .f64 (fop .add .f64 (fop .sub .f64 Y (floatOfInt .f64 (tint Y))) 4607182418800017408) 4602678819172646912 = true
    · by_cases h2 : fcmp .gtr .f64 (fop .sub .f64 (fop .add .f64 (fop .sub .f64 Y (floatOfInt .f64 (tint Y))) 4607182418800017408) 4602678819172646912) 4598175219545276416 = true
      · exact sWide_ttt y Y ix ht hq hg hl h0 h1 h2 w
      · exact sWide_ttf y Y ix ht hq hg hl h0 h1 (by simpa using h2) w
    · by_cases h2 : fcmp .gtr .f64 (fop .add .f64 (fop .sub .f64 Y (floatOfInt .f64 (tint Y))) 4607182418800017408) 4598175219545276416 = true
      · exact sWide_tft y Y ix ht hq hg hl h0 (by simpa using h1) h2 w
      · exact sWide_tff y Y ix ht hq hg hl h0 (by simpa using h1) (by simpa using h2) w
  · by_cases h1 : fcmp .geq .f64 (fop .sub .f64 Y (floatOfInt .f64 (tint Y))) 4602678819172646912 = true
    · by_cases h2 : fcmp .gtr .f64 (fop .sub .f64 (fop .sub .f64 Y (floatOfInt .f64 (tint Y))) 4602678819172646912) 4598175219545276416 = true
      · exact sWide_ftt y Y ix ht hq hg hl (by simpa using h0) h1 h2 w
      · exact sWide_ftf y Y ix ht hq hg hl (by simpa using h0) h1 (by simpa using h2) w
    · by_cases h2 : fcmp .gtr .f64 (fop .sub .f64 Y (floatOfInt .f64 (tint Y))) 4598175219545276416 = true
      · exact sWide_fft y Y ix ht hq hg hl (by simpa using h0) (by simpa using h1) h2 w
      · exact sWide_fff y Y ix ht hq hg hl (by simpa using h0) (by simpa using h1) (by simpa using h2) w

theorem nan_any (w : World) : Calls Try.prog 110 #[] w fun e w' => e = .returned (.float .f64 9221120237041090561) ∧ w = w' := by
  go_enter Try.func110, Try.ntmps110
  go_wp2
  go_ret
  exact ⟨rfl, rfl⟩

theorem sWide_nan (y Y : Nat) (ix : Is .f64 y Y) (hf : fin .f64 Y = false) (w : World) :
    Calls Try.prog 114 #[.float .f64 y] w fun e w' => (∃ r, e = .returned (.float .f64 r) ∧ Is .f64 r (qn .f64)) ∧ ∃ n, w' = w.drewN n := by
  have hq : fcmp .neq .f64 (fop .sub .f64 Y Y) 0 = true := by rw [fcmp_neq_not, sub_self, hf]; rfl
  clear hf
  go_enter Try.func114, Try.ntmps114
  go_wp2_with (first | (apply wpList_fcmp; rfl; rfl; rfl; rfl; (first | with_reducible assumption | exact Is.const rfl); (first | with_reducible assumption | exact Is.const rfl); (first | with_reducible assumption | exact rfl)) | (apply wpList_farith; rfl; rfl; rfl; rfl; (first | with_reducible assumption | exact Is.const rfl); (first | with_reducible assumption | exact Is.const rfl); intro r n hr) | (go_at_call 110; refine (nan_any _).mono ?_; rintro e w' ⟨rfl, rfl⟩))
  go_ret
  exact ⟨⟨_, rfl, nan_is⟩, _, rfl⟩

theorem sWide_long (y Y : Nat) (ix : Is .f64 y Y) (hf : fin .f64 Y = true) (hlong : longB Y = true) (w : World) :
    Calls Try.prog 114 #[.float .f64 y] w fun e w' => (∃ r, e = .returned (.float .f64 r) ∧ Is .f64 r 0) ∧ ∃ n, w' = w.drewN n := by
  have hq : fcmp .neq .f64 (fop .sub .f64 Y Y) 0 = false := by rw [fcmp_neq_not, sub_self, hf]; rfl
  have h2 := long_two hf
  rw [hlong] at h2
  by_cases hg : fcmp .geq .f64 Y 4841369599423283200 = true
  · clear h2 hf
    go_enter Try.func114, Try.ntmps114
    go_wp2_with (first | (apply wpList_fcmp; rfl; rfl; rfl; rfl; (first | with_reducible assumption | exact Is.const rfl); (first | with_reducible assumption | exact Is.const rfl); (first | with_reducible assumption | exact rfl)) | (apply wpList_farith; rfl; rfl; rfl; rfl; (first | with_reducible assumption | exact Is.const rfl); (first | with_reducible assumption | exact Is.const rfl); intro r n hr))
    go_ret
    exact ⟨⟨_, rfl, Is.const rfl⟩, _, rfl⟩
  · have hg' : fcmp .geq .f64 Y 4841369599423283200 = false := by simpa using hg
    rw [hg', Bool.false_or] at h2
    clear hf hg
    go_enter Try.func114, Try.ntmps114
    go_wp2_with (first | (apply wpList_fcmp; rfl; rfl; rfl; rfl; (first | with_reducible assumption | exact Is.const rfl); (first | with_reducible assumption | exact Is.const rfl); (first | with_reducible assumption | exact rfl)) | (apply wpList_farith; rfl; rfl; rfl; rfl; (first | with_reducible assumption | exact Is.const rfl); (first | with_reducible assumption | exact Is.const rfl); intro r n hr))
    go_ret
    exact ⟨⟨_, rfl, Is.const rfl⟩, _, rfl⟩

theorem iLong_any (x Y : Nat) (ix : Is .f64 x Y) (w : World) : Calls Try.prog 117 #[.float .f64 x] w fun e w' => e = .returned (.bool (longB Y)) ∧ w = w' := by
  have ia := ix.abs
  have hl : x < 18446744073709551616 := by have := ix.lt; rwa [w64] at this
  unfold longB
  go_enter Try.func117, Try.ntmps117
  go_wp2_with (first | (apply wpList_fcmp; rfl; rfl; rfl; rfl; (first | with_reducible assumption | exact Is.const rfl); (first | with_reducible assumption | exact Is.const rfl); (first | with_reducible assumption | exact rfl)) | (go_at_call 111; refine (abs_any _ hl _).mono ?_; rintro e w' ⟨rfl, rfl⟩))
  go_ret
  exact ⟨rfl, rfl⟩

theorem iWide_any (x X : Nat) (ix : Is .f64 x X) (w : World) : Calls Try.prog 116 #[.float .f64 x] w fun e w' => e = .returned (.bool (fin .f64 X)) ∧ w = w' := by
  rw [← finWide]
  by_cases hc : fcmp .gtr .f64 (fabs X) 9218868437227405311 = true
  · rw [hc]
    go_enter Try.func116, Try.ntmps116
    go_wp2_with (first | (go_at_call 131; refine (isInf_any _ _ ix _).mono ?_; rintro e w' ⟨rfl, rfl⟩) | (go_at_call 132; refine (isNaN_any _ _ ix _).mono ?_; rintro e w' ⟨rfl, rfl⟩))
    go_ret
    exact ⟨rfl, rfl⟩
  · have hc' : fcmp .gtr .f64 (fabs X) 9218868437227405311 = false := by simpa using hc
    clear hc
    rw [hc']
    go_enter Try.func116, Try.ntmps116
    go_wp2_with (first | (go_at_call 131; refine (isInf_any _ _ ix _).mono ?_; rintro e w' ⟨rfl, rfl⟩) | (go_at_call 132; refine (isNaN_any _ _ ix _).mono ?_; rintro e w' ⟨rfl, rfl⟩))
    go_ret
    exact ⟨by simp, rfl⟩


end Go.Proofs.Ytpnmledanloboaa
