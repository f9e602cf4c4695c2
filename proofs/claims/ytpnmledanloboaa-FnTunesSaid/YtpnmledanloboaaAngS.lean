/-
  Angles: the model's side.
-/
import Derived.Test.YtpnmledanloboaaAngC
namespace Go.Proofs.Ytpnmledanloboaa
open Go.Fl Go.RowKit

theorem sAngNaN_y (y Y x : Nat) (iy : Is .f64 y Y) (hy : fin .f64 Y = false) (w : World) :
    Calls Try.prog 107 #[.float .f64 y, .float .f64 x] w fun e w' => (∃ r, e = .returned (.float .f64 r) ∧ Is .f64 r (qn .f64)) ∧ ∃ n, w' = w.drewN n := by
  have hqy : fcmp .neq .f64 (fop .sub .f64 Y Y) 0 = true := by rw [fcmp_neq_not, sub_self, hy]; rfl
  clear hy
  go_enter Try.func107, Try.ntmps107
  go_wp2_with (first | (apply wpList_fcmp; rfl; rfl; rfl; rfl; (first | with_reducible assumption | exact Is.const rfl); (first | with_reducible assumption | exact Is.const rfl); (first | with_reducible assumption | exact rfl)) | (apply wpList_farith; rfl; rfl; rfl; rfl; (first | with_reducible assumption | exact Is.const rfl); (first | with_reducible assumption | exact Is.const rfl); intro r n hr) | (go_at_call 110; refine (nan2_any _).mono ?_; rintro e w' ⟨rfl, rfl⟩))
  go_ret
  exact ⟨⟨_, rfl, nan_is⟩, _, rfl⟩

theorem sAngNaN_x (y Y x X : Nat) (iy : Is .f64 y Y) (ix : Is .f64 x X) (hy : fin .f64 Y = true) (hx : fin .f64 X = false) (w : World) :
    Calls Try.prog 107 #[.float .f64 y, .float .f64 x] w fun e w' => (∃ r, e = .returned (.float .f64 r) ∧ Is .f64 r (qn .f64)) ∧ ∃ n, w' = w.drewN n := by
  have hqy : fcmp .neq .f64 (fop .sub .f64 Y Y) 0 = false := by rw [fcmp_neq_not, sub_self, hy]; rfl
  have hqx : fcmp .neq .f64 (fop .sub .f64 X X) 0 = true := by rw [fcmp_neq_not, sub_self, hx]; rfl
  clear hx hy
  go_enter Try.func107, Try.ntmps107
  go_wp2_with (first | (apply wpList_fcmp; rfl; rfl; rfl; rfl; (first | with_reducible assumption | exact Is.const rfl); (first | with_reducible assumption | exact Is.const rfl); (first | with_reducible assumption | exact rfl)) | (apply wpList_farith; rfl; rfl; rfl; rfl; (first | with_reducible assumption | exact Is.const rfl); (first | with_reducible assumption | exact Is.const rfl); intro r n hr) | (go_at_call 110; refine (nan2_any _).mono ?_; rintro e w' ⟨rfl, rfl⟩))
  go_ret
  exact ⟨⟨_, rfl, nan_is⟩, _, rfl⟩

theorem sAngZero (y Y x X : Nat) (iy : Is .f64 y Y) (ix : Is .f64 x X) (hy : fin .f64 Y = true) (hx : fin .f64 X = true) (zx : fcmp .eql .f64 X 0 = true) (zy : fcmp .eql .f64 Y 0 = true) (w : World) :
    Calls Try.prog 107 #[.float .f64 y, .float .f64 x] w fun e w' => (∃ r, e = .returned (.float .f64 r) ∧ Is .f64 r 0) ∧ ∃ n, w' = w.drewN n := by
  have hqy : fcmp .neq .f64 (fop .sub .f64 Y Y) 0 = false := by rw [fcmp_neq_not, sub_self, hy]; rfl
  have hqx : fcmp .neq .f64 (fop .sub .f64 X X) 0 = false := by rw [fcmp_neq_not, sub_self, hx]; rfl
  clear hx hy
  go_enter Try.func107, Try.ntmps107
  go_wp2_with (first | (apply wpList_fcmp; rfl; rfl; rfl; rfl; (first | with_reducible assumption | exact Is.const rfl); (first | with_reducible assumption | exact Is.const rfl); (first | with_reducible assumption | exact rfl)) | (apply wpList_farith; rfl; rfl; rfl; rfl; (first | with_reducible assumption | exact Is.const rfl); (first | with_reducible assumption | exact Is.const rfl); intro r n hr))
  go_ret
  exact ⟨⟨_, rfl, Is.const rfl⟩, _, rfl⟩

set_option maxHeartbeats 2000000 in
theorem sAng_ft (y Y x X : Nat) (iy : Is .f64 y Y) (ix : Is .f64 x X) (hy : fin .f64 Y = true) (hx : fin .f64 X = true) (zx : fcmp .eql .f64 X 0 = false) (hg : fcmp .gtr .f64 (fabs Y) (fabs X) = true) (w : World) :
    Calls Try.prog 107 #[.float .f64 y, .float .f64 x] w fun e w' => (∃ r, e = .returned (.float .f64 r) ∧ Is .f64 r (angW Y X)) ∧ ∃ n, w' = w.drewN n := by
  have e : steep (fabs Y) (fabs X) = (fop .sub .f64 4598175219545276416 (fop .quo .f64 (fop .mul .f64 4620693217682128896 (fop .mul .f64 (rtN (fop .quo .f64 (fabs X) (fabs Y)) 3) (serA (fop .mul .f64 (rtN (fop .quo .f64 (fabs X) (fabs Y)) 3) (rtN (fop .quo .f64 (fabs X) (fabs Y)) 3)) 8))) 4618760256179416344)) := by unfold steep; rw [if_pos hg]; rfl
  have EE := Lib.hid e
  clear e
  have hqy : fcmp .neq .f64 (fop .sub .f64 Y Y) 0 = false := by rw [fcmp_neq_not, sub_self, hy]; rfl
  have hqx : fcmp .neq .f64 (fop .sub .f64 X X) 0 = false := by rw [fcmp_neq_not, sub_self, hx]; rfl
  clear hx hy
  have ha := iy.abs
  have hb := ix.abs
  go_enter Try.func107, Try.ntmps107
  go_wp2_with (first | (apply wpList_fcmp; rfl; rfl; rfl; rfl; (first | with_reducible assumption | exact Is.const rfl); (first | with_reducible assumption | exact Is.const rfl); (first | with_reducible assumption | exact rfl)) | (apply wpList_same; rfl; rfl; exact U64; exact U64) | (apply wpList_farith; rfl; rfl; rfl; rfl; (first | with_reducible assumption | exact Is.const rfl); (first | with_reducible assumption | exact Is.const rfl); intro r n hr) | (go_at_call 111; refine (abs_any _ (l64 (by assumption)) _).mono ?_; rintro e w' ⟨rfl, rfl⟩; have ha := Is.abs (by assumption)))
  go_loopw [8, 9] (fun p k wr => ∃ (j : Nat) (K : Int), j ≤ 3 ∧ K = (j : Int) ∧ k = .int .i64 K ∧ (∃ r, p = .float .f64 r ∧ Is .f64 r (rtN (fop .quo .f64 (fabs X) (fabs Y)) j)) ∧ ∃ n, wr = w.drewN n) (fun _ k _ => (3 - intOf k).toNat)
  case atStart => exact ⟨0, 0, by omega, by omega, rfl, ⟨_, rfl, by assumption⟩, _, rfl⟩
  case round =>
    obtain ⟨j, K, hj, hK, rfl, ⟨r, rfl, hr⟩, n, rfl⟩ := hrel
    have hcase : j = 0 ∨ j = 1 ∨ j = 2 ∨ j = 3 := by omega
    rcases hcase with rfl | rfl | rfl | rfl
    · obtain rfl : K = 0 := by omega
      clear hK hj EE
      go_wp2_with (first | (apply wpList_fcmp; rfl; rfl; rfl; rfl; (first | with_reducible assumption | exact Is.const rfl); (first | with_reducible assumption | exact Is.const rfl); (first | with_reducible assumption | exact rfl)) | (apply wpList_same; rfl; rfl; exact U64; exact U64) | (apply wpList_farith; rfl; rfl; rfl; rfl; (first | with_reducible assumption | exact Is.const rfl); (first | with_reducible assumption | exact Is.const rfl); intro r n hr) | (go_at_call 108; refine (sqrt_any _ _ (by assumption) _).mono ?_; rintro e w' ⟨⟨r, rfl, hr⟩, n, rfl⟩))
      go_roundw
      case rel => exact ⟨1, 1, by omega, by omega, rfl, ⟨_, rfl, by assumption⟩, _, rfl⟩
      case measure => simp [intOf]
    · obtain rfl : K = 1 := by omega
      clear hK hj EE
      go_wp2_with (first | (apply wpList_fcmp; rfl; rfl; rfl; rfl; (first | with_reducible assumption | exact Is.const rfl); (first | with_reducible assumption | exact Is.const rfl); (first | with_reducible assumption | exact rfl)) | (apply wpList_same; rfl; rfl; exact U64; exact U64) | (apply wpList_farith; rfl; rfl; rfl; rfl; (first | with_reducible assumption | exact Is.const rfl); (first | with_reducible assumption | exact Is.const rfl); intro r n hr) | (go_at_call 108; refine (sqrt_any _ _ (by assumption) _).mono ?_; rintro e w' ⟨⟨r, rfl, hr⟩, n, rfl⟩))
      go_roundw
      case rel => exact ⟨2, 2, by omega, by omega, rfl, ⟨_, rfl, by assumption⟩, _, rfl⟩
      case measure => simp [intOf]
    · obtain rfl : K = 2 := by omega
      clear hK hj EE
      go_wp2_with (first | (apply wpList_fcmp; rfl; rfl; rfl; rfl; (first | with_reducible assumption | exact Is.const rfl); (first | with_reducible assumption | exact Is.const rfl); (first | with_reducible assumption | exact rfl)) | (apply wpList_same; rfl; rfl; exact U64; exact U64) | (apply wpList_farith; rfl; rfl; rfl; rfl; (first | with_reducible assumption | exact Is.const rfl); (first | with_reducible assumption | exact Is.const rfl); intro r n hr) | (go_at_call 108; refine (sqrt_any _ _ (by assumption) _).mono ?_; rintro e w' ⟨⟨r, rfl, hr⟩, n, rfl⟩))
      go_roundw
      case rel => exact ⟨3, 3, by omega, by omega, rfl, ⟨_, rfl, by assumption⟩, _, rfl⟩
      case measure => simp [intOf]
    · obtain rfl : K = 3 := by omega
      clear hK hj
      go_wp2_with (first | (apply wpList_fcmp; rfl; rfl; rfl; rfl; (first | with_reducible assumption | exact Is.const rfl); (first | with_reducible assumption | exact Is.const rfl); (first | with_reducible assumption | exact rfl)) | (apply wpList_same; rfl; rfl; exact U64; exact U64) | (apply wpList_farith; rfl; rfl; rfl; rfl; (first | with_reducible assumption | exact Is.const rfl); (first | with_reducible assumption | exact Is.const rfl); intro r n hr))
      go_loopw [11, 12] (fun p k wr => ∃ (j : Nat) (K : Int), j ≤ 8 ∧ K = 15 - 2 * (j : Int) ∧ k = .int .i64 K ∧ (∃ r, p = .float .f64 r ∧ Is .f64 r (serA (fop .mul .f64 (rtN (fop .quo .f64 (fabs X) (fabs Y)) 3) (rtN (fop .quo .f64 (fabs X) (fabs Y)) 3)) j)) ∧ ∃ n, wr = w.drewN n) (fun _ k _ => (1 + intOf k).toNat)
      case atStart => exact ⟨0, 15, by omega, by omega, rfl, ⟨_, rfl, Is.const rfl⟩, _, rfl⟩
      case round =>
        obtain ⟨j, K, hj, hK, rfl, ⟨r, rfl, hr⟩, n, rfl⟩ := hrel
        have hcase : j = 0 ∨ j = 1 ∨ j = 2 ∨ j = 3 ∨ j = 4 ∨ j = 5 ∨ j = 6 ∨ j = 7 ∨ j = 8 := by omega
        rcases hcase with rfl | rfl | rfl | rfl | rfl | rfl | rfl | rfl | rfl
        · obtain rfl : K = 15 := by omega
          clear hK hj EE
          go_wp2_with (first | (apply wpList_fcmp; rfl; rfl; rfl; rfl; (first | with_reducible assumption | exact Is.const rfl); (first | with_reducible assumption | exact Is.const rfl); (first | with_reducible assumption | exact rfl)) | (apply wpList_same; rfl; rfl; exact U64; exact U64) | (apply wpList_farith; rfl; rfl; rfl; rfl; (first | with_reducible assumption | with_reducible exact intWord_is _ | exact Is.const rfl); (first | with_reducible assumption | with_reducible exact intWord_is _ | exact Is.const rfl); intro r n hr))
          go_roundw
          case rel => exact ⟨1, 13, by omega, by omega, rfl, ⟨_, rfl, by assumption⟩, _, rfl⟩
          case measure => simp [intOf]
        · obtain rfl : K = 13 := by omega
          clear hK hj EE
          go_wp2_with (first | (apply wpList_fcmp; rfl; rfl; rfl; rfl; (first | with_reducible assumption | exact Is.const rfl); (first | with_reducible assumption | exact Is.const rfl); (first | with_reducible assumption | exact rfl)) | (apply wpList_same; rfl; rfl; exact U64; exact U64) | (apply wpList_farith; rfl; rfl; rfl; rfl; (first | with_reducible assumption | with_reducible exact intWord_is _ | exact Is.const rfl); (first | with_reducible assumption | with_reducible exact intWord_is _ | exact Is.const rfl); intro r n hr))
          go_roundw
          case rel => exact ⟨2, 11, by omega, by omega, rfl, ⟨_, rfl, by assumption⟩, _, rfl⟩
          case measure => simp [intOf]
        · obtain rfl : K = 11 := by omega
          clear hK hj EE
          go_wp2_with (first | (apply wpList_fcmp; rfl; rfl; rfl; rfl; (first | with_reducible assumption | exact Is.const rfl); (first | with_reducible assumption | exact Is.const rfl); (first | with_reducible assumption | exact rfl)) | (apply wpList_same; rfl; rfl; exact U64; exact U64) | (apply wpList_farith; rfl; rfl; rfl; rfl; (first | with_reducible assumption | with_reducible exact intWord_is _ | exact Is.const rfl); (first | with_reducible assumption | with_reducible exact intWord_is _ | exact Is.const rfl); intro r n hr))
          go_roundw
          case rel => exact ⟨3, 9, by omega, by omega, rfl, ⟨_, rfl, by assumption⟩, _, rfl⟩
          case measure => simp [intOf]
        · obtain rfl : K = 9 := by omega
          clear hK hj EE
          go_wp2_with (first | (apply wpList_fcmp; rfl; rfl; rfl; rfl; (first | with_reducible assumption | exact Is.const rfl); (first | with_reducible assumption | exact Is.const rfl); (first | with_reducible assumption | exact rfl)) | (apply wpList_same; rfl; rfl; exact U64; exact U64) | (apply wpList_farith; rfl; rfl; rfl; rfl; (first | with_reducible assumption | with_reducible exact intWord_is _ | exact Is.const rfl); (first | with_reducible assumption | with_reducible exact intWord_is _ | exact Is.const rfl); intro r n hr))
          go_roundw
          case rel => exact ⟨4, 7, by omega, by omega, rfl, ⟨_, rfl, by assumption⟩, _, rfl⟩
          case measure => simp [intOf]
        · obtain rfl : K = 7 := by omega
          clear hK hj EE
          go_wp2_with (first | (apply wpList_fcmp; rfl; rfl; rfl; rfl; (first | with_reducible assumption | exact Is.const rfl); (first | with_reducible assumption | exact Is.const rfl); (first | with_reducible assumption | exact rfl)) | (apply wpList_same; rfl; rfl; exact U64; exact U64) | (apply wpList_farith; rfl; rfl; rfl; rfl; (first | with_reducible assumption | with_reducible exact intWord_is _ | exact Is.const rfl); (first | with_reducible assumption | with_reducible exact intWord_is _ | exact Is.const rfl); intro r n hr))
          go_roundw
          case rel => exact ⟨5, 5, by omega, by omega, rfl, ⟨_, rfl, by assumption⟩, _, rfl⟩
          case measure => simp [intOf]
        · obtain rfl : K = 5 := by omega
          clear hK hj EE
          go_wp2_with (first | (apply wpList_fcmp; rfl; rfl; rfl; rfl; (first | with_reducible assumption | exact Is.const rfl); (first | with_reducible assumption | exact Is.const rfl); (first | with_reducible assumption | exact rfl)) | (apply wpList_same; rfl; rfl; exact U64; exact U64) | (apply wpList_farith; rfl; rfl; rfl; rfl; (first | with_reducible assumption | with_reducible exact intWord_is _ | exact Is.const rfl); (first | with_reducible assumption | with_reducible exact intWord_is _ | exact Is.const rfl); intro r n hr))
          go_roundw
          case rel => exact ⟨6, 3, by omega, by omega, rfl, ⟨_, rfl, by assumption⟩, _, rfl⟩
          case measure => simp [intOf]
        · obtain rfl : K = 3 := by omega
          clear hK hj EE
          go_wp2_with (first | (apply wpList_fcmp; rfl; rfl; rfl; rfl; (first | with_reducible assumption | exact Is.const rfl); (first | with_reducible assumption | exact Is.const rfl); (first | with_reducible assumption | exact rfl)) | (apply wpList_same; rfl; rfl; exact U64; exact U64) | (apply wpList_farith; rfl; rfl; rfl; rfl; (first | with_reducible assumption | with_reducible exact intWord_is _ | exact Is.const rfl); (first | with_reducible assumption | with_reducible exact intWord_is _ | exact Is.const rfl); intro r n hr))
          go_roundw
          case rel => exact ⟨7, 1, by omega, by omega, rfl, ⟨_, rfl, by assumption⟩, _, rfl⟩
          case measure => simp [intOf]
        · obtain rfl : K = 1 := by omega
          clear hK hj EE
          go_wp2_with (first | (apply wpList_fcmp; rfl; rfl; rfl; rfl; (first | with_reducible assumption | exact Is.const rfl); (first | with_reducible assumption | exact Is.const rfl); (first | with_reducible assumption | exact rfl)) | (apply wpList_same; rfl; rfl; exact U64; exact U64) | (apply wpList_farith; rfl; rfl; rfl; rfl; (first | with_reducible assumption | with_reducible exact intWord_is _ | exact Is.const rfl); (first | with_reducible assumption | with_reducible exact intWord_is _ | exact Is.const rfl); intro r n hr))
          go_roundw
          case rel => exact ⟨8, -1, by omega, by omega, rfl, ⟨_, rfl, by assumption⟩, _, rfl⟩
          case measure => simp [intOf]
        · obtain rfl : K = -1 := by omega
          clear hK hj
          by_cases h1 : fcmp .lss .f64 X 0 = true
          · by_cases h2 : fcmp .lss .f64 Y 0 = true
            · go_wp2_with (first | (apply wpList_fcmp; rfl; rfl; rfl; rfl; (first | with_reducible assumption | exact Is.const rfl); (first | with_reducible assumption | exact Is.const rfl); (first | with_reducible assumption | exact rfl)) | (apply wpList_same; rfl; rfl; exact U64; exact U64) | (apply wpList_fneg; rfl; rfl; have hg := Is.fneg (by assumption)) | (apply wpList_farith; rfl; rfl; rfl; rfl; (first | with_reducible assumption | exact Is.const rfl); (first | with_reducible assumption | exact Is.const rfl); intro r n hr))
              go_ret
              exact ⟨⟨_, rfl, by rw [angW_eq EE.out h1 h2]; assumption⟩, _, rfl⟩
            · replace h2 : fcmp .lss .f64 Y 0 = false := by simpa using h2
              go_wp2_with (first | (apply wpList_fcmp; rfl; rfl; rfl; rfl; (first | with_reducible assumption | exact Is.const rfl); (first | with_reducible assumption | exact Is.const rfl); (first | with_reducible assumption | exact rfl)) | (apply wpList_same; rfl; rfl; exact U64; exact U64) | (apply wpList_fneg; rfl; rfl; have hg := Is.fneg (by assumption)) | (apply wpList_farith; rfl; rfl; rfl; rfl; (first | with_reducible assumption | exact Is.const rfl); (first | with_reducible assumption | exact Is.const rfl); intro r n hr))
              go_ret
              exact ⟨⟨_, rfl, by rw [angW_eq EE.out h1 h2]; assumption⟩, _, rfl⟩
          · replace h1 : fcmp .lss .f64 X 0 = false := by simpa using h1
            by_cases h2 : fcmp .lss .f64 Y 0 = true
            · go_wp2_with (first | (apply wpList_fcmp; rfl; rfl; rfl; rfl; (first | with_reducible assumption | exact Is.const rfl); (first | with_reducible assumption | exact Is.const rfl); (first | with_reducible assumption | exact rfl)) | (apply wpList_same; rfl; rfl; exact U64; exact U64) | (apply wpList_fneg; rfl; rfl; have hg := Is.fneg (by assumption)) | (apply wpList_farith; rfl; rfl; rfl; rfl; (first | with_reducible assumption | exact Is.const rfl); (first | with_reducible assumption | exact Is.const rfl); intro r n hr))
              go_ret
              exact ⟨⟨_, rfl, by rw [angW_eq EE.out h1 h2]; assumption⟩, _, rfl⟩
            · replace h2 : fcmp .lss .f64 Y 0 = false := by simpa using h2
              go_wp2_with (first | (apply wpList_fcmp; rfl; rfl; rfl; rfl; (first | with_reducible assumption | exact Is.const rfl); (first | with_reducible assumption | exact Is.const rfl); (first | with_reducible assumption | exact rfl)) | (apply wpList_same; rfl; rfl; exact U64; exact U64) | (apply wpList_fneg; rfl; rfl; have hg := Is.fneg (by assumption)) | (apply wpList_farith; rfl; rfl; rfl; rfl; (first | with_reducible assumption | exact Is.const rfl); (first | with_reducible assumption | exact Is.const rfl); intro r n hr))
              go_ret
              exact ⟨⟨_, rfl, by rw [angW_eq EE.out h1 h2]; assumption⟩, _, rfl⟩

set_option maxHeartbeats 2000000 in
theorem sAng_ff (y Y x X : Nat) (iy : Is .f64 y Y) (ix : Is .f64 x X) (hy : fin .f64 Y = true) (hx : fin .f64 X = true) (zx : fcmp .eql .f64 X 0 = false) (hg : fcmp .gtr .f64 (fabs Y) (fabs X) = false) (w : World) :
    Calls Try.prog 107 #[.float .f64 y, .float .f64 x] w fun e w' => (∃ r, e = .returned (.float .f64 r) ∧ Is .f64 r (angW Y X)) ∧ ∃ n, w' = w.drewN n := by
  have e : steep (fabs Y) (fabs X) = (fop .quo .f64 (fop .mul .f64 4620693217682128896 (fop .mul .f64 (rtN (fop .quo .f64 (fabs Y) (fabs X)) 3) (serA (fop .mul .f64 (rtN (fop .quo .f64 (fabs Y) (fabs X)) 3) (rtN (fop .quo .f64 (fabs Y) (fabs X)) 3)) 8))) 4618760256179416344) := by unfold steep; rw [hg, if_neg (by decide)]; rfl
  have EE := Lib.hid e
  clear e
  have hqy : fcmp .neq .f64 (fop .sub .f64 Y Y) 0 = false := by rw [fcmp_neq_not, sub_self, hy]; rfl
  have hqx : fcmp .neq .f64 (fop .sub .f64 X X) 0 = false := by rw [fcmp_neq_not, sub_self, hx]; rfl
  clear hx hy
  have ha := iy.abs
  have hb := ix.abs
  go_enter Try.func107, Try.ntmps107
  go_wp2_with (first | (apply wpList_fcmp; rfl; rfl; rfl; rfl; (first | with_reducible assumption | exact Is.const rfl); (first | with_reducible assumption | exact Is.const rfl); (first | with_reducible assumption | exact rfl)) | (apply wpList_same; rfl; rfl; exact U64; exact U64) | (apply wpList_farith; rfl; rfl; rfl; rfl; (first | with_reducible assumption | exact Is.const rfl); (first | with_reducible assumption | exact Is.const rfl); intro r n hr) | (go_at_call 111; refine (abs_any _ (l64 (by assumption)) _).mono ?_; rintro e w' ⟨rfl, rfl⟩; have ha := Is.abs (by assumption)))
  go_loopw [8, 9] (fun p k wr => ∃ (j : Nat) (K : Int), j ≤ 3 ∧ K = (j : Int) ∧ k = .int .i64 K ∧ (∃ r, p = .float .f64 r ∧ Is .f64 r (rtN (fop .quo .f64 (fabs Y) (fabs X)) j)) ∧ ∃ n, wr = w.drewN n) (fun _ k _ => (3 - intOf k).toNat)
  case atStart => exact ⟨0, 0, by omega, by omega, rfl, ⟨_, rfl, by assumption⟩, _, rfl⟩
  case round =>
    obtain ⟨j, K, hj, hK, rfl, ⟨r, rfl, hr⟩, n, rfl⟩ := hrel
    have hcase : j = 0 ∨ j = 1 ∨ j = 2 ∨ j = 3 := by omega
    rcases hcase with rfl | rfl | rfl | rfl
    · obtain rfl : K = 0 := by omega
      clear hK hj EE
      go_wp2_with (first | (apply wpList_fcmp; rfl; rfl; rfl; rfl; (first | with_reducible assumption | exact Is.const rfl); (first | with_reducible assumption | exact Is.const rfl); (first | with_reducible assumption | exact rfl)) | (apply wpList_same; rfl; rfl; exact U64; exact U64) | (apply wpList_farith; rfl; rfl; rfl; rfl; (first | with_reducible assumption | exact Is.const rfl); (first | with_reducible assumption | exact Is.const rfl); intro r n hr) | (go_at_call 108; refine (sqrt_any _ _ (by assumption) _).mono ?_; rintro e w' ⟨⟨r, rfl, hr⟩, n, rfl⟩))
      go_roundw
      case rel => exact ⟨1, 1, by omega, by omega, rfl, ⟨_, rfl, by assumption⟩, _, rfl⟩
      case measure => simp [intOf]
    · obtain rfl : K = 1 := by omega
      clear hK hj EE
      go_wp2_with (first | (apply wpList_fcmp; rfl; rfl; rfl; rfl; (first | with_reducible assumption | exact Is.const rfl); (first | with_reducible assumption | exact Is.const rfl); (first | with_reducible assumption | exact rfl)) | (apply wpList_same; rfl; rfl; exact U64; exact U64) | (apply wpList_farith; rfl; rfl; rfl; rfl; (first | with_reducible assumption | exact Is.const rfl); (first | with_reducible assumption | exact Is.const rfl); intro r n hr) | (go_at_call 108; refine (sqrt_any _ _ (by assumption) _).mono ?_; rintro e w' ⟨⟨r, rfl, hr⟩, n, rfl⟩))
      go_roundw
      case rel => exact ⟨2, 2, by omega, by omega, rfl, ⟨_, rfl, by assumption⟩, _, rfl⟩
      case measure => simp [intOf]
    · obtain rfl : K = 2 := by omega
      clear hK hj EE
      go_wp2_with (first | (apply wpList_fcmp; rfl; rfl; rfl; rfl; (first | with_reducible assumption | exact Is.const rfl); (first | with_reducible assumption | exact Is.const rfl); (first | with_reducible assumption | exact rfl)) | (apply wpList_same; rfl; rfl; exact U64; exact U64) | (apply wpList_farith; rfl; rfl; rfl; rfl; (first | with_reducible assumption | exact Is.const rfl); (first | with_reducible assumption | exact Is.const rfl); intro r n hr) | (go_at_call 108; refine (sqrt_any _ _ (by assumption) _).mono ?_; rintro e w' ⟨⟨r, rfl, hr⟩, n, rfl⟩))
      go_roundw
      case rel => exact ⟨3, 3, by omega, by omega, rfl, ⟨_, rfl, by assumption⟩, _, rfl⟩
      case measure => simp [intOf]
    · obtain rfl : K = 3 := by omega
      clear hK hj
      go_wp2_with (first | (apply wpList_fcmp; rfl; rfl; rfl; rfl; (first | with_reducible assumption | exact Is.const rfl); (first | with_reducible assumption | exact Is.const rfl); (first | with_reducible assumption | exact rfl)) | (apply wpList_same; rfl; rfl; exact U64; exact U64) | (apply wpList_farith; rfl; rfl; rfl; rfl; (first | with_reducible assumption | exact Is.const rfl); (first | with_reducible assumption | exact Is.const rfl); intro r n hr))
      go_loopw [11, 12] (fun p k wr => ∃ (j : Nat) (K : Int), j ≤ 8 ∧ K = 15 - 2 * (j : Int) ∧ k = .int .i64 K ∧ (∃ r, p = .float .f64 r ∧ Is .f64 r (serA (fop .mul .f64 (rtN (fop .quo .f64 (fabs Y) (fabs X)) 3) (rtN (fop .quo .f64 (fabs Y) (fabs X)) 3)) j)) ∧ ∃ n, wr = w.drewN n) (fun _ k _ => (1 + intOf k).toNat)
      case atStart => exact ⟨0, 15, by omega, by omega, rfl, ⟨_, rfl, Is.const rfl⟩, _, rfl⟩
      case round =>
        obtain ⟨j, K, hj, hK, rfl, ⟨r, rfl, hr⟩, n, rfl⟩ := hrel
        have hcase : j = 0 ∨ j = 1 ∨ j = 2 ∨ j = 3 ∨ j = 4 ∨ j = 5 ∨ j = 6 ∨ j = 7 ∨ j = 8 := by omega
        rcases hcase with rfl | rfl | rfl | rfl | rfl | rfl | rfl | rfl | rfl
        · obtain rfl : K = 15 := by omega
          clear hK hj EE
          go_wp2_with (first | (apply wpList_fcmp; rfl; rfl; rfl; rfl; (first | with_reducible assumption | exact Is.const rfl); (first | with_reducible assumption | exact Is.const rfl); (first | with_reducible assumption | exact rfl)) | (apply wpList_same; rfl; rfl; exact U64; exact U64) | (apply wpList_farith; rfl; rfl; rfl; rfl; (first | with_reducible assumption | with_reducible exact intWord_is _ | exact Is.const rfl); (first | with_reducible assumption | with_reducible exact intWord_is _ | exact Is.const rfl); intro r n hr))
          go_roundw
          case rel => exact ⟨1, 13, by omega, by omega, rfl, ⟨_, rfl, by assumption⟩, _, rfl⟩
          case measure => simp [intOf]
        · obtain rfl : K = 13 := by omega
          clear hK hj EE
          go_wp2_with (first | (apply wpList_fcmp; rfl; rfl; rfl; rfl; (first | with_reducible assumption | exact Is.const rfl); (first | with_reducible assumption | exact Is.const rfl); (first | with_reducible assumption | exact rfl)) | (apply wpList_same; rfl; rfl; exact U64; exact U64) | (apply wpList_farith; rfl; rfl; rfl; rfl; (first | with_reducible assumption | with_reducible exact intWord_is _ | exact Is.const rfl); (first | with_reducible assumption | with_reducible exact intWord_is _ | exact Is.const rfl); intro r n hr))
          go_roundw
          case rel => exact ⟨2, 11, by omega, by omega, rfl, ⟨_, rfl, by assumption⟩, _, rfl⟩
          case measure => simp [intOf]
        · obtain rfl : K = 11 := by omega
          clear hK hj EE
          go_wp2_with (first | (apply wpList_fcmp; rfl; rfl; rfl; rfl; (first | with_reducible assumption | exact Is.const rfl); (first | with_reducible assumption | exact Is.const rfl); (first | with_reducible assumption | exact rfl)) | (apply wpList_same; rfl; rfl; exact U64; exact U64) | (apply wpList_farith; rfl; rfl; rfl; rfl; (first | with_reducible assumption | with_reducible exact intWord_is _ | exact Is.const rfl); (first | with_reducible assumption | with_reducible exact intWord_is _ | exact Is.const rfl); intro r n hr))
          go_roundw
          case rel => exact ⟨3, 9, by omega, by omega, rfl, ⟨_, rfl, by assumption⟩, _, rfl⟩
          case measure => simp [intOf]
        · obtain rfl : K = 9 := by omega
          clear hK hj EE
          go_wp2_with (first | (apply wpList_fcmp; rfl; rfl; rfl; rfl; (first | with_reducible assumption | exact Is.const rfl); (first | with_reducible assumption | exact Is.const rfl); (first | with_reducible assumption | exact rfl)) | (apply wpList_same; rfl; rfl; exact U64; exact U64) | (apply wpList_farith; rfl; rfl; rfl; rfl; (first | with_reducible assumption | with_reducible exact intWord_is _ | exact Is.const rfl); (first | with_reducible assumption | with_reducible exact intWord_is _ | exact Is.const rfl); intro r n hr))
          go_roundw
          case rel => exact ⟨4, 7, by omega, by omega, rfl, ⟨_, rfl, by assumption⟩, _, rfl⟩
          case measure => simp [intOf]
        · obtain rfl : K = 7 := by omega
          clear hK hj EE
          go_wp2_with (first | (apply wpList_fcmp; rfl; rfl; rfl; rfl; (first | with_reducible assumption | exact Is.const rfl); (first | with_reducible assumption | exact Is.const rfl); (first | with_reducible assumption | exact rfl)) | (apply wpList_same; rfl; rfl; exact U64; exact U64) | (apply wpList_farith; rfl; rfl; rfl; rfl; (first | with_reducible assumption | with_reducible exact intWord_is _ | exact Is.const rfl); (first | with_reducible assumption | with_reducible exact intWord_is _ | exact Is.const rfl); intro r n hr))
          go_roundw
          case rel => exact ⟨5, 5, by omega, by omega, rfl, ⟨_, rfl, by assumption⟩, _, rfl⟩
          case measure => simp [intOf]
        · obtain rfl : K = 5 := by omega
          clear hK hj EE
          go_wp2_with (first | (apply wpList_fcmp; rfl; rfl; rfl; rfl; (first | with_reducible assumption | exact Is.const rfl); (first | with_reducible assumption | exact Is.const rfl); (first | with_reducible assumption | exact rfl)) | (apply wpList_same; rfl; rfl; exact U64; exact U64) | (apply wpList_farith; rfl; rfl; rfl; rfl; (first | with_reducible assumption | with_reducible exact intWord_is _ | exact Is.const rfl); (first | with_reducible assumption | with_reducible exact intWord_is _ | exact Is.const rfl); intro r n hr))
          go_roundw
          case rel => exact ⟨6, 3, by omega, by omega, rfl, ⟨_, rfl, by assumption⟩, _, rfl⟩
          case measure => simp [intOf]
        · obtain rfl : K = 3 := by omega
          clear hK hj EE
          go_wp2_with (first | (apply wpList_fcmp; rfl; rfl; rfl; rfl; (first | with_reducible assumption | exact Is.const rfl); (first | with_reducible assumption | exact Is.const rfl); (first | with_reducible assumption | exact rfl)) | (apply wpList_same; rfl; rfl; exact U64; exact U64) | (apply wpList_farith; rfl; rfl; rfl; rfl; (first | with_reducible assumption | with_reducible exact intWord_is _ | exact Is.const rfl); (first | with_reducible assumption | with_reducible exact intWord_is _ | exact Is.const rfl); intro r n hr))
          go_roundw
          case rel => exact ⟨7, 1, by omega, by omega, rfl, ⟨_, rfl, by assumption⟩, _, rfl⟩
          case measure => simp [intOf]
        · obtain rfl : K = 1 := by omega
          clear hK hj EE
          go_wp2_with (first | (apply wpList_fcmp; rfl; rfl; rfl; rfl; (first | with_reducible assumption | exact Is.const rfl); (first | with_reducible assumption | exact Is.const rfl); (first | with_reducible assumption | exact rfl)) | (apply wpList_same; rfl; rfl; exact U64; exact U64) | (apply wpList_farith; rfl; rfl; rfl; rfl; (first | with_reducible assumption | with_reducible exact intWord_is _ | exact Is.const rfl); (first | with_reducible assumption | with_reducible exact intWord_is _ | exact Is.const rfl); intro r n hr))
          go_roundw
          case rel => exact ⟨8, -1, by omega, by omega, rfl, ⟨_, rfl, by assumption⟩, _, rfl⟩
          case measure => simp [intOf]
        · obtain rfl : K = -1 := by omega
          clear hK hj
          by_cases h1 : fcmp .lss .f64 X 0 = true
          · by_cases h2 : fcmp .lss .f64 Y 0 = true
            · go_wp2_with (first | (apply wpList_fcmp; rfl; rfl; rfl; rfl; (first | with_reducible assumption | exact Is.const rfl); (first | with_reducible assumption | exact Is.const rfl); (first | with_reducible assumption | exact rfl)) | (apply wpList_same; rfl; rfl; exact U64; exact U64) | (apply wpList_fneg; rfl; rfl; have hg := Is.fneg (by assumption)) | (apply wpList_farith; rfl; rfl; rfl; rfl; (first | with_reducible assumption | exact Is.const rfl); (first | with_reducible assumption | exact Is.const rfl); intro r n hr))
              go_ret
              exact ⟨⟨_, rfl, by rw [angW_eq EE.out h1 h2]; assumption⟩, _, rfl⟩
            · replace h2 : fcmp .lss .f64 Y 0 = false := by simpa using h2
              go_wp2_with (first | (apply wpList_fcmp; rfl; rfl; rfl; rfl; (first | with_reducible assumption | exact Is.const rfl); (first | with_reducible assumption | exact Is.const rfl); (first | with_reducible assumption | exact rfl)) | (apply wpList_same; rfl; rfl; exact U64; exact U64) | (apply wpList_fneg; rfl; rfl; have hg := Is.fneg (by assumption)) | (apply wpList_farith; rfl; rfl; rfl; rfl; (first | with_reducible assumption | exact Is.const rfl); (first | with_reducible assumption | exact Is.const rfl); intro r n hr))
              go_ret
              exact ⟨⟨_, rfl, by rw [angW_eq EE.out h1 h2]; assumption⟩, _, rfl⟩
          · replace h1 : fcmp .lss .f64 X 0 = false := by simpa using h1
            by_cases h2 : fcmp .lss .f64 Y 0 = true
            · go_wp2_with (first | (apply wpList_fcmp; rfl; rfl; rfl; rfl; (first | with_reducible assumption | exact Is.const rfl); (first | with_reducible assumption | exact Is.const rfl); (first | with_reducible assumption | exact rfl)) | (apply wpList_same; rfl; rfl; exact U64; exact U64) | (apply wpList_fneg; rfl; rfl; have hg := Is.fneg (by assumption)) | (apply wpList_farith; rfl; rfl; rfl; rfl; (first | with_reducible assumption | exact Is.const rfl); (first | with_reducible assumption | exact Is.const rfl); intro r n hr))
              go_ret
              exact ⟨⟨_, rfl, by rw [angW_eq EE.out h1 h2]; assumption⟩, _, rfl⟩
            · replace h2 : fcmp .lss .f64 Y 0 = false := by simpa using h2
              go_wp2_with (first | (apply wpList_fcmp; rfl; rfl; rfl; rfl; (first | with_reducible assumption | exact Is.const rfl); (first | with_reducible assumption | exact Is.const rfl); (first | with_reducible assumption | exact rfl)) | (apply wpList_same; rfl; rfl; exact U64; exact U64) | (apply wpList_fneg; rfl; rfl; have hg := Is.fneg (by assumption)) | (apply wpList_farith; rfl; rfl; rfl; rfl; (first | with_reducible assumption | exact Is.const rfl); (first | with_reducible assumption | exact Is.const rfl); intro r n hr))
              go_ret
              exact ⟨⟨_, rfl, by rw [angW_eq EE.out h1 h2]; assumption⟩, _, rfl⟩

set_option maxHeartbeats 2000000 in
theorem sAng_tt (y Y x X : Nat) (iy : Is .f64 y Y) (ix : Is .f64 x X) (hy : fin .f64 Y = true) (hx : fin .f64 X = true) (zx : fcmp .eql .f64 X 0 = true) (zy : fcmp .eql .f64 Y 0 = false) (hg : fcmp .gtr .f64 (fabs Y) (fabs X) = true) (w : World) :
    Calls Try.prog 107 #[.float .f64 y, .float .f64 x] w fun e w' => (∃ r, e = .returned (.float .f64 r) ∧ Is .f64 r (angW Y X)) ∧ ∃ n, w' = w.drewN n := by
  have e : steep (fabs Y) (fabs X) = (fop .sub .f64 4598175219545276416 (fop .quo .f64 (fop .mul .f64 4620693217682128896 (fop .mul .f64 (rtN (fop .quo .f64 (fabs X) (fabs Y)) 3) (serA (fop .mul .f64 (rtN (fop .quo .f64 (fabs X) (fabs Y)) 3) (rtN (fop .quo .f64 (fabs X) (fabs Y)) 3)) 8))) 4618760256179416344)) := by unfold steep; rw [if_pos hg]; rfl
  have EE := Lib.hid e
  clear e
  have hqy : fcmp .neq .f64 (fop .sub .f64 Y Y) 0 = false := by rw [fcmp_neq_not, sub_self, hy]; rfl
  have hqx : fcmp .neq .f64 (fop .sub .f64 X X) 0 = false := by rw [fcmp_neq_not, sub_self, hx]; rfl
  clear hx hy
  have ha := iy.abs
  have hb := ix.abs
  go_enter Try.func107, Try.ntmps107
  go_wp2_with (first | (apply wpList_fcmp; rfl; rfl; rfl; rfl; (first | with_reducible assumption | exact Is.const rfl); (first | with_reducible assumption | exact Is.const rfl); (first | with_reducible assumption | exact rfl)) | (apply wpList_same; rfl; rfl; exact U64; exact U64) | (apply wpList_farith; rfl; rfl; rfl; rfl; (first | with_reducible assumption | exact Is.const rfl); (first | with_reducible assumption | exact Is.const rfl); intro r n hr) | (go_at_call 111; refine (abs_any _ (l64 (by assumption)) _).mono ?_; rintro e w' ⟨rfl, rfl⟩; have ha := Is.abs (by assumption)))
  go_loopw [8, 9] (fun p k wr => ∃ (j : Nat) (K : Int), j ≤ 3 ∧ K = (j : Int) ∧ k = .int .i64 K ∧ (∃ r, p = .float .f64 r ∧ Is .f64 r (rtN (fop .quo .f64 (fabs X) (fabs Y)) j)) ∧ ∃ n, wr = w.drewN n) (fun _ k _ => (3 - intOf k).toNat)
  case atStart => exact ⟨0, 0, by omega, by omega, rfl, ⟨_, rfl, by assumption⟩, _, rfl⟩
  case round =>
    obtain ⟨j, K, hj, hK, rfl, ⟨r, rfl, hr⟩, n, rfl⟩ := hrel
    have hcase : j = 0 ∨ j = 1 ∨ j = 2 ∨ j = 3 := by omega
    rcases hcase with rfl | rfl | rfl | rfl
    · obtain rfl : K = 0 := by omega
      clear hK hj EE
      go_wp2_with (first | (apply wpList_fcmp; rfl; rfl; rfl; rfl; (first | with_reducible assumption | exact Is.const rfl); (first | with_reducible assumption | exact Is.const rfl); (first | with_reducible assumption | exact rfl)) | (apply wpList_same; rfl; rfl; exact U64; exact U64) | (apply wpList_farith; rfl; rfl; rfl; rfl; (first | with_reducible assumption | exact Is.const rfl); (first | with_reducible assumption | exact Is.const rfl); intro r n hr) | (go_at_call 108; refine (sqrt_any _ _ (by assumption) _).mono ?_; rintro e w' ⟨⟨r, rfl, hr⟩, n, rfl⟩))
      go_roundw
      case rel => exact ⟨1, 1, by omega, by omega, rfl, ⟨_, rfl, by assumption⟩, _, rfl⟩
      case measure => simp [intOf]
    · obtain rfl : K = 1 := by omega
      clear hK hj EE
      go_wp2_with (first | (apply wpList_fcmp; rfl; rfl; rfl; rfl; (first | with_reducible assumption | exact Is.const rfl); (first | with_reducible assumption | exact Is.const rfl); (first | with_reducible assumption | exact rfl)) | (apply wpList_same; rfl; rfl; exact U64; exact U64) | (apply wpList_farith; rfl; rfl; rfl; rfl; (first | with_reducible assumption | exact Is.const rfl); (first | with_reducible assumption | exact Is.const rfl); intro r n hr) | (go_at_call 108; refine (sqrt_any _ _ (by assumption) _).mono ?_; rintro e w' ⟨⟨r, rfl, hr⟩, n, rfl⟩))
      go_roundw
      case rel => exact ⟨2, 2, by omega, by omega, rfl, ⟨_, rfl, by assumption⟩, _, rfl⟩
      case measure => simp [intOf]
    · obtain rfl : K = 2 := by omega
      clear hK hj EE
      go_wp2_with (first | (apply wpList_fcmp; rfl; rfl; rfl; rfl; (first | with_reducible assumption | exact Is.const rfl); (first | with_reducible assumption | exact Is.const rfl); (first | with_reducible assumption | exact rfl)) | (apply wpList_same; rfl; rfl; exact U64; exact U64) | (apply wpList_farith; rfl; rfl; rfl; rfl; (first | with_reducible assumption | exact Is.const rfl); (first | with_reducible assumption | exact Is.const rfl); intro r n hr) | (go_at_call 108; refine (sqrt_any _ _ (by assumption) _).mono ?_; rintro e w' ⟨⟨r, rfl, hr⟩, n, rfl⟩))
      go_roundw
      case rel => exact ⟨3, 3, by omega, by omega, rfl, ⟨_, rfl, by assumption⟩, _, rfl⟩
      case measure => simp [intOf]
    · obtain rfl : K = 3 := by omega
      clear hK hj
      go_wp2_with (first | (apply wpList_fcmp; rfl; rfl; rfl; rfl; (first | with_reducible assumption | exact Is.const rfl); (first | with_reducible assumption | exact Is.const rfl); (first | with_reducible assumption | exact rfl)) | (apply wpList_same; rfl; rfl; exact U64; exact U64) | (apply wpList_farith; rfl; rfl; rfl; rfl; (first | with_reducible assumption | exact Is.const rfl); (first | with_reducible assumption | exact Is.const rfl); intro r n hr))
      go_loopw [11, 12] (fun p k wr => ∃ (j : Nat) (K : Int), j ≤ 8 ∧ K = 15 - 2 * (j : Int) ∧ k = .int .i64 K ∧ (∃ r, p = .float .f64 r ∧ Is .f64 r (serA (fop .mul .f64 (rtN (fop .quo .f64 (fabs X) (fabs Y)) 3) (rtN (fop .quo .f64 (fabs X) (fabs Y)) 3)) j)) ∧ ∃ n, wr = w.drewN n) (fun _ k _ => (1 + intOf k).toNat)
      case atStart => exact ⟨0, 15, by omega, by omega, rfl, ⟨_, rfl, Is.const rfl⟩, _, rfl⟩
      case round =>
        obtain ⟨j, K, hj, hK, rfl, ⟨r, rfl, hr⟩, n, rfl⟩ := hrel
        have hcase : j = 0 ∨ j = 1 ∨ j = 2 ∨ j = 3 ∨ j = 4 ∨ j = 5 ∨ j = 6 ∨ j = 7 ∨ j = 8 := by omega
        rcases hcase with rfl | rfl | rfl | rfl | rfl | rfl | rfl | rfl | rfl
        · obtain rfl : K = 15 := by omega
          clear hK hj EE
          go_wp2_with (first | (apply wpList_fcmp; rfl; rfl; rfl; rfl; (first | with_reducible assumption | exact Is.const rfl); (first | with_reducible assumption | exact Is.const rfl); (first | with_reducible assumption | exact rfl)) | (apply wpList_same; rfl; rfl; exact U64; exact U64) | (apply wpList_farith; rfl; rfl; rfl; rfl; (first | with_reducible assumption | with_reducible exact intWord_is _ | exact Is.const rfl); (first | with_reducible assumption | with_reducible exact intWord_is _ | exact Is.const rfl); intro r n hr))
          go_roundw
          case rel => exact ⟨1, 13, by omega, by omega, rfl, ⟨_, rfl, by assumption⟩, _, rfl⟩
          case measure => simp [intOf]
        · obtain rfl : K = 13 := by omega
          clear hK hj EE
          go_wp2_with (first | (apply wpList_fcmp; rfl; rfl; rfl; rfl; (first | with_reducible assumption | exact Is.const rfl); (first | with_reducible assumption | exact Is.const rfl); (first | with_reducible assumption | exact rfl)) | (apply wpList_same; rfl; rfl; exact U64; exact U64) | (apply wpList_farith; rfl; rfl; rfl; rfl; (first | with_reducible assumption | with_reducible exact intWord_is _ | exact Is.const rfl); (first | with_reducible assumption | with_reducible exact intWord_is _ | exact Is.const rfl); intro r n hr))
          go_roundw
          case rel => exact ⟨2, 11, by omega, by omega, rfl, ⟨_, rfl, by assumption⟩, _, rfl⟩
          case measure => simp [intOf]
        · obtain rfl : K = 11 := by omega
          clear hK hj EE
          go_wp2_with (first | (apply wpList_fcmp; rfl; rfl; rfl; rfl; (first | with_reducible assumption | exact Is.const rfl); (first | with_reducible assumption | exact Is.const rfl); (first | with_reducible assumption | exact rfl)) | (apply wpList_same; rfl; rfl; exact U64; exact U64) | (apply wpList_farith; rfl; rfl; rfl; rfl; (first | with_reducible assumption | with_reducible exact intWord_is _ | exact Is.const rfl); (first | with_reducible assumption | with_reducible exact intWord_is _ | exact Is.const rfl); intro r n hr))
          go_roundw
          case rel => exact ⟨3, 9, by omega, by omega, rfl, ⟨_, rfl, by assumption⟩, _, rfl⟩
          case measure => simp [intOf]
        · obtain rfl : K = 9 := by omega
          clear hK hj EE
          go_wp2_with (first | (apply wpList_fcmp; rfl; rfl; rfl; rfl; (first | with_reducible assumption | exact Is.const rfl); (first | with_reducible assumption | exact Is.const rfl); (first | with_reducible assumption | exact rfl)) | (apply wpList_same; rfl; rfl; exact U64; exact U64) | (apply wpList_farith; rfl; rfl; rfl; rfl; (first | with_reducible assumption | with_reducible exact intWord_is _ | exact Is.const rfl); (first | with_reducible assumption | with_reducible exact intWord_is _ | exact Is.const rfl); intro r n hr))
          go_roundw
          case rel => exact ⟨4, 7, by omega, by omega, rfl, ⟨_, rfl, by assumption⟩, _, rfl⟩
          case measure => simp [intOf]
        · obtain rfl : K = 7 := by omega
          clear hK hj EE
          go_wp2_with (first | (apply wpList_fcmp; rfl; rfl; rfl; rfl; (first | with_reducible assumption | exact Is.const rfl); (first | with_reducible assumption | exact Is.const rfl); (first | with_reducible assumption | exact rfl)) | (apply wpList_same; rfl; rfl; exact U64; exact U64) | (apply wpList_farith; rfl; rfl; rfl; rfl; (first | with_reducible assumption | with_reducible exact intWord_is _ | exact Is.const rfl); (first | with_reducible assumption | with_reducible exact intWord_is _ | exact Is.const rfl); intro r n hr))
          go_roundw
          case rel => exact ⟨5, 5, by omega, by omega, rfl, ⟨_, rfl, by assumption⟩, _, rfl⟩
          case measure => simp [intOf]
        · obtain rfl : K = 5 := by omega
          clear hK hj EE
          go_wp2_with (first | (apply wpList_fcmp; rfl; rfl; rfl; rfl; (first | with_reducible assumption | exact Is.const rfl); (first | with_reducible assumption | exact Is.const rfl); (first | with_reducible assumption | exact rfl)) | (apply wpList_same; rfl; rfl; exact U64; exact U64) | (apply wpList_farith; rfl; rfl; rfl; rfl; (first | with_reducible assumption | with_reducible exact intWord_is _ | exact Is.const rfl); (first | with_reducible assumption | with_reducible exact intWord_is _ | exact Is.const rfl); intro r n hr))
          go_roundw
          case rel => exact ⟨6, 3, by omega, by omega, rfl, ⟨_, rfl, by assumption⟩, _, rfl⟩
          case measure => simp [intOf]
        · obtain rfl : K = 3 := by omega
          clear hK hj EE
          go_wp2_with (first | (apply wpList_fcmp; rfl; rfl; rfl; rfl; (first | with_reducible assumption | exact Is.const rfl); (first | with_reducible assumption | exact Is.const rfl); (first | with_reducible assumption | exact rfl)) | (apply wpList_same; rfl; rfl; exact U64; exact U64) | (apply wpList_farith; rfl; rfl; rfl; rfl; (first | with_reducible assumption | with_reducible exact intWord_is _ | exact Is.const rfl); (first | with_reducible assumption | with_reducible exact intWord_is _ | exact Is.const rfl); intro r n hr))
          go_roundw
          case rel => exact ⟨7, 1, by omega, by omega, rfl, ⟨_, rfl, by assumption⟩, _, rfl⟩
          case measure => simp [intOf]
        · obtain rfl : K = 1 := by omega
          clear hK hj EE
          go_wp2_with (first | (apply wpList_fcmp; rfl; rfl; rfl; rfl; (first | with_reducible assumption | exact Is.const rfl); (first | with_reducible assumption | exact Is.const rfl); (first | with_reducible assumption | exact rfl)) | (apply wpList_same; rfl; rfl; exact U64; exact U64) | (apply wpList_farith; rfl; rfl; rfl; rfl; (first | with_reducible assumption | with_reducible exact intWord_is _ | exact Is.const rfl); (first | with_reducible assumption | with_reducible exact intWord_is _ | exact Is.const rfl); intro r n hr))
          go_roundw
          case rel => exact ⟨8, -1, by omega, by omega, rfl, ⟨_, rfl, by assumption⟩, _, rfl⟩
          case measure => simp [intOf]
        · obtain rfl : K = -1 := by omega
          clear hK hj
          by_cases h1 : fcmp .lss .f64 X 0 = true
          · by_cases h2 : fcmp .lss .f64 Y 0 = true
            · go_wp2_with (first | (apply wpList_fcmp; rfl; rfl; rfl; rfl; (first | with_reducible assumption | exact Is.const rfl); (first | with_reducible assumption | exact Is.const rfl); (first | with_reducible assumption | exact rfl)) | (apply wpList_same; rfl; rfl; exact U64; exact U64) | (apply wpList_fneg; rfl; rfl; have hg := Is.fneg (by assumption)) | (apply wpList_farith; rfl; rfl; rfl; rfl; (first | with_reducible assumption | exact Is.const rfl); (first | with_reducible assumption | exact Is.const rfl); intro r n hr))
              go_ret
              exact ⟨⟨_, rfl, by rw [angW_eq EE.out h1 h2]; assumption⟩, _, rfl⟩
            · replace h2 : fcmp .lss .f64 Y 0 = false := by simpa using h2
              go_wp2_with (first | (apply wpList_fcmp; rfl; rfl; rfl; rfl; (first | with_reducible assumption | exact Is.const rfl); (first | with_reducible assumption | exact Is.const rfl); (first | with_reducible assumption | exact rfl)) | (apply wpList_same; rfl; rfl; exact U64; exact U64) | (apply wpList_fneg; rfl; rfl; have hg := Is.fneg (by assumption)) | (apply wpList_farith; rfl; rfl; rfl; rfl; (first | with_reducible assumption | exact Is.const rfl); (first | with_reducible assumption | exact Is.const rfl); intro r n hr))
              go_ret
              exact ⟨⟨_, rfl, by rw [angW_eq EE.out h1 h2]; assumption⟩, _, rfl⟩
          · replace h1 : fcmp .lss .f64 X 0 = false := by simpa using h1
            by_cases h2 : fcmp .lss .f64 Y 0 = true
            · go_wp2_with (first | (apply wpList_fcmp; rfl; rfl; rfl; rfl; (first | with_reducible assumption | exact Is.const rfl); (first | with_reducible assumption | exact Is.const rfl); (first | with_reducible assumption | exact rfl)) | (apply wpList_same; rfl; rfl; exact U64; exact U64) | (apply wpList_fneg; rfl; rfl; have hg := Is.fneg (by assumption)) | (apply wpList_farith; rfl; rfl; rfl; rfl; (first | with_reducible assumption | exact Is.const rfl); (first | with_reducible assumption | exact Is.const rfl); intro r n hr))
              go_ret
              exact ⟨⟨_, rfl, by rw [angW_eq EE.out h1 h2]; assumption⟩, _, rfl⟩
            · replace h2 : fcmp .lss .f64 Y 0 = false := by simpa using h2
              go_wp2_with (first | (apply wpList_fcmp; rfl; rfl; rfl; rfl; (first | with_reducible assumption | exact Is.const rfl); (first | with_reducible assumption | exact Is.const rfl); (first | with_reducible assumption | exact rfl)) | (apply wpList_same; rfl; rfl; exact U64; exact U64) | (apply wpList_fneg; rfl; rfl; have hg := Is.fneg (by assumption)) | (apply wpList_farith; rfl; rfl; rfl; rfl; (first | with_reducible assumption | exact Is.const rfl); (first | with_reducible assumption | exact Is.const rfl); intro r n hr))
              go_ret
              exact ⟨⟨_, rfl, by rw [angW_eq EE.out h1 h2]; assumption⟩, _, rfl⟩

set_option maxHeartbeats 2000000 in
theorem sAng_tf (y Y x X : Nat) (iy : Is .f64 y Y) (ix : Is .f64 x X) (hy : fin .f64 Y = true) (hx : fin .f64 X = true) (zx : fcmp .eql .f64 X 0 = true) (zy : fcmp .eql .f64 Y 0 = false) (hg : fcmp .gtr .f64 (fabs Y) (fabs X) = false) (w : World) :
    Calls Try.prog 107 #[.float .f64 y, .float .f64 x] w fun e w' => (∃ r, e = .returned (.float .f64 r) ∧ Is .f64 r (angW Y X)) ∧ ∃ n, w' = w.drewN n := by
  have e : steep (fabs Y) (fabs X) = (fop .quo .f64 (fop .mul .f64 4620693217682128896 (fop .mul .f64 (rtN (fop .quo .f64 (fabs Y) (fabs X)) 3) (serA (fop .mul .f64 (rtN (fop .quo .f64 (fabs Y) (fabs X)) 3) (rtN (fop .quo .f64 (fabs Y) (fabs X)) 3)) 8))) 4618760256179416344) := by unfold steep; rw [hg, if_neg (by decide)]; rfl
  have EE := Lib.hid e
  clear e
  have hqy : fcmp .neq .f64 (fop .sub .f64 Y Y) 0 = false := by rw [fcmp_neq_not, sub_self, hy]; rfl
  have hqx : fcmp .neq .f64 (fop .sub .f64 X X) 0 = false := by rw [fcmp_neq_not, sub_self, hx]; rfl
  clear hx hy
  have ha := iy.abs
  have hb := ix.abs
  go_enter Try.func107, Try.ntmps107
  go_wp2_with (first | (apply wpList_fcmp; rfl; rfl; rfl; rfl; (first | with_reducible assumption | exact Is.const rfl); (first | with_reducible assumption | exact Is.const rfl); (first | with_reducible assumption | exact rfl)) | (apply wpList_same; rfl; rfl; exact U64; exact U64) | (apply wpList_farith; rfl; rfl; rfl; rfl; (first | with_reducible assumption | exact Is.const rfl); (first | with_reducible assumption | exact Is.const rfl); intro r n hr) | (go_at_call 111; refine (abs_any _ (l64 (by assumption)) _).mono ?_; rintro e w' ⟨rfl, rfl⟩; have ha := Is.abs (by assumption)))
  go_loopw [8, 9] (fun p k wr => ∃ (j : Nat) (K : Int), j ≤ 3 ∧ K = (j : Int) ∧ k = .int .i64 K ∧ (∃ r, p = .float .f64 r ∧ Is .f64 r (rtN (fop .quo .f64 (fabs Y) (fabs X)) j)) ∧ ∃ n, wr = w.drewN n) (fun _ k _ => (3 - intOf k).toNat)
  case atStart => exact ⟨0, 0, by omega, by omega, rfl, ⟨_, rfl, by assumption⟩, _, rfl⟩
  case round =>
    obtain ⟨j, K, hj, hK, rfl, ⟨r, rfl, hr⟩, n, rfl⟩ := hrel
    have hcase : j = 0 ∨ j = 1 ∨ j = 2 ∨ j = 3 := by omega
    rcases hcase with rfl | rfl | rfl | rfl
    · obtain rfl : K = 0 := by omega
      clear hK hj EE
      go_wp2_with (first | (apply wpList_fcmp; rfl; rfl; rfl; rfl; (first | with_reducible assumption | exact Is.const rfl); (first | with_reducible assumption | exact Is.const rfl); (first | with_reducible assumption | exact rfl)) | (apply wpList_same; rfl; rfl; exact U64; exact U64) | (apply wpList_farith; rfl; rfl; rfl; rfl; (first | with_reducible assumption | exact Is.const rfl); (first | with_reducible assumption | exact Is.const rfl); intro r n hr) | (go_at_call 108; refine (sqrt_any _ _ (by assumption) _).mono ?_; rintro e w' ⟨⟨r, rfl, hr⟩, n, rfl⟩))
      go_roundw
      case rel => exact ⟨1, 1, by omega, by omega, rfl, ⟨_, rfl, by assumption⟩, _, rfl⟩
      case measure => simp [intOf]
    · obtain rfl : K = 1 := by omega
      clear hK hj EE
      go_wp2_with (first | (apply wpList_fcmp; rfl; rfl; rfl; rfl; (first | with_reducible assumption | exact Is.const rfl); (first | with_reducible assumption | exact Is.const rfl); (first | with_reducible assumption | exact rfl)) | (apply wpList_same; rfl; rfl; exact U64; exact U64) | (apply wpList_farith; rfl; rfl; rfl; rfl; (first | with_reducible assumption | exact Is.const rfl); (first | with_reducible assumption | exact Is.const rfl); intro r n hr) | (go_at_call 108; refine (sqrt_any _ _ (by assumption) _).mono ?_; rintro e w' ⟨⟨r, rfl, hr⟩, n, rfl⟩))
      go_roundw
      case rel => exact ⟨2, 2, by omega, by omega, rfl, ⟨_, rfl, by assumption⟩, _, rfl⟩
      case measure => simp [intOf]
    · obtain rfl : K = 2 := by omega
      clear hK hj EE
      go_wp2_with (first | (apply wpList_fcmp; rfl; rfl; rfl; rfl; (first | with_reducible assumption | exact Is.const rfl); (first | with_reducible assumption | exact Is.const rfl); (first | with_reducible assumption | exact rfl)) | (apply wpList_same; rfl; rfl; exact U64; exact U64) | (apply wpList_farith; rfl; rfl; rfl; rfl; (first | with_reducible assumption | exact Is.const rfl); (first | with_reducible assumption | exact Is.const rfl); intro r n hr) | (go_at_call 108; refine (sqrt_any _ _ (by assumption) _).mono ?_; rintro e w' ⟨⟨r, rfl, hr⟩, n, rfl⟩))
      go_roundw
      case rel => exact ⟨3, 3, by omega, by omega, rfl, ⟨_, rfl, by assumption⟩, _, rfl⟩
      case measure => simp [intOf]
    · obtain rfl : K = 3 := by omega
      clear hK hj
      go_wp2_with (first | (apply wpList_fcmp; rfl; rfl; rfl; rfl; (first | with_reducible assumption | exact Is.const rfl); (first | with_reducible assumption | exact Is.const rfl); (first | with_reducible assumption | exact rfl)) | (apply wpList_same; rfl; rfl; exact U64; exact U64) | (apply wpList_farith; rfl; rfl; rfl; rfl; (first | with_reducible assumption | exact Is.const rfl); (first | with_reducible assumption | exact Is.const rfl); intro r n hr))
      go_loopw [11, 12] (fun p k wr => ∃ (j : Nat) (K : Int), j ≤ 8 ∧ K = 15 - 2 * (j : Int) ∧ k = .int .i64 K ∧ (∃ r, p = .float .f64 r ∧ Is .f64 r (serA (fop .mul .f64 (rtN (fop .quo .f64 (fabs Y) (fabs X)) 3) (rtN (fop .quo .f64 (fabs Y) (fabs X)) 3)) j)) ∧ ∃ n, wr = w.drewN n) (fun _ k _ => (1 + intOf k).toNat)
      case atStart => exact ⟨0, 15, by omega, by omega, rfl, ⟨_, rfl, Is.const rfl⟩, _, rfl⟩
      case round =>
        obtain ⟨j, K, hj, hK, rfl, ⟨r, rfl, hr⟩, n, rfl⟩ := hrel
        have hcase : j = 0 ∨ j = 1 ∨ j = 2 ∨ j = 3 ∨ j = 4 ∨ j = 5 ∨ j = 6 ∨ j = 7 ∨ j = 8 := by omega
        rcases hcase with rfl | rfl | rfl | rfl | rfl | rfl | rfl | rfl | rfl
        · obtain rfl : K = 15 := by omega
          clear hK hj EE
          go_wp2_with (first | (apply wpList_fcmp; rfl; rfl; rfl; rfl; (first | with_reducible assumption | exact Is.const rfl); (first | with_reducible assumption | exact Is.const rfl); (first | with_reducible assumption | exact rfl)) | (apply wpList_same; rfl; rfl; exact U64; exact U64) | (apply wpList_farith; rfl; rfl; rfl; rfl; (first | with_reducible assumption | with_reducible exact intWord_is _ | exact Is.const rfl); (first | with_reducible assumption | with_reducible exact intWord_is _ | exact Is.const rfl); intro r n hr))
          go_roundw
          case rel => exact ⟨1, 13, by omega, by omega, rfl, ⟨_, rfl, by assumption⟩, _, rfl⟩
          case measure => simp [intOf]
        · obtain rfl : K = 13 := by omega
          clear hK hj EE
          go_wp2_with (first | (apply wpList_fcmp; rfl; rfl; rfl; rfl; (first | with_reducible assumption | exact Is.const rfl); (first | with_reducible assumption | exact Is.const rfl); (first | with_reducible assumption | exact rfl)) | (apply wpList_same; rfl; rfl; exact U64; exact U64) | (apply wpList_farith; rfl; rfl; rfl; rfl; (first | with_reducible assumption | with_reducible exact intWord_is _ | exact Is.const rfl); (first | with_reducible assumption | with_reducible exact intWord_is _ | exact Is.const rfl); intro r n hr))
          go_roundw
          case rel => exact ⟨2, 11, by omega, by omega, rfl, ⟨_, rfl, by assumption⟩, _, rfl⟩
          case measure => simp [intOf]
        · obtain rfl : K = 11 := by omega
          clear hK hj EE
          go_wp2_with (first | (apply wpList_fcmp; rfl; rfl; rfl; rfl; (first | with_reducible assumption | exact Is.const rfl); (first | with_reducible assumption | exact Is.const rfl); (first | with_reducible assumption | exact rfl)) | (apply wpList_same; rfl; rfl; exact U64; exact U64) | (apply wpList_farith; rfl; rfl; rfl; rfl; (first | with_reducible assumption | with_reducible exact intWord_is _ | exact Is.const rfl); (first | with_reducible assumption | with_reducible exact intWord_is _ | exact Is.const rfl); intro r n hr))
          go_roundw
          case rel => exact ⟨3, 9, by omega, by omega, rfl, ⟨_, rfl, by assumption⟩, _, rfl⟩
          case measure => simp [intOf]
        · obtain rfl : K = 9 := by omega
          clear hK hj EE
          go_wp2_with (first | (apply wpList_fcmp; rfl; rfl; rfl; rfl; (first | with_reducible assumption | exact Is.const rfl); (first | with_reducible assumption | exact Is.const rfl); (first | with_reducible assumption | exact rfl)) | (apply wpList_same; rfl; rfl; exact U64; exact U64) | (apply wpList_farith; rfl; rfl; rfl; rfl; (first | with_reducible assumption | with_reducible exact intWord_is _ | exact Is.const rfl); (first | with_reducible assumption | with_reducible exact intWord_is _ | exact Is.const rfl); intro r n hr))
          go_roundw
          case rel => exact ⟨4, 7, by omega, by omega, rfl, ⟨_, rfl, by assumption⟩, _, rfl⟩
          case measure => simp [intOf]
        · obtain rfl : K = 7 := by omega
          clear hK hj EE
          go_wp2_with (first | (apply wpList_fcmp; rfl; rfl; rfl; rfl; (first | with_reducible assumption | exact Is.const rfl); (first | with_reducible assumption | exact Is.const rfl); (first | with_reducible assumption | exact rfl)) | (apply wpList_same; rfl; rfl; exact U64; exact U64) | (apply wpList_farith; rfl; rfl; rfl; rfl; (first | with_reducible assumption | with_reducible exact intWord_is _ | exact Is.const rfl); (first | with_reducible assumption | with_reducible exact intWord_is _ | exact Is.const rfl); intro r n hr))
          go_roundw
          case rel => exact ⟨5, 5, by omega, by omega, rfl, ⟨_, rfl, by assumption⟩, _, rfl⟩
          case measure => simp [intOf]
        · obtain rfl : K = 5 := by omega
          clear hK hj EE
          go_wp2_with (first | (apply wpList_fcmp; rfl; rfl; rfl; rfl; (first | with_reducible assumption | exact Is.const rfl); (first | with_reducible assumption | exact Is.const rfl); (first | with_reducible assumption | exact rfl)) | (apply wpList_same; rfl; rfl; exact U64; exact U64) | (apply wpList_farith; rfl; rfl; rfl; rfl; (first | with_reducible assumption | with_reducible exact intWord_is _ | exact Is.const rfl); (first | with_reducible assumption | with_reducible exact intWord_is _ | exact Is.const rfl); intro r n hr))
          go_roundw
          case rel => exact ⟨6, 3, by omega, by omega, rfl, ⟨_, rfl, by assumption⟩, _, rfl⟩
          case measure => simp [intOf]
        · obtain rfl : K = 3 := by omega
          clear hK hj EE
          go_wp2_with (first | (apply wpList_fcmp; rfl; rfl; rfl; rfl; (first | with_reducible assumption | exact Is.const rfl); (first | with_reducible assumption | exact Is.const rfl); (first | with_reducible assumption | exact rfl)) | (apply wpList_same; rfl; rfl; exact U64; exact U64) | (apply wpList_farith; rfl; rfl; rfl; rfl; (first | with_reducible assumption | with_reducible exact intWord_is _ | exact Is.const rfl); (first | with_reducible assumption | with_reducible exact intWord_is _ | exact Is.const rfl); intro r n hr))
          go_roundw
          case rel => exact ⟨7, 1, by omega, by omega, rfl, ⟨_, rfl, by assumption⟩, _, rfl⟩
          case measure => simp [intOf]
        · obtain rfl : K = 1 := by omega
          clear hK hj EE
          go_wp2_with (first | (apply wpList_fcmp; rfl; rfl; rfl; rfl; (first | with_reducible assumption | exact Is.const rfl); (first | with_reducible assumption | exact Is.const rfl); (first | with_reducible assumption | exact rfl)) | (apply wpList_same; rfl; rfl; exact U64; exact U64) | (apply wpList_farith; rfl; rfl; rfl; rfl; (first | with_reducible assumption | with_reducible exact intWord_is _ | exact Is.const rfl); (first | with_reducible assumption | with_reducible exact intWord_is _ | exact Is.const rfl); intro r n hr))
          go_roundw
          case rel => exact ⟨8, -1, by omega, by omega, rfl, ⟨_, rfl, by assumption⟩, _, rfl⟩
          case measure => simp [intOf]
        · obtain rfl : K = -1 := by omega
          clear hK hj
          by_cases h1 : fcmp .lss .f64 X 0 = true
          · by_cases h2 : fcmp .lss .f64 Y 0 = true
            · go_wp2_with (first | (apply wpList_fcmp; rfl; rfl; rfl; rfl; (first | with_reducible assumption | exact Is.const rfl); (first | with_reducible assumption | exact Is.const rfl); (first | with_reducible assumption | exact rfl)) | (apply wpList_same; rfl; rfl; exact U64; exact U64) | (apply wpList_fneg; rfl; rfl; have hg := Is.fneg (by assumption)) | (apply wpList_farith; rfl; rfl; rfl; rfl; (first | with_reducible assumption | exact Is.const rfl); (first | with_reducible assumption | exact Is.const rfl); intro r n hr))
              go_ret
              exact ⟨⟨_, rfl, by rw [angW_eq EE.out h1 h2]; assumption⟩, _, rfl⟩
            · replace h2 : fcmp .lss .f64 Y 0 = false := by simpa using h2
              go_wp2_with (first | (apply wpList_fcmp; rfl; rfl; rfl; rfl; (first | with_reducible assumption | exact Is.const rfl); (first | with_reducible assumption | exact Is.const rfl); (first | with_reducible assumption | exact rfl)) | (apply wpList_same; rfl; rfl; exact U64; exact U64) | (apply wpList_fneg; rfl; rfl; have hg := Is.fneg (by assumption)) | (apply wpList_farith; rfl; rfl; rfl; rfl; (first | with_reducible assumption | exact Is.const rfl); (first | with_reducible assumption | exact Is.const rfl); intro r n hr))
              go_ret
              exact ⟨⟨_, rfl, by rw [angW_eq EE.out h1 h2]; assumption⟩, _, rfl⟩
          · replace h1 : fcmp .lss .f64 X 0 = false := by simpa using h1
            by_cases h2 : fcmp .lss .f64 Y 0 = true
            · go_wp2_with (first | (apply wpList_fcmp; rfl; rfl; rfl; rfl; (first | with_reducible assumption | exact Is.const rfl); (first | with_reducible assumption | exact Is.const rfl); (first | with_reducible assumption | exact rfl)) | (apply wpList_same; rfl; rfl; exact U64; exact U64) | (apply wpList_fneg; rfl; rfl; have hg := Is.fneg (by assumption)) | (apply wpList_farith; rfl; rfl; rfl; rfl; (first | with_reducible assumption | exact Is.const rfl); (first | with_reducible assumption | exact Is.const rfl); intro r n hr))
              go_ret
              exact ⟨⟨_, rfl, by rw [angW_eq EE.out h1 h2]; assumption⟩, _, rfl⟩
            · replace h2 : fcmp .lss .f64 Y 0 = false := by simpa using h2
              go_wp2_with (first | (apply wpList_fcmp; rfl; rfl; rfl; rfl; (first | with_reducible assumption | exact Is.const rfl); (first | with_reducible assumption | exact Is.const rfl); (first | with_reducible assumption | exact rfl)) | (apply wpList_same; rfl; rfl; exact U64; exact U64) | (apply wpList_fneg; rfl; rfl; have hg := Is.fneg (by assumption)) | (apply wpList_farith; rfl; rfl; rfl; rfl; (first | with_reducible assumption | exact Is.const rfl); (first | with_reducible assumption | exact Is.const rfl); intro r n hr))
              go_ret
              exact ⟨⟨_, rfl, by rw [angW_eq EE.out h1 h2]; assumption⟩, _, rfl⟩

theorem sAngW_any (y Y x X : Nat) (iy : Is .f64 y Y) (ix : Is .f64 x X) (hy : fin .f64 Y = true) (hx : fin .f64 X = true) (hz : (fcmp .eql .f64 X 0 && fcmp .eql .f64 Y 0) = false) (w : World) :
    Calls Try.prog 107 #[.float .f64 y, .float .f64 x] w fun e w' => (∃ r, e = .returned (.float .f64 r) ∧ Is .f64 r (angW Y X)) ∧ ∃ n, w' = w.drewN n := by
  by_cases zx : fcmp .eql .f64 X 0 = true
  · rw [zx, Bool.true_and] at hz
    by_cases hg : fcmp .gtr .f64 (fabs Y) (fabs X) = true
    · exact sAng_tt y Y x X iy ix hy hx zx hz hg w
    · exact sAng_tf y Y x X iy ix hy hx zx hz (by simpa using hg) w
  · replace zx : fcmp .eql .f64 X 0 = false := by simpa using zx
    by_cases hg : fcmp .gtr .f64 (fabs Y) (fabs X) = true
    · exact sAng_ft y Y x X iy ix hy hx zx hg w
    · exact sAng_ff y Y x X iy ix hy hx zx (by simpa using hg) w

theorem sAngle_any (y Y x X : Nat) (iy : Is .f32 y Y) (ix : Is .f32 x X) (w : World) :
    Calls Try.prog 75 #[.float .f32 y, .float .f32 x] w fun e w' => (∃ r, e = .returned (.float .f32 r) ∧ Is .f32 r (angT Y X)) ∧ ∃ n, w' = w.drewN n := by
  by_cases hx : fin .f32 X = true
  · by_cases hy : fin .f32 Y = true
    · have hx2 : fin .f64 (wid X) = true := by rw [fin_wid, hx]
      have hy2 : fin .f64 (wid Y) = true := by rw [fin_wid, hy]
      by_cases zz : (fcmp .eql .f32 X 0 && fcmp .eql .f32 Y 0) = true
      · have e : angT Y X = nar 0 := by unfold angT; rw [if_pos (by rw [hx, hy]; rfl), if_pos zz, nar_zero]
        rw [e]; clear e
        rw [Bool.and_eq_true] at zz
        have z1 : fcmp .eql .f64 (wid X) 0 = true := by rw [eql_wid hx, zz.1]
        have z2 : fcmp .eql .f64 (wid Y) 0 = true := by rw [eql_wid hy, zz.2]
        go_enter Try.func75, Try.ntmps75
        go_wp2_with (first | (apply wpList_wid; rfl; rfl; (first | with_reducible assumption | exact Is.const rfl); exact U32; exact U64; intro r n hr) | (go_at_call 107; refine (sAngZero _ _ _ _ (by assumption) (by assumption) hy2 hx2 z1 z2 _).mono ?_; rintro e w' ⟨⟨r, rfl, hr⟩, n, rfl⟩) | (go_at_call 106; refine (sNarrow_any _ _ (by assumption) fits_zero _).mono ?_; rintro e w' ⟨⟨r, rfl, hr⟩, n, rfl⟩))
        go_ret
        exact ⟨⟨_, rfl, by assumption⟩, _, rfl⟩
      · have e : angT Y X = nar (angW (wid Y) (wid X)) := by unfold angT; rw [if_pos (by rw [hx, hy]; rfl), if_neg zz]
        have hf := angT_fits hx hy (by simpa using zz)
        have hz : (fcmp .eql .f64 (wid X) 0 && fcmp .eql .f64 (wid Y) 0) = false := by rw [eql_wid hx, eql_wid hy]; simpa using zz
        rw [e]; clear e
        go_enter Try.func75, Try.ntmps75
        go_wp2_with (first | (apply wpList_wid; rfl; rfl; (first | with_reducible assumption | exact Is.const rfl); exact U32; exact U64; intro r n hr) | (go_at_call 107; refine (sAngW_any _ _ _ _ (by assumption) (by assumption) hy2 hx2 hz _).mono ?_; rintro e w' ⟨⟨r, rfl, hr⟩, n, rfl⟩) | (go_at_call 106; refine (sNarrow_any _ _ (by assumption) hf _).mono ?_; rintro e w' ⟨⟨r, rfl, hr⟩, n, rfl⟩))
        go_ret
        exact ⟨⟨_, rfl, by assumption⟩, _, rfl⟩
    · have hy' : fin .f64 (wid Y) = false := by rw [fin_wid]; simpa using hy
      have e : angT Y X = nar (qn .f64) := by unfold angT; rw [show fin .f32 Y = false by simpa using hy, Bool.and_false, if_neg (by decide), nar_nan]
      rw [e]; clear e hy
      go_enter Try.func75, Try.ntmps75
      go_wp2_with (first | (apply wpList_wid; rfl; rfl; (first | with_reducible assumption | exact Is.const rfl); exact U32; exact U64; intro r n hr) | (go_at_call 107; refine (sAngNaN_y _ _ _ (by assumption) hy' _).mono ?_; rintro e w' ⟨⟨r, rfl, hr⟩, n, rfl⟩) | (go_at_call 106; refine (sNarrow_any _ _ (by assumption) fits_nan _).mono ?_; rintro e w' ⟨⟨r, rfl, hr⟩, n, rfl⟩))
      go_ret
      exact ⟨⟨_, rfl, by assumption⟩, _, rfl⟩
  · have hx' : fin .f64 (wid X) = false := by rw [fin_wid]; simpa using hx
    have e : angT Y X = nar (qn .f64) := by unfold angT; rw [show fin .f32 X = false by simpa using hx, Bool.false_and, if_neg (by decide), nar_nan]
    rw [e]; clear e hx
    by_cases hy : fin .f64 (wid Y) = true
    · go_enter Try.func75, Try.ntmps75
      go_wp2_with (first | (apply wpList_wid; rfl; rfl; (first | with_reducible assumption | exact Is.const rfl); exact U32; exact U64; intro r n hr) | (go_at_call 107; refine (sAngNaN_x _ _ _ _ (by assumption) (by assumption) hy hx' _).mono ?_; rintro e w' ⟨⟨r, rfl, hr⟩, n, rfl⟩) | (go_at_call 106; refine (sNarrow_any _ _ (by assumption) fits_nan _).mono ?_; rintro e w' ⟨⟨r, rfl, hr⟩, n, rfl⟩))
      go_ret
      exact ⟨⟨_, rfl, by assumption⟩, _, rfl⟩
    · have hy' : fin .f64 (wid Y) = false := by simpa using hy
      go_enter Try.func75, Try.ntmps75
      go_wp2_with (first | (apply wpList_wid; rfl; rfl; (first | with_reducible assumption | exact Is.const rfl); exact U32; exact U64; intro r n hr) | (go_at_call 107; refine (sAngNaN_y _ _ _ (by assumption) hy' _).mono ?_; rintro e w' ⟨⟨r, rfl, hr⟩, n, rfl⟩) | (go_at_call 106; refine (sNarrow_any _ _ (by assumption) fits_nan _).mono ?_; rintro e w' ⟨⟨r, rfl, hr⟩, n, rfl⟩))
      go_ret
      exact ⟨⟨_, rfl, by assumption⟩, _, rfl⟩


end Go.Proofs.Ytpnmledanloboaa
