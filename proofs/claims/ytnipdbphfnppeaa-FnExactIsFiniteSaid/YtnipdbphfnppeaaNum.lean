/-
  Chapter 1, single numbers: contracts of the program's functions and of the model's.
-/
import Derived.Test.YtnipdbphfnppeaaMath
namespace Go.Proofs.Ytnipdbphfnppeaa
open Go.Fl Go.RowKit

theorem lt64 {x X : Nat} (h : Is .f64 x X) : x < 18446744073709551616 := by have := h.lt; rwa [w64] at this
theorem lt32 {x X : Nat} (h : Is .f32 x X) : x < 4294967296 := by have := h.lt; rwa [w32] at this

/-! ### bits -/
theorem bits_of {x X : Nat} (ix : Is .f32 x X) (h : nan .f32 X = false) : bits32 X = x := by
  unfold bits32; rw [h]; exact (ix.same h).symm

theorem wrap_nat (x : Nat) (h : x < 4294967296) : wrap64 (x : Int) = (x : Int) := by unfold wrap64; omega

theorem sBits_any (x X : Nat) (ix : Is .f32 x X) (w : World) : Calls Try.prog 29 #[.float .f32 x] w fun e w' => e = .returned (.int .i64 (bits32 X : Int)) ∧ w = w' := by
  have hl := lt32 ix
  by_cases hn : nan .f32 X = true
  · have hc : fcmp .neq .f32 X X = true := by rw [fcmp_neq_self, hn]
    have e : bits32 X = 2143289344 := by unfold bits32; rw [if_pos hn]
    rw [e]
    clear e hn
    go_enter Try.func29, Try.ntmps29
    go_wp2_with (apply wpList_fcmp; rfl; rfl; rfl; rfl; (first | with_reducible assumption | exact Is.const rfl); (first | with_reducible assumption | exact Is.const rfl); (first | with_reducible assumption | exact rfl))
    go_ret
    exact ⟨rfl, rfl⟩
  · have hn' : nan .f32 X = false := by simpa using hn
    have hc : fcmp .neq .f32 X X = false := by rw [fcmp_neq_self, hn']
    rw [bits_of ix hn']
    clear hn hn'
    go_enter Try.func29, Try.ntmps29
    go_wp2_with (apply wpList_fcmp; rfl; rfl; rfl; rfl; (first | with_reducible assumption | exact Is.const rfl); (first | with_reducible assumption | exact Is.const rfl); (first | with_reducible assumption | exact rfl))
    go_ret
    exact ⟨rfl, rfl⟩

theorem iBitsOf_any (x X : Nat) (ix : Is .f32 x X) (w : World) : Calls Try.prog 15 #[.float .f32 x] w fun e w' => e = .returned (.int .i64 (bits32 X : Int)) ∧ w = w' := by
  have hl := lt32 ix
  by_cases hn : nan .f32 X = true
  · have hc : fcmp .neq .f32 X X = true := by rw [fcmp_neq_self, hn]
    have e : bits32 X = 2143289344 := by unfold bits32; rw [if_pos hn]
    rw [e]
    clear e hn
    go_enter Try.func15, Try.ntmps15
    go_wp2_with (apply wpList_fcmp; rfl; rfl; rfl; rfl; (first | with_reducible assumption | exact Is.const rfl); (first | with_reducible assumption | exact Is.const rfl); (first | with_reducible assumption | exact rfl))
    go_ret
    exact ⟨rfl, rfl⟩
  · have hn' : nan .f32 X = false := by simpa using hn
    have hc : fcmp .neq .f32 X X = false := by rw [fcmp_neq_self, hn']
    rw [bits_of ix hn']
    clear hn hn'
    go_enter Try.func15, Try.ntmps15
    go_wp2_with (apply wpList_fcmp; rfl; rfl; rfl; rfl; (first | with_reducible assumption | exact Is.const rfl); (first | with_reducible assumption | exact Is.const rfl); (first | with_reducible assumption | exact rfl))
    go_ret
    exact ⟨rfl, rfl⟩

theorem sBitsOf_any (x X : Nat) (ix : Is .f32 x X) (w : World) : Calls Try.prog 14 #[.float .f32 x] w fun e w' => e = .returned (.int .i64 (bits32 X : Int)) ∧ w = w' := by
  go_enter Try.func14, Try.ntmps14
  go_wp2_with (go_at_call 29; refine (sBits_any _ _ ix _).mono ?_; rintro e w' ⟨rfl, rfl⟩)
  go_ret
  exact ⟨rfl, rfl⟩

/-! ### same -/
theorem sSame_any (x X y Y : Nat) (ix : Is .f32 x X) (iy : Is .f32 y Y) (w : World) : Calls Try.prog 25 #[.float .f32 x, .float .f32 y] w fun e w' => e = .returned (.bool (decide (X = Y))) ∧ w = w' := by
  have e : ((bits32 X : Int) == (bits32 Y : Int)) = decide (X = Y) := by
    rw [Bool.eq_iff_iff]; simp [Int.ofNat_inj, bits32_eq ix.canon iy.canon]
  have H := Lib.hid e; clear e
  go_enter Try.func25, Try.ntmps25
  go_wp2_with (go_at_call 29; refine (sBits_any _ _ (by assumption) _).mono ?_; rintro e w' ⟨rfl, rfl⟩)
  go_ret
  exact ⟨congrArg (fun b => Ending.returned (.bool b)) H.out, rfl⟩

theorem sSameNumber_any (x X y Y : Nat) (ix : Is .f32 x X) (iy : Is .f32 y Y) (w : World) : Calls Try.prog 10 #[.float .f32 x, .float .f32 y] w fun e w' => e = .returned (.bool (decide (X = Y))) ∧ w = w' := by
  go_enter Try.func10, Try.ntmps10
  go_wp2_with (go_at_call 25; refine (sSame_any _ _ _ _ ix iy _).mono ?_; rintro e w' ⟨rfl, rfl⟩)
  go_ret
  exact ⟨rfl, rfl⟩

theorem hasSign_any (x X : Nat) (ix : Is .f32 x X) (hn : nan .f32 X = false) (w : World) : Calls Try.prog 26 #[.float .f32 x] w fun e w' => e = .returned (.bool (neg FloatKind.f32.format X)) ∧ ∃ n, w' = w.drewN n := by
  have key : ∀ r, Is .f64 r (wid X) → decide (2 ^ 63 ≤ r) = neg FloatKind.f32.format X := by
    intro r hr
    have e := hr.same (by rw [nan_wid, hn])
    rw [← neg64 hr.lt, e, neg_wid hn]
  go_enter Try.func26, Try.ntmps26
  go_wp2_with (first | (apply wpList_wid; rfl; rfl; (first | with_reducible assumption | exact Is.const rfl); exact U32; exact U64; intro r n hr) | (go_at_call 38; refine (signbit_any _ (lt64 hr) _).mono ?_; rintro e w' ⟨rfl, rfl⟩))
  go_ret
  exact ⟨rfl, _, rfl⟩

theorem iSameNumber_any (x X y Y : Nat) (ix : Is .f32 x X) (iy : Is .f32 y Y) (w : World) : Calls Try.prog 11 #[.float .f32 x, .float .f32 y] w fun e w' => e = .returned (.bool (decide (X = Y))) ∧ ∃ n, w' = w.drewN n := by
  by_cases hx : nan .f32 X = true
  · have hcx : fcmp .neq .f32 X X = true := by rw [fcmp_neq_self, hx]
    by_cases hy : nan .f32 Y = true
    · have hcy : fcmp .neq .f32 Y Y = true := by rw [fcmp_neq_self, hy]
      have e : decide (X = Y) = true := by
        have := ix.canon; have := iy.canon
        rw [cn_nan _ hx] at *; rw [cn_nan _ hy] at *
        exact decide_eq_true (by omega)
      rw [e]; clear e hx hy
      go_enter Try.func11, Try.ntmps11
      go_wp2_with (apply wpList_fcmp; rfl; rfl; rfl; rfl; (first | with_reducible assumption | exact Is.const rfl); (first | with_reducible assumption | exact Is.const rfl); (first | with_reducible assumption | exact rfl))
      go_ret
      exact ⟨rfl, 0, rfl⟩
    · have hy' : nan .f32 Y = false := by simpa using hy
      have hcy : fcmp .neq .f32 Y Y = false := by rw [fcmp_neq_self, hy']
      have e : decide (X = Y) = false := decide_eq_false (by intro h; rw [h] at hx; exact hy hx)
      rw [e]; clear e hx hy hy'
      go_enter Try.func11, Try.ntmps11
      go_wp2_with (apply wpList_fcmp; rfl; rfl; rfl; rfl; (first | with_reducible assumption | exact Is.const rfl); (first | with_reducible assumption | exact Is.const rfl); (first | with_reducible assumption | exact rfl))
      go_ret
      exact ⟨rfl, 0, rfl⟩
  · have hx' : nan .f32 X = false := by simpa using hx
    have hcx : fcmp .neq .f32 X X = false := by rw [fcmp_neq_self, hx']
    by_cases hy : nan .f32 Y = true
    · have hcy : fcmp .neq .f32 Y Y = true := by rw [fcmp_neq_self, hy]
      have e : decide (X = Y) = false := decide_eq_false (by intro h; rw [← h] at hy; exact hx hy)
      rw [e]; clear e hx hy hx'
      go_enter Try.func11, Try.ntmps11
      go_wp2_with (apply wpList_fcmp; rfl; rfl; rfl; rfl; (first | with_reducible assumption | exact Is.const rfl); (first | with_reducible assumption | exact Is.const rfl); (first | with_reducible assumption | exact rfl))
      go_ret
      exact ⟨rfl, 0, rfl⟩
    · have hy' : nan .f32 Y = false := by simpa using hy
      have hcy : fcmp .neq .f32 Y Y = false := by rw [fcmp_neq_self, hy']
      have hsx : X = x := (ix.same hx').symm
      have hsy : Y = y := (iy.same hy').symm
      have e := same_eq (by rw [hsx]; exact ix.lt) (by rw [hsy]; exact iy.lt) hx' hy'
      rw [← e]; clear e hx hy hsx hsy
      by_cases hc : fcmp .eql .f32 X Y = true
      · rw [hc, Bool.true_and]
        go_enter Try.func11, Try.ntmps11
        go_wp2_with (first | (apply wpList_fcmp; rfl; rfl; rfl; rfl; (first | with_reducible assumption | exact Is.const rfl); (first | with_reducible assumption | exact Is.const rfl); (first | with_reducible assumption | exact rfl)) | (go_at_call 26; refine (hasSign_any _ _ (by assumption) (by assumption) _).mono ?_; rintro e w' ⟨rfl, n, rfl⟩))
        go_ret
        exact ⟨rfl, _, rfl⟩
      · have hc' : fcmp .eql .f32 X Y = false := by simpa using hc
        rw [hc', Bool.false_and]
        clear hc
        go_enter Try.func11, Try.ntmps11
        go_wp2_with (first | (apply wpList_fcmp; rfl; rfl; rfl; rfl; (first | with_reducible assumption | exact Is.const rfl); (first | with_reducible assumption | exact Is.const rfl); (first | with_reducible assumption | exact rfl)))
        go_ret
        exact ⟨rfl, 0, rfl⟩

/-! ### finite -/
theorem sFinite_any (x X : Nat) (ix : Is .f32 x X) (w : World) : Calls Try.prog 27 #[.float .f32 x] w fun e w' => e = .returned (.bool (fin .f32 X)) ∧ ∃ n, w' = w.drewN n := by
  rw [← sub_self]
  go_enter Try.func27, Try.ntmps27
  go_wp2_with (first | (apply wpList_fcmp; rfl; rfl; rfl; rfl; (first | with_reducible assumption | exact Is.const rfl); (first | with_reducible assumption | exact Is.const rfl); (first | with_reducible assumption | exact rfl)) | (apply wpList_farith; rfl; rfl; rfl; rfl; (first | with_reducible assumption | exact Is.const rfl); (first | with_reducible assumption | exact Is.const rfl); intro r n hr))
  go_ret
  exact ⟨rfl, _, rfl⟩

theorem sIsFinite_any (x X : Nat) (ix : Is .f32 x X) (w : World) : Calls Try.prog 12 #[.float .f32 x] w fun e w' => e = .returned (.bool (fin .f32 X)) ∧ ∃ n, w' = w.drewN n := by
  go_enter Try.func12, Try.ntmps12
  go_wp2_with (go_at_call 27; refine (sFinite_any _ _ ix _).mono ?_; rintro e w' ⟨rfl, n, rfl⟩)
  go_ret
  exact ⟨rfl, _, rfl⟩

theorem iWide_any (x X : Nat) (ix : Is .f64 x X) (w : World) : Calls Try.prog 28 #[.float .f64 x] w fun e w' => e = .returned (.bool (fin .f64 X)) ∧ w = w' := by
  rw [← finWide]
  by_cases hc : fcmp .gtr .f64 (fabs X) 9218868437227405311 = true
  · rw [hc]
    go_enter Try.func28, Try.ntmps28
    go_wp2_with (first | (go_at_call 39; refine (isInf_any _ _ ix _).mono ?_; rintro e w' ⟨rfl, rfl⟩) | (go_at_call 40; refine (isNaN_any _ _ ix _).mono ?_; rintro e w' ⟨rfl, rfl⟩))
    go_ret
    exact ⟨rfl, rfl⟩
  · have hc' : fcmp .gtr .f64 (fabs X) 9218868437227405311 = false := by simpa using hc
    clear hc
    rw [hc']
    go_enter Try.func28, Try.ntmps28
    go_wp2_with (first | (go_at_call 39; refine (isInf_any _ _ ix _).mono ?_; rintro e w' ⟨rfl, rfl⟩) | (go_at_call 40; refine (isNaN_any _ _ ix _).mono ?_; rintro e w' ⟨rfl, rfl⟩))
    go_ret
    exact ⟨by simp, rfl⟩

theorem iIsFinite_any (x X : Nat) (ix : Is .f32 x X) (w : World) : Calls Try.prog 13 #[.float .f32 x] w fun e w' => e = .returned (.bool (fin .f32 X)) ∧ ∃ n, w' = w.drewN n := by
  rw [← fin_wid]
  go_enter Try.func13, Try.ntmps13
  go_wp2_with (first | (apply wpList_wid; rfl; rfl; (first | with_reducible assumption | exact Is.const rfl); exact U32; exact U64; intro r n hr) | (go_at_call 28; refine (iWide_any _ _ (by assumption) _).mono ?_; rintro e w' ⟨rfl, rfl⟩))
  go_ret
  exact ⟨rfl, _, rfl⟩

/-! ### the laws' own comparison -/
theorem sameFloat_any (a b A : Nat) (ia : Is .f64 a A) (ib : Is .f64 b A) (w : World) : Calls Try.prog 18 #[.float .f64 a, .float .f64 b] w fun e w' => e = .returned (.bool true) ∧ ∃ n, w' = w.drewN n := by
  by_cases hn : nan .f64 A = true
  · have hc : fcmp .neq .f64 A A = true := by rw [fcmp_neq_self, hn]
    clear hn
    go_enter Try.func18, Try.ntmps18
    go_wp2_with (first | (apply wpList_fcmp; rfl; rfl; rfl; rfl; (first | with_reducible assumption | exact Is.const rfl); (first | with_reducible assumption | exact Is.const rfl); (first | with_reducible assumption | exact rfl)) | (apply wpList_farith; rfl; rfl; rfl; rfl; (first | with_reducible assumption | exact Is.const rfl); (first | with_reducible assumption | exact Is.const rfl); intro r n hr))
    go_ret
    exact ⟨rfl, 0, rfl⟩
  · have hn' : nan .f64 A = false := by simpa using hn
    have hc : fcmp .neq .f64 A A = false := by rw [fcmp_neq_self, hn']
    by_cases hz : fcmp .eql .f64 A 0 = true
    · clear hn hn'
      go_enter Try.func18, Try.ntmps18
      go_wp2_with (first | (apply wpList_fcmp; rfl; rfl; rfl; rfl; (first | with_reducible assumption | exact Is.const rfl); (first | with_reducible assumption | exact Is.const rfl); (first | with_reducible assumption | exact rfl)) | (apply wpList_farith; rfl; rfl; rfl; rfl; (first | with_reducible assumption | exact Is.const rfl); (first | with_reducible assumption | exact Is.const rfl); intro r n hr))
      go_ret
      exact ⟨by simp, _, rfl⟩
    · have hz' : fcmp .eql .f64 A 0 = false := by simpa using hz
      have he : fcmp .eql .f64 A A = true := by rw [fcmp_eql_self, hn']; rfl
      clear hn hn' hz
      go_enter Try.func18, Try.ntmps18
      go_wp2_with (first | (apply wpList_fcmp; rfl; rfl; rfl; rfl; (first | with_reducible assumption | exact Is.const rfl); (first | with_reducible assumption | exact Is.const rfl); (first | with_reducible assumption | exact rfl)) | (apply wpList_farith; rfl; rfl; rfl; rfl; (first | with_reducible assumption | exact Is.const rfl); (first | with_reducible assumption | exact Is.const rfl); intro r n hr))
      go_ret
      exact ⟨rfl, 0, rfl⟩

/-! ### from bits -/
theorem sFrom_any (n : Int) (h0 : 0 ≤ n) (h1 : n ≤ 4294967295) (w : World) : Calls Try.prog 32 #[.int .i64 n] w fun e w' => e = .returned (.float .f32 n.toNat) ∧ w = w' := by
  go_enter Try.func32, Try.ntmps32
  go_wp2
  go_ret
  exact ⟨rfl, rfl⟩

theorem l00In_any (n a b : Int) (w : World) : Calls Try.prog 31 #[.int .i64 n, .int .i64 a, .int .i64 b] w fun e w' => e = .returned (.bool (decide (a ≤ n) && decide (n ≤ b))) ∧ w = w' := by
  by_cases h : a ≤ n
  · go_enter Try.func31, Try.ntmps31
    go_wp2
    go_ret
    exact ⟨by simp [h], rfl⟩
  · go_enter Try.func31, Try.ntmps31
    go_wp2
    go_ret
    exact ⟨by simp; omega, rfl⟩

theorem sFromBits_yes (n : Int) (h0 : 0 ≤ n) (h1 : n ≤ 4294967295) (w : World) : Calls Try.prog 16 #[.int .i64 n] w fun e w' => e = .returned (.tuple #[.float .f32 n.toNat, .bool true]) ∧ w = w' := by
  go_enter Try.func16, Try.ntmps16
  go_wp2_with (first | (go_at_call 31; refine (l00In_any _ _ _ _).mono ?_; rintro e w' ⟨rfl, rfl⟩) | (go_at_call 32; refine (sFrom_any _ h0 h1 _).mono ?_; rintro e w' ⟨rfl, rfl⟩))
  go_ret2
  exact ⟨rfl, rfl⟩
theorem sFromBits_no (n : Int) (h : n < 0 ∨ 4294967295 < n) (w : World) : Calls Try.prog 16 #[.int .i64 n] w fun e w' => e = .returned (.tuple #[.float .f32 0, .bool false]) ∧ w = w' := by
  have e : (decide ((0 : Int) ≤ n) && decide (n ≤ 4294967295)) = false := by rw [Bool.eq_false_iff]; simp; omega
  go_enter Try.func16, Try.ntmps16
  go_wp2_with (first | (go_at_call 31; refine (l00In_any _ _ _ _).mono ?_; rw [e]; rintro e w' ⟨rfl, rfl⟩))
  go_ret2
  exact ⟨rfl, rfl⟩
theorem iFromBits_yes (n : Int) (h0 : 0 ≤ n) (h1 : n ≤ 4294967295) (w : World) : Calls Try.prog 17 #[.int .i64 n] w fun e w' => e = .returned (.tuple #[.float .f32 n.toNat, .bool true]) ∧ w = w' := by
  go_enter Try.func17, Try.ntmps17
  go_wp2
  go_ret2
  exact ⟨rfl, rfl⟩
theorem iFromBits_no (n : Int) (h : n < 0 ∨ 4294967295 < n) (w : World) : Calls Try.prog 17 #[.int .i64 n] w fun e w' => e = .returned (.tuple #[.float .f32 0, .bool false]) ∧ w = w' := by
  rcases h with h | h
  · go_enter Try.func17, Try.ntmps17
    go_wp2
    go_ret2
    exact ⟨rfl, rfl⟩
  · have h0 : ¬ n < 0 := by omega
    go_enter Try.func17, Try.ntmps17
    go_wp2
    go_ret2
    exact ⟨rfl, rfl⟩

/-! ### subnormal numbers -/
theorem i64_and_nat (a b : Nat) (ha : a < 9223372036854775808) (hb : b < 9223372036854775808) : bits .and .i64 (a : Int) (b : Int) = ((a &&& b : Nat) : Int) := by
  have hx : a &&& b < 2 ^ 63 := Nat.and_lt_two_pow _ (by omega)
  show IntKind.i64.wrap ((BitVec.ofInt 64 (a : Int) &&& BitVec.ofInt 64 (b : Int)).toNat : Int) = _
  rw [BitVec.toNat_and, ofInt_u64 a (by omega), ofInt_u64 b (by omega), IntKind.wrap_i64]
  omega

theorem sIsSubnormal_any (x X : Nat) (ix : Is .f32 x X) (w : World) : Calls Try.prog 21 #[.float .f32 x] w fun e w' => e = .returned (.bool (sub32 X)) ∧ w = w' := by
  have hl : X < 4294967296 := by have := ix.lt'; rwa [w32] at this
  have hb : bits32 X < 4294967296 := bits32_lt (by rw [w32]; exact hl)
  have hm : (bits .and .i64 ((bits32 X : Nat) : Int) 2139095040 == 0) = decide (bits32 X &&& 2139095040 = 0) := by
    rw [show (2139095040 : Int) = ((2139095040 : Nat) : Int) from rfl, i64_and_nat _ _ (by omega) (by decide), Bool.eq_iff_iff]; simp
  rw [← sub_spec]
  have H := Lib.hid hm; clear hm
  by_cases hz : fcmp .neq .f32 X 0 = true
  · rw [hz, Bool.true_and, ← H.out]
    go_enter Try.func21, Try.ntmps21
    go_wp2_with (first | (apply wpList_fcmp; rfl; rfl; rfl; rfl; (first | with_reducible assumption | exact Is.const rfl); (first | with_reducible assumption | exact Is.const rfl); (first | with_reducible assumption | exact rfl)) | (go_at_call 29; refine (sBits_any _ _ ix _).mono ?_; rintro e w' ⟨rfl, rfl⟩))
    go_ret
    exact ⟨rfl, rfl⟩
  · have hz' : fcmp .neq .f32 X 0 = false := by simpa using hz
    rw [hz', Bool.false_and]
    clear hz
    go_enter Try.func21, Try.ntmps21
    go_wp2_with (first | (apply wpList_fcmp; rfl; rfl; rfl; rfl; (first | with_reducible assumption | exact Is.const rfl); (first | with_reducible assumption | exact Is.const rfl); (first | with_reducible assumption | exact rfl)) | (go_at_call 29; refine (sBits_any _ _ ix _).mono ?_; rintro e w' ⟨rfl, rfl⟩))
    go_ret
    exact ⟨rfl, rfl⟩

theorem iIsSubnormal_any (x X : Nat) (ix : Is .f32 x X) (w : World) : Calls Try.prog 22 #[.float .f32 x] w fun e w' => e = .returned (.bool (sub32 X)) ∧ ∃ n, w' = w.drewN n := by
  rw [← sub_impl]
  by_cases hz : fcmp .neq .f32 X 0 = true
  · rw [hz, Bool.true_and]
    go_enter Try.func22, Try.ntmps22
    go_wp2_with (first | (apply wpList_fcmp; rfl; rfl; rfl; rfl; (first | with_reducible assumption | exact Is.const rfl); (first | with_reducible assumption | exact Is.const rfl); (first | with_reducible assumption | exact rfl)) | (apply wpList_wid; rfl; rfl; (first | with_reducible assumption | exact Is.const rfl); exact U32; exact U64; intro r n hr) | (go_at_call 35; refine (abs_any _ (lt64 hr) _).mono ?_; rintro e w' ⟨rfl, rfl⟩; have ha := hr.abs))
    go_ret
    exact ⟨rfl, _, rfl⟩
  · have hz' : fcmp .neq .f32 X 0 = false := by simpa using hz
    rw [hz', Bool.false_and]
    clear hz
    go_enter Try.func22, Try.ntmps22
    go_wp2_with (first | (apply wpList_fcmp; rfl; rfl; rfl; rfl; (first | with_reducible assumption | exact Is.const rfl); (first | with_reducible assumption | exact Is.const rfl); (first | with_reducible assumption | exact rfl)))
    go_ret
    exact ⟨rfl, 0, rfl⟩

/-! ### flushed numbers -/
theorem sFlush_any (x X : Nat) (ix : Is .f32 x X) (w : World) : Calls Try.prog 36 #[.float .f32 x] w fun e w' => (∃ r, e = .returned (.float .f32 r) ∧ Is .f32 r (flush X)) ∧ w = w' := by
  have hl : X < 4294967296 := by have := ix.lt'; rwa [w32] at this
  have hb : bits32 X < 4294967296 := bits32_lt (by rw [w32]; exact hl)
  have hm : bits .and .i64 ((bits32 X : Nat) : Int) 2139095040 = ((bits32 X &&& 2139095040 : Nat) : Int) := by
    rw [show (2139095040 : Int) = ((2139095040 : Nat) : Int) from rfl, i64_and_nat _ _ (by omega) (by decide)]
  by_cases hr : rung FloatKind.f32.format X < 8388608
  · have hz : (bits .and .i64 ((bits32 X : Nat) : Int) 2139095040 == 0) = true := by rw [hm, mask_zero.2 hr]; rfl
    have hn := nan_low hr
    have e : bits .and .i64 ((bits32 X : Nat) : Int) 2147483648 = ((flush X : Nat) : Int) := by
      rw [show (2147483648 : Int) = ((2147483648 : Nat) : Int) from rfl, i64_and_nat _ _ (by omega) (by decide), and_sign hb]
      unfold flush bits32; rw [if_pos hr, hn]; rfl
    have hf : flush X < 4294967296 := by unfold flush; rw [if_pos hr]; omega
    have hc : Is .f32 (flush X) (flush X) := by
      refine ⟨cn_of _ (nan_low ?_), by rw [w32]; exact hf⟩
      unfold flush; rw [if_pos hr, rung32]; omega
    clear hm hn hr
    go_enter Try.func36, Try.ntmps36
    go_wp2_with (first | (go_at_call 29; refine (sBits_any _ _ ix _).mono ?_; rintro e w' ⟨rfl, rfl⟩) | (go_at_call 32; refine (sFrom_any _ (by omega) (by omega) _).mono ?_; rintro e w' ⟨rfl, rfl⟩))
    go_ret
    exact ⟨⟨_, rfl, hc⟩, rfl⟩
  · have hz : (bits .and .i64 ((bits32 X : Nat) : Int) 2139095040 == 0) = false := by
      rw [hm, Bool.eq_false_iff]; intro h; apply hr; apply mask_zero.1; have := beq_iff_eq.1 h; omega
    have e : flush X = X := by unfold flush; rw [if_neg hr]
    have ix2 : Is .f32 x (flush X) := by rw [e]; exact ix
    clear hm hr e
    go_enter Try.func36, Try.ntmps36
    go_wp2_with (first | (go_at_call 29; refine (sBits_any _ _ ix _).mono ?_; rintro e w' ⟨rfl, rfl⟩))
    go_ret
    exact ⟨⟨_, rfl, ix2⟩, rfl⟩

theorem sFlushNumber_any (x X : Nat) (ix : Is .f32 x X) (w : World) : Calls Try.prog 23 #[.float .f32 x] w fun e w' => (∃ r, e = .returned (.float .f32 r) ∧ Is .f32 r (flush X)) ∧ w = w' := by
  go_enter Try.func23, Try.ntmps23
  go_wp2_with (go_at_call 36; refine (sFlush_any _ _ ix _).mono ?_; rintro e w' ⟨⟨r, rfl, hr⟩, rfl⟩)
  go_ret
  exact ⟨⟨_, rfl, hr⟩, rfl⟩

theorem iFlushNumber_any (x X : Nat) (ix : Is .f32 x X) (w : World) : Calls Try.prog 24 #[.float .f32 x] w fun e w' => (∃ r, e = .returned (.float .f32 r) ∧ Is .f32 r (flush X)) ∧ ∃ n, w' = w.drewN n := by
  by_cases hs : sub32 X = true
  · have hr : rung FloatKind.f32.format X < 8388608 := by unfold sub32 at hs; exact (of_decide_eq_true hs).2
    have hn := nan_low hr
    have hX : X < 2 ^ FloatKind.f32.format.width := by rw [← ix.same hn]; exact ix.lt
    have key : ∀ r, Is .f64 r (wid X) → Is .f64 (r / 2 ^ 63 * 2 ^ 63) (r / 2 ^ 63 * 2 ^ 63) ∧ fits (r / 2 ^ 63 * 2 ^ 63) ∧ nar (r / 2 ^ 63 * 2 ^ 63) = flush X := by
      intro r h
      refine ⟨isCanon_sign h.lt, fits_sign h.lt, ?_⟩
      rw [nar_sign h.lt, h.same (by rw [nan_wid, hn]), neg_wid hn, flush_sign hX hr]
    have K := Lib.hid key
    clear key hr hn hX
    go_enter Try.func24, Try.ntmps24
    go_wp2_with (first | (go_at_call 22; refine (iIsSubnormal_any _ _ ix _).mono ?_; rintro e w' ⟨rfl, n, rfl⟩) | (apply wpList_wid; rfl; rfl; (first | with_reducible assumption | exact Is.const rfl); exact U32; exact U64; intro r n hr) | (go_at_call 37; refine (copysign_any _ (lt64 hr) _).mono ?_; rintro e w' ⟨rfl, rfl⟩; obtain ⟨hc, hf, hv⟩ := K.out _ hr; have V := Lib.hid hv; clear hv; generalize r / 2 ^ 63 * 2 ^ 63 = c at *) | (apply wpList_nar; rfl; rfl; (first | with_reducible assumption | exact Is.const rfl); exact U64; exact U32; with_reducible assumption; intro r n hr))
    go_ret
    rw [V.out] at hr
    exact ⟨⟨_, rfl, hr⟩, _, rfl⟩
  · have hs' : sub32 X = false := by simpa using hs
    have e : flush X = X := by
      by_cases h : rung FloatKind.f32.format X < 8388608
      · exact flush_zero hs' h
      · unfold flush; rw [if_neg h]
    rw [e]; clear e hs
    go_enter Try.func24, Try.ntmps24
    go_wp2_with (first | (go_at_call 22; refine (iIsSubnormal_any _ _ ix _).mono ?_; rintro e w' ⟨rfl, n, rfl⟩))
    go_ret
    exact ⟨⟨_, rfl, ix⟩, _, rfl⟩

end Go.Proofs.Ytnipdbphfnppeaa
