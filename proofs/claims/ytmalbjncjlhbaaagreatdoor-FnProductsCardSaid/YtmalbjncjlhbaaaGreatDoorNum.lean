/-
  Chapter 1, single numbers: contracts of the program's functions and of the model's.
-/
import Derived.Test.YtmalbjncjlhbaaaGreatDoorMath
import Derived.Test.YtmalbjncjlhbaaaGreatDoorSam
namespace Go.Proofs.YtmalbjncjlhbaaaGreatDoor
open Go.Fl Go.RowKit

theorem lt64 {x X : Nat} (h : Is .f64 x X) : x < 18446744073709551616 := by have := h.lt; rwa [w64] at this
theorem lt32 {x X : Nat} (h : Is .f32 x X) : x < 4294967296 := by have := h.lt; rwa [w32] at this

/-! ### bits -/
theorem bits_of {x X : Nat} (ix : Is .f32 x X) (h : nan .f32 X = false) : bits32 X = x := by
  unfold bits32; rw [h]; exact (ix.same h).symm

theorem wrap_nat (x : Nat) (h : x < 4294967296) : wrap64 (x : Int) = (x : Int) := by unfold wrap64; omega

theorem sBits_any (x X : Nat) (ix : Is .f32 x X) (w : World) : Calls Tryz.prog 85 #[.float .f32 x] w fun e w' => e = .returned (.int .i64 (bits32 X : Int)) ∧ w = w' := by
  have hl := lt32 ix
  by_cases hn : nan .f32 X = true
  · have hc : fcmp .neq .f32 X X = true := by rw [fcmp_neq_self, hn]
    have e : bits32 X = 2143289344 := by unfold bits32; rw [if_pos hn]
    rw [e]
    clear e hn
    go_enter Tryz.func85, Tryz.ntmps85
    go_wp2_with (apply wpList_fcmp; rfl; rfl; rfl; rfl; (first | with_reducible assumption | exact Is.const rfl); (first | with_reducible assumption | exact Is.const rfl); (first | with_reducible assumption | exact rfl))
    go_ret
    exact ⟨rfl, rfl⟩
  · have hn' : nan .f32 X = false := by simpa using hn
    have hc : fcmp .neq .f32 X X = false := by rw [fcmp_neq_self, hn']
    rw [bits_of ix hn']
    clear hn hn'
    go_enter Tryz.func85, Tryz.ntmps85
    go_wp2_with (apply wpList_fcmp; rfl; rfl; rfl; rfl; (first | with_reducible assumption | exact Is.const rfl); (first | with_reducible assumption | exact Is.const rfl); (first | with_reducible assumption | exact rfl))
    go_ret
    exact ⟨rfl, rfl⟩

theorem iBitsOf_any (x X : Nat) (ix : Is .f32 x X) (w : World) : Calls Tryz.prog 8 #[.float .f32 x] w fun e w' => e = .returned (.int .i64 (bits32 X : Int)) ∧ w = w' := by
  have hl := lt32 ix
  by_cases hn : nan .f32 X = true
  · have hc : fcmp .neq .f32 X X = true := by rw [fcmp_neq_self, hn]
    have e : bits32 X = 2143289344 := by unfold bits32; rw [if_pos hn]
    rw [e]
    clear e hn
    go_enter Tryz.func8, Tryz.ntmps8
    go_wp2_with (apply wpList_fcmp; rfl; rfl; rfl; rfl; (first | with_reducible assumption | exact Is.const rfl); (first | with_reducible assumption | exact Is.const rfl); (first | with_reducible assumption | exact rfl))
    go_ret
    exact ⟨rfl, rfl⟩
  · have hn' : nan .f32 X = false := by simpa using hn
    have hc : fcmp .neq .f32 X X = false := by rw [fcmp_neq_self, hn']
    rw [bits_of ix hn']
    clear hn hn'
    go_enter Tryz.func8, Tryz.ntmps8
    go_wp2_with (apply wpList_fcmp; rfl; rfl; rfl; rfl; (first | with_reducible assumption | exact Is.const rfl); (first | with_reducible assumption | exact Is.const rfl); (first | with_reducible assumption | exact rfl))
    go_ret
    exact ⟨rfl, rfl⟩


/-! ### same -/
theorem sSame_any (x X y Y : Nat) (ix : Is .f32 x X) (iy : Is .f32 y Y) (w : World) : Calls Tryz.prog 52 #[.float .f32 x, .float .f32 y] w fun e w' => e = .returned (.bool (decide (X = Y))) ∧ w = w' := by
  have e : ((bits32 X : Int) == (bits32 Y : Int)) = decide (X = Y) := by
    rw [Bool.eq_iff_iff]; simp [Int.ofNat_inj, bits32_eq ix.canon iy.canon]
  have H := Lib.hid e; clear e
  go_enter Tryz.func52, Tryz.ntmps52
  go_wp2_with (go_at_call 85; refine (sBits_any _ _ (by assumption) _).mono ?_; rintro e w' ⟨rfl, rfl⟩)
  go_ret
  exact ⟨congrArg (fun b => Ending.returned (.bool b)) H.out, rfl⟩

theorem sSameNumber_any (x X y Y : Nat) (ix : Is .f32 x X) (iy : Is .f32 y Y) (w : World) : Calls Tryz.prog 15 #[.float .f32 x, .float .f32 y] w fun e w' => e = .returned (.bool (decide (X = Y))) ∧ w = w' := by
  go_enter Tryz.func15, Tryz.ntmps15
  go_wp2_with (go_at_call 52; refine (sSame_any _ _ _ _ ix iy _).mono ?_; rintro e w' ⟨rfl, rfl⟩)
  go_ret
  exact ⟨rfl, rfl⟩

/-! ### finite -/
theorem sFinite_any (x X : Nat) (ix : Is .f32 x X) (w : World) : Calls Tryz.prog 73 #[.float .f32 x] w fun e w' => e = .returned (.bool (fin .f32 X)) ∧ ∃ n, w' = w.drewN n := by
  rw [← sub_self]
  go_enter Tryz.func73, Tryz.ntmps73
  go_wp2_with (first | (apply wpList_fcmp; rfl; rfl; rfl; rfl; (first | with_reducible assumption | exact Is.const rfl); (first | with_reducible assumption | exact Is.const rfl); (first | with_reducible assumption | exact rfl)) | (apply wpList_farith; rfl; rfl; rfl; rfl; (first | with_reducible assumption | exact Is.const rfl); (first | with_reducible assumption | exact Is.const rfl); intro r n hr))
  go_ret
  exact ⟨rfl, _, rfl⟩

theorem sIsFinite_any (x X : Nat) (ix : Is .f32 x X) (w : World) : Calls Tryz.prog 37 #[.float .f32 x] w fun e w' => e = .returned (.bool (fin .f32 X)) ∧ ∃ n, w' = w.drewN n := by
  go_enter Tryz.func37, Tryz.ntmps37
  go_wp2_with (go_at_call 73; refine (sFinite_any _ _ ix _).mono ?_; rintro e w' ⟨rfl, n, rfl⟩)
  go_ret
  exact ⟨rfl, _, rfl⟩

theorem iWide_any (x X : Nat) (ix : Is .f64 x X) (w : World) : Calls Tryz.prog 57 #[.float .f64 x] w fun e w' => e = .returned (.bool (fin .f64 X)) ∧ w = w' := by
  rw [← finWide]
  by_cases hc : fcmp .gtr .f64 (fabs X) 9218868437227405311 = true
  · rw [hc]
    go_enter Tryz.func57, Tryz.ntmps57
    go_wp2_with (first | (go_at_call 87; refine (isInf_any _ _ ix _).mono ?_; rintro e w' ⟨rfl, rfl⟩) | (go_at_call 88; refine (isNaN_any _ _ ix _).mono ?_; rintro e w' ⟨rfl, rfl⟩))
    go_ret
    exact ⟨rfl, rfl⟩
  · have hc' : fcmp .gtr .f64 (fabs X) 9218868437227405311 = false := by simpa using hc
    clear hc
    rw [hc']
    go_enter Tryz.func57, Tryz.ntmps57
    go_wp2_with (first | (go_at_call 87; refine (isInf_any _ _ ix _).mono ?_; rintro e w' ⟨rfl, rfl⟩) | (go_at_call 88; refine (isNaN_any _ _ ix _).mono ?_; rintro e w' ⟨rfl, rfl⟩))
    go_ret
    exact ⟨by simp, rfl⟩

theorem iIsFinite_any (x X : Nat) (ix : Is .f32 x X) (w : World) : Calls Tryz.prog 54 #[.float .f32 x] w fun e w' => e = .returned (.bool (fin .f32 X)) ∧ ∃ n, w' = w.drewN n := by
  rw [← fin_wid]
  go_enter Tryz.func54, Tryz.ntmps54
  go_wp2_with (first | (apply wpList_wid; rfl; rfl; (first | with_reducible assumption | exact Is.const rfl); exact U32; exact U64; intro r n hr) | (go_at_call 57; refine (iWide_any _ _ (by assumption) _).mono ?_; rintro e w' ⟨rfl, rfl⟩))
  go_ret
  exact ⟨rfl, _, rfl⟩

/-! ### from bits -/
theorem sFrom_any (n : Int) (h0 : 0 ≤ n) (h1 : n ≤ 4294967295) (w : World) : Calls Tryz.prog 41 #[.int .i64 n] w fun e w' => e = .returned (.float .f32 n.toNat) ∧ w = w' := by
  go_enter Tryz.func41, Tryz.ntmps41
  go_wp2
  go_ret
  exact ⟨rfl, rfl⟩


theorem iFromBits_yes (n : Int) (h0 : 0 ≤ n) (h1 : n ≤ 4294967295) (w : World) : Calls Tryz.prog 7 #[.int .i64 n] w fun e w' => e = .returned (.tuple #[.float .f32 n.toNat, .bool true]) ∧ w = w' := by
  go_enter Tryz.func7, Tryz.ntmps7
  go_wp2
  go_ret2
  exact ⟨rfl, rfl⟩
theorem iFromBits_no (n : Int) (h : n < 0 ∨ 4294967295 < n) (w : World) : Calls Tryz.prog 7 #[.int .i64 n] w fun e w' => e = .returned (.tuple #[.float .f32 0, .bool false]) ∧ w = w' := by
  rcases h with h | h
  · go_enter Tryz.func7, Tryz.ntmps7
    go_wp2
    go_ret2
    exact ⟨rfl, rfl⟩
  · have h0 : ¬ n < 0 := by omega
    go_enter Tryz.func7, Tryz.ntmps7
    go_wp2
    go_ret2
    exact ⟨rfl, rfl⟩

/-! ### subnormal numbers -/
theorem i64_and_nat (a b : Nat) (ha : a < 9223372036854775808) (hb : b < 9223372036854775808) : bits .and .i64 (a : Int) (b : Int) = ((a &&& b : Nat) : Int) := by
  have hx : a &&& b < 2 ^ 63 := Nat.and_lt_two_pow _ (by omega)
  show IntKind.i64.wrap ((BitVec.ofInt 64 (a : Int) &&& BitVec.ofInt 64 (b : Int)).toNat : Int) = _
  rw [BitVec.toNat_and, ofInt_u64 a (by omega), ofInt_u64 b (by omega), IntKind.wrap_i64]
  omega


theorem iIsSubnormal_any (x X : Nat) (ix : Is .f32 x X) (w : World) : Calls Tryz.prog 16 #[.float .f32 x] w fun e w' => e = .returned (.bool (sub32 X)) ∧ ∃ n, w' = w.drewN n := by
  rw [← sub_impl]
  by_cases hz : fcmp .neq .f32 X 0 = true
  · rw [hz, Bool.true_and]
    go_enter Tryz.func16, Tryz.ntmps16
    go_wp2_with (first | (apply wpList_fcmp; rfl; rfl; rfl; rfl; (first | with_reducible assumption | exact Is.const rfl); (first | with_reducible assumption | exact Is.const rfl); (first | with_reducible assumption | exact rfl)) | (apply wpList_wid; rfl; rfl; (first | with_reducible assumption | exact Is.const rfl); exact U32; exact U64; intro r n hr) | (go_at_call 53; refine (abs_any _ (lt64 hr) _).mono ?_; rintro e w' ⟨rfl, rfl⟩; have ha := hr.abs))
    go_ret
    exact ⟨rfl, _, rfl⟩
  · have hz' : fcmp .neq .f32 X 0 = false := by simpa using hz
    rw [hz', Bool.false_and]
    clear hz
    go_enter Tryz.func16, Tryz.ntmps16
    go_wp2_with (first | (apply wpList_fcmp; rfl; rfl; rfl; rfl; (first | with_reducible assumption | exact Is.const rfl); (first | with_reducible assumption | exact Is.const rfl); (first | with_reducible assumption | exact rfl)))
    go_ret
    exact ⟨rfl, 0, rfl⟩

/-! ### flushed numbers -/


theorem iFlushNumber_any (x X : Nat) (ix : Is .f32 x X) (w : World) : Calls Tryz.prog 9 #[.float .f32 x] w fun e w' => (∃ r, e = .returned (.float .f32 r) ∧ Is .f32 r (flush X)) ∧ ∃ n, w' = w.drewN n := by
  by_cases hs : sub32 X = true
  · have hr : rung FloatKind.f32.format X < 8388608 := by unfold sub32 at hs; exact (of_decide_eq_true hs).2
    have hn := nan_low hr
    have hX : X < 2 ^ FloatKind.f32.format.width := by rw [← ix.same hn]; exact ix.lt
    have key : ∀ r, Is .f64 r (wid X) → Is .f64 (r / 2 ^ 63 * 2 ^ 63) (r / 2 ^ 63 * 2 ^ 63) ∧ fits (r / 2 ^ 63 * 2 ^ 63) ∧ nar (r / 2 ^ 63 * 2 ^ 63) = flush X := by
      intro r h
      refine ⟨isCanon_sign h.lt, fits_sign h.lt, ?_⟩
      rw [nar_sign h.lt, h.same (by rw [nan_wid, hn]), neg_wid hn, flush_sign hX hr]
    have K := Lib.hid key
    clear key hr hn hX
    go_enter Tryz.func9, Tryz.ntmps9
    go_wp2_with (first | (go_at_call 16; refine (iIsSubnormal_any _ _ ix _).mono ?_; rintro e w' ⟨rfl, n, rfl⟩) | (apply wpList_wid; rfl; rfl; (first | with_reducible assumption | exact Is.const rfl); exact U32; exact U64; intro r n hr) | (go_at_call 45; refine (copysign_any _ (lt64 hr) _).mono ?_; rintro e w' ⟨rfl, rfl⟩; obtain ⟨hc, hf, hv⟩ := K.out _ hr; have V := Lib.hid hv; clear hv; generalize r / 2 ^ 63 * 2 ^ 63 = c at *) | (apply wpList_nar; rfl; rfl; (first | with_reducible assumption | exact Is.const rfl); exact U64; exact U32; (with_reducible assumption); intro r n hr))
    go_ret
    rw [V.out] at hr
    exact ⟨⟨_, rfl, hr⟩, _, rfl⟩
  · have hs' : sub32 X = false := by simpa using hs
    have e : flush X = X := by
      by_cases h : rung FloatKind.f32.format X < 8388608
      · exact flush_zero hs' h
      · unfold flush; rw [if_neg h]
    rw [e]; clear e hs
    go_enter Tryz.func9, Tryz.ntmps9
    go_wp2_with (first | (go_at_call 16; refine (iIsSubnormal_any _ _ ix _).mono ?_; rintro e w' ⟨rfl, n, rfl⟩))
    go_ret
    exact ⟨⟨_, rfl, ix⟩, _, rfl⟩

end Go.Proofs.YtmalbjncjlhbaaaGreatDoor
