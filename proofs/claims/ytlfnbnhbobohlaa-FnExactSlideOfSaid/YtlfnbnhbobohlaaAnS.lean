/-
  The model's AngleOf.
-/
import Derived.Test.YtlfnbnhbobohlaaAngS
namespace Go.Proofs.Ytlfnbnhbobohlaa
open Go.Fl Go.RowKit

theorem sAngleOf_any (y Y x X : Nat) (iy : Is .f32 y Y) (ix : Is .f32 x X) (w : World) :
    Calls Try.prog 89 #[.complex .f32 x y] w fun e w' => (∃ r, e = .returned (.float .f32 r) ∧ Is .f32 r (angT Y X)) ∧ ∃ n, w' = w.drewN n := by
  by_cases hx : fin .f32 X = true
  · by_cases hy : fin .f32 Y = true
    · have hx2 : fin .f64 (wid X) = true := by rw [fin_wid, hx]
      have hy2 : fin .f64 (wid Y) = true := by rw [fin_wid, hy]
      by_cases zz : (fcmp .eql .f32 X 0 && fcmp .eql .f32 Y 0) = true
      · have e : angT Y X = nar 0 := by unfold angT; rw [if_pos (by rw [hx, hy]; rfl), if_pos zz, nar_zero]
        rw [e]; clear e
        rw [Bool.and_eq_true] at zz
        have z1 : fcmp .eql .f64 (wid X) 0 = true := by rw [eql_wid hx, zz.1]
        have z2 : fcmp .eql .f64 (wid Y) 0 = true := by rw [eql_wid hy, zz.2]
        go_enter Try.func89, Try.ntmps89
        go_wp2_with (first | (apply wpList_wid; rfl; rfl; (first | with_reducible assumption | exact Is.const rfl); exact U32; exact U64; intro r n hr) | (go_at_call 126; refine (sAngZero _ _ _ _ (by assumption) (by assumption) hy2 hx2 z1 z2 _).mono ?_; rintro e w' ⟨⟨r, rfl, hr⟩, n, rfl⟩) | (go_at_call 118; refine (sNarrow_any _ _ (by assumption) fits_zero _).mono ?_; rintro e w' ⟨⟨r, rfl, hr⟩, n, rfl⟩))
        go_ret
        exact ⟨⟨_, rfl, by assumption⟩, _, rfl⟩
      · have e : angT Y X = nar (angW (wid Y) (wid X)) := by unfold angT; rw [if_pos (by rw [hx, hy]; rfl), if_neg zz]
        have hf := angT_fits hx hy (by simpa using zz)
        have hz : (fcmp .eql .f64 (wid X) 0 && fcmp .eql .f64 (wid Y) 0) = false := by rw [eql_wid hx, eql_wid hy]; simpa using zz
        rw [e]; clear e
        go_enter Try.func89, Try.ntmps89
        go_wp2_with (first | (apply wpList_wid; rfl; rfl; (first | with_reducible assumption | exact Is.const rfl); exact U32; exact U64; intro r n hr) | (go_at_call 126; refine (sAngW_any _ _ _ _ (by assumption) (by assumption) hy2 hx2 hz _).mono ?_; rintro e w' ⟨⟨r, rfl, hr⟩, n, rfl⟩) | (go_at_call 118; refine (sNarrow_any _ _ (by assumption) hf _).mono ?_; rintro e w' ⟨⟨r, rfl, hr⟩, n, rfl⟩))
        go_ret
        exact ⟨⟨_, rfl, by assumption⟩, _, rfl⟩
    · have hy' : fin .f64 (wid Y) = false := by rw [fin_wid]; simpa using hy
      have e : angT Y X = nar (qn .f64) := by unfold angT; rw [show fin .f32 Y = false by simpa using hy, Bool.and_false, if_neg (by decide), nar_nan]
      rw [e]; clear e hy
      go_enter Try.func89, Try.ntmps89
      go_wp2_with (first | (apply wpList_wid; rfl; rfl; (first | with_reducible assumption | exact Is.const rfl); exact U32; exact U64; intro r n hr) | (go_at_call 126; refine (sAngNaN_y _ _ _ (by assumption) hy' _).mono ?_; rintro e w' ⟨⟨r, rfl, hr⟩, n, rfl⟩) | (go_at_call 118; refine (sNarrow_any _ _ (by assumption) fits_nan _).mono ?_; rintro e w' ⟨⟨r, rfl, hr⟩, n, rfl⟩))
      go_ret
      exact ⟨⟨_, rfl, by assumption⟩, _, rfl⟩
  · have hx' : fin .f64 (wid X) = false := by rw [fin_wid]; simpa using hx
    have e : angT Y X = nar (qn .f64) := by unfold angT; rw [show fin .f32 X = false by simpa using hx, Bool.false_and, if_neg (by decide), nar_nan]
    rw [e]; clear e hx
    by_cases hy : fin .f64 (wid Y) = true
    · go_enter Try.func89, Try.ntmps89
      go_wp2_with (first | (apply wpList_wid; rfl; rfl; (first | with_reducible assumption | exact Is.const rfl); exact U32; exact U64; intro r n hr) | (go_at_call 126; refine (sAngNaN_x _ _ _ _ (by assumption) (by assumption) hy hx' _).mono ?_; rintro e w' ⟨⟨r, rfl, hr⟩, n, rfl⟩) | (go_at_call 118; refine (sNarrow_any _ _ (by assumption) fits_nan _).mono ?_; rintro e w' ⟨⟨r, rfl, hr⟩, n, rfl⟩))
      go_ret
      exact ⟨⟨_, rfl, by assumption⟩, _, rfl⟩
    · have hy' : fin .f64 (wid Y) = false := by simpa using hy
      go_enter Try.func89, Try.ntmps89
      go_wp2_with (first | (apply wpList_wid; rfl; rfl; (first | with_reducible assumption | exact Is.const rfl); exact U32; exact U64; intro r n hr) | (go_at_call 126; refine (sAngNaN_y _ _ _ (by assumption) hy' _).mono ?_; rintro e w' ⟨⟨r, rfl, hr⟩, n, rfl⟩) | (go_at_call 118; refine (sNarrow_any _ _ (by assumption) fits_nan _).mono ?_; rintro e w' ⟨⟨r, rfl, hr⟩, n, rfl⟩))
      go_ret
      exact ⟨⟨_, rfl, by assumption⟩, _, rfl⟩
end Go.Proofs.Ytlfnbnhbobohlaa
