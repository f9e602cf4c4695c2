/-
  SineTurns.
-/
import Derived.Test.YtpnmledanloboaaSine
namespace Go.Proofs.Ytpnmledanloboaa
open Go.Fl Go.RowKit

theorem sNar_any (x X : Nat) (ix : Is .f64 x X) (hf : fits X) (w : World) : Calls Try.prog 106 #[.float .f64 x] w fun e w' => (∃ r, e = .returned (.float .f32 r) ∧ Is .f32 r (nar X)) ∧ ∃ n, w' = w.drewN n := by
  go_enter Try.func106, Try.ntmps106
  go_wp2_with (apply wpList_nar; rfl; rfl; (first | with_reducible assumption | exact Is.const rfl); exact U64; exact U32; (with_reducible assumption); intro r n hr)
  go_ret
  exact ⟨⟨_, rfl, hr⟩, _, rfl⟩
theorem iNar_any (x X : Nat) (ix : Is .f64 x X) (hf : fits X) (w : World) : Calls Try.prog 113 #[.float .f64 x] w fun e w' => (∃ r, e = .returned (.float .f32 r) ∧ Is .f32 r (nar X)) ∧ ∃ n, w' = w.drewN n := by
  go_enter Try.func113, Try.ntmps113
  go_wp2_with (apply wpList_nar; rfl; rfl; (first | with_reducible assumption | exact Is.const rfl); exact U64; exact U32; (with_reducible assumption); intro r n hr)
  go_ret
  exact ⟨⟨_, rfl, hr⟩, _, rfl⟩

theorem sSine_any (x X : Nat) (ix : Is .f32 x X) (w : World) : Calls Try.prog 82 #[.float .f32 x] w fun e w' => (∃ r, e = .returned (.float .f32 r) ∧ Is .f32 r (sineT X)) ∧ ∃ n, w' = w.drewN n := by
  by_cases hf : fin .f64 (wid X) = true
  · by_cases hl : longB (wid X) = true
    · have e : sineT X = nar 0 := by unfold sineT; rw [if_pos hf, if_pos hl, nar_zero]
      rw [e]; clear e
      go_enter Try.func82, Try.ntmps82
      go_wp2_with (first | (apply wpList_wid; rfl; rfl; (first | with_reducible assumption | exact Is.const rfl); exact U32; exact U64; intro r n hr) | (go_at_call 114; refine (sWide_long _ _ (by assumption) hf hl _).mono ?_; rintro e w' ⟨⟨r, rfl, hr⟩, n, rfl⟩) | (go_at_call 106; refine (sNar_any _ _ (by assumption) fits_zero _).mono ?_; rintro e w' ⟨⟨r, rfl, hr⟩, n, rfl⟩))
      go_ret
      exact ⟨⟨_, rfl, hr⟩, _, rfl⟩
    · have hl' : longB (wid X) = false := by simpa using hl
      have e : sineT X = nar (sineW (wid X)) := by unfold sineT; rw [if_pos hf, if_neg hl]
      have hfit := sineW_fits (short_of hf hl')
      rw [e]; clear e hl
      go_enter Try.func82, Try.ntmps82
      go_wp2_with (first | (apply wpList_wid; rfl; rfl; (first | with_reducible assumption | exact Is.const rfl); exact U32; exact U64; intro r n hr) | (go_at_call 114; refine (sWide_short _ _ (by assumption) hf hl' _).mono ?_; rintro e w' ⟨⟨r, rfl, hr⟩, n, rfl⟩) | (go_at_call 106; refine (sNar_any _ _ (by assumption) hfit _).mono ?_; rintro e w' ⟨⟨r, rfl, hr⟩, n, rfl⟩))
      go_ret
      exact ⟨⟨_, rfl, hr⟩, _, rfl⟩
  · have hf' : fin .f64 (wid X) = false := by simpa using hf
    have e : sineT X = nar (qn .f64) := by unfold sineT; rw [if_neg hf, nar_nan]
    rw [e]; clear e hf
    go_enter Try.func82, Try.ntmps82
    go_wp2_with (first | (apply wpList_wid; rfl; rfl; (first | with_reducible assumption | exact Is.const rfl); exact U32; exact U64; intro r n hr) | (go_at_call 114; refine (sWide_nan _ _ (by assumption) hf' _).mono ?_; rintro e w' ⟨⟨r, rfl, hr⟩, n, rfl⟩) | (go_at_call 106; refine (sNar_any _ _ (by assumption) fits_nan _).mono ?_; rintro e w' ⟨⟨r, rfl, hr⟩, n, rfl⟩))
    go_ret
    exact ⟨⟨_, rfl, hr⟩, _, rfl⟩

theorem sSineTurns_any (x X : Nat) (ix : Is .f32 x X) (w : World) : Calls Try.prog 48 #[.float .f32 x] w fun e w' => (∃ r, e = .returned (.float .f32 r) ∧ Is .f32 r (sineT X)) ∧ ∃ n, w' = w.drewN n := by
  go_enter Try.func48, Try.ntmps48
  go_wp2_with (go_at_call 82; refine (sSine_any _ _ ix _).mono ?_; rintro e w' ⟨⟨r, rfl, hr⟩, n, rfl⟩)
  go_ret
  exact ⟨⟨_, rfl, hr⟩, _, rfl⟩

theorem iSineTurns_any (x X : Nat) (ix : Is .f32 x X) (w : World) : Calls Try.prog 85 #[.float .f32 x] w fun e w' => (∃ r, e = .returned (.float .f32 r) ∧ Is .f32 r (sineT X)) ∧ ∃ n, w' = w.drewN n := by
  by_cases hf : fin .f64 (wid X) = true
  · by_cases hl : longB (wid X) = true
    · have e : sineT X = 0 := by unfold sineT; rw [if_pos hf, if_pos hl]
      rw [e]; clear e
      go_enter Try.func85, Try.ntmps85
      go_wp2_with (first | (apply wpList_wid; rfl; rfl; (first | with_reducible assumption | exact Is.const rfl); exact U32; exact U64; intro r n hr) | (go_at_call 116; refine (iWide_any _ _ (by assumption) _).mono ?_; rintro e w' ⟨rfl, rfl⟩) | (go_at_call 117; refine (iLong_any _ _ (by assumption) _).mono ?_; rintro e w' ⟨rfl, rfl⟩))
      go_ret
      exact ⟨⟨_, rfl, Is.const rfl⟩, _, rfl⟩
    · have hl' : longB (wid X) = false := by simpa using hl
      have e : sineT X = nar (sineW (wid X)) := by unfold sineT; rw [if_pos hf, if_neg hl]
      have hs := short_of hf hl'
      have hfit := sineW_fits hs
      rw [e]; clear e hl
      go_enter Try.func85, Try.ntmps85
      go_wp2_with (first | (apply wpList_wid; rfl; rfl; (first | with_reducible assumption | exact Is.const rfl); exact U32; exact U64; intro r n hr) | (go_at_call 116; refine (iWide_any _ _ (by assumption) _).mono ?_; rintro e w' ⟨rfl, rfl⟩) | (go_at_call 117; refine (iLong_any _ _ (by assumption) _).mono ?_; rintro e w' ⟨rfl, rfl⟩) | (go_at_call 118; refine (iSineOf_any _ _ (by assumption) hs _).mono ?_; rintro e w' ⟨⟨r, rfl, hr⟩, n, rfl⟩) | (go_at_call 113; refine (iNar_any _ _ (by assumption) hfit _).mono ?_; rintro e w' ⟨⟨r, rfl, hr⟩, n, rfl⟩))
      go_ret
      exact ⟨⟨_, rfl, hr⟩, _, rfl⟩
  · have hf' : fin .f64 (wid X) = false := by simpa using hf
    have e : sineT X = nar (qn .f64) := by unfold sineT; rw [if_neg hf, nar_nan]
    have hni := nan_is
    have hfn := fits_nan
    rw [e]; clear e hf
    go_enter Try.func85, Try.ntmps85
    go_wp2_with (first | (apply wpList_wid; rfl; rfl; (first | with_reducible assumption | exact Is.const rfl); exact U32; exact U64; intro r n hr) | (apply wpList_nar; rfl; rfl; (first | with_reducible assumption | exact Is.const rfl); exact U64; exact U32; (with_reducible assumption); intro r n hr) | (go_at_call 116; refine (iWide_any _ _ (by assumption) _).mono ?_; rintro e w' ⟨rfl, rfl⟩) | (go_at_call 110; refine (nan_any _).mono ?_; rintro e w' ⟨rfl, rfl⟩))
    go_ret
    exact ⟨⟨_, rfl, hr⟩, _, rfl⟩
end Go.Proofs.Ytpnmledanloboaa
