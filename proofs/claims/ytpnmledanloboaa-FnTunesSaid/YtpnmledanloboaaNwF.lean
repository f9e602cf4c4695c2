/-
  A 32-bit number, widened and narrowed again, is the same number.
-/
import Derived.Test.YtpnmledanloboaaFn
namespace Go.Proofs.Ytpnmledanloboaa
open Go.Fl Go.RowKit Ieee

theorem cancel_pow {a b n : Nat} (h : a * 2 ^ n = b * 2 ^ n) : a = b := Nat.eq_of_mul_eq_mul_right (Nat.two_pow_pos n) h

theorem nar_wid_fin {X : Nat} (hl : X < 2 ^ FloatKind.f32.format.width) (hr : rung FloatKind.f32.format X < FloatKind.f32.format.infRung) : nar (wid X) = X := by
  obtain ⟨h1, h2, h3⟩ := wid_fin hr
  have hn : nan .f64 (wid X) = false := by unfold nan isNaN; exact decide_eq_false (by omega)
  unfold nar
  rw [hn, if_neg (by simp), read_eq _ (eb _), if_pos h2]
  unfold Format.write
  dsimp only
  refine ext_word _ (nearest_lt ..) hl ((nearest_neg ..).trans h1) ?_
  refine rung_of_V _ _ ?_ (Nat.le_of_lt hr)
  have hlp : FloatKind.f32.format.leastPlace = FloatKind.f64.format.leastPlace + 925 := by decide
  rw [p2_eq] at h3
  have hV : V FloatKind.f64.format (rung FloatKind.f64.format (wid X)) = mag FloatKind.f64.format (rung FloatKind.f64.format (wid X)) * 2 ^ up FloatKind.f64.format (rung FloatKind.f64.format (wid X)) := rfl
  rw [hV] at h3
  generalize mag FloatKind.f64.format (rung FloatKind.f64.format (wid X)) = M at h3 ⊢
  generalize up FloatKind.f64.format (rung FloatKind.f64.format (wid X)) = u at h3 ⊢
  generalize V FloatKind.f32.format (rung FloatKind.f32.format X) = v at h3 ⊢
  rw [hlp]
  generalize FloatKind.f64.format.leastPlace = lp
  generalize hK : (925 : Nat) = K at h3
  by_cases hu : K ≤ u
  · have e1 : (lp + ((925 : Nat) : Int) - (lp + (u : Int))).toNat = 0 := by omega
    have e2 : (lp + (u : Int) - (lp + ((925 : Nat) : Int))).toNat = u - K := by omega
    obtain ⟨t, rfl⟩ : ∃ t, u = t + K := ⟨u - K, by omega⟩
    rw [Nat.pow_add, ← Nat.mul_assoc] at h3
    have := cancel_pow h3
    simp only [Int.cast_ofNat_Int] at e1 e2 ⊢
    rw [e1, e2, Nat.add_sub_cancel]
    simp [this]
  · have e1 : (lp + ((925 : Nat) : Int) - (lp + (u : Int))).toNat = K - u := by omega
    have e2 : (lp + (u : Int) - (lp + ((925 : Nat) : Int))).toNat = 0 := by omega
    obtain ⟨t, rfl⟩ : ∃ t, K = t + u := ⟨K - u, by omega⟩
    rw [Nat.pow_add, ← Nat.mul_assoc] at h3
    have := cancel_pow h3
    simp only [Int.cast_ofNat_Int] at e1 e2 ⊢
    rw [e1, e2, Nat.add_sub_cancel]
    simp [this]
theorem nar_wid {X : Nat} (hl : X < 2 ^ FloatKind.f32.format.width) (hc : cn .f32 X = X) : nar (wid X) = X := by
  by_cases hn : nan .f32 X = true
  · have e : wid X = qn .f64 := by unfold wid; rw [if_pos hn]
    rw [e]
    unfold nar
    rw [if_pos (nan_qn _), ← hc, cn_nan _ hn]
  · by_cases hr : rung FloatKind.f32.format X < FloatKind.f32.format.infRung
    · exact nar_wid_fin hl hr
    · have h2 : rung FloatKind.f32.format X = FloatKind.f32.format.infRung := by
        have hn' : nan .f32 X = false := by simpa using hn
        unfold nan isNaN at hn'
        have := of_decide_eq_false hn'
        omega
      obtain ⟨g1, g2⟩ := wid_inf h2
      have hn2 : nan .f64 (wid X) = false := by unfold nan isNaN; exact decide_eq_false (by omega)
      unfold nar
      rw [hn2, if_neg (by simp), read_eq _ (eb _), if_neg (by omega), if_pos g2]
      unfold Format.write
      dsimp only
      rw [g1, ← h2]
      exact word_of _ hl
theorem wid_fits {X : Nat} (hl : X < 2 ^ FloatKind.f32.format.width) (hc : cn .f32 X = X) : fits (wid X) := by
  by_cases hn : nan .f32 X = true
  · exact .inl (by rw [nan_wid]; exact hn)
  · by_cases hr : rung FloatKind.f32.format X < FloatKind.f32.format.infRung
    · exact .inr (.inr (by rw [nar_wid hl hc]; exact hr))
    · have h2 : rung FloatKind.f32.format X = FloatKind.f32.format.infRung := by
        have hn' : nan .f32 X = false := by simpa using hn
        unfold nan isNaN at hn'
        have := of_decide_eq_false hn'
        omega
      exact .inr (.inl (wid_inf h2).2)

end Go.Proofs.Ytpnmledanloboaa
