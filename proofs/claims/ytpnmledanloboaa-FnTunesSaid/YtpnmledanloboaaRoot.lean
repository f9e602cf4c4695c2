/-
  Square roots.
-/
import Derived.Test.YtpnmledanloboaaBd
import Derived.Test.YtpnmledanloboaaMath
import Derived.Test.YtpnmledanloboaaLoose
import Derived.Test.YtpnmledanloboaaNar
namespace Go.Proofs.Ytpnmledanloboaa
open Go.Fl Go.RowKit

theorem call_sqrt (x : Nat) (w : World) : (callFunc 126 #[.float .f64 x]).run Try.prog w = ((Extern.MathSqrt.sqrt #[.float .f64 x]).run Try.prog w).andThen fun v w' => .ok (.value v) w' :=
  run_callFunc_extern (e := Extern.MathSqrt.sqrt) Try.func126 (by kernel_rfl) (by kernel_rfl) (by kernel_rfl) (by kernel_rfl) _ w

theorem sqrt_def (x : Nat) : Extern.MathSqrt.sqrt #[.float .f64 x] = (match FloatKind.f64.format.sqrt x with | some r => pure (.float .f64 r) | none => do pure (.float .f64 (← choose (.nanBits .f64 x x)))) := rfl

theorem sqrt_lt {x r : Nat} (h : FloatKind.f64.format.sqrt x = some r) : nan .f64 r = false ∧ r < 2 ^ FloatKind.f64.format.width := by
  refine ⟨?_, Ieee.Format.sqrt_lt _ h⟩
  unfold Ieee.Format.sqrt at h
  obtain ⟨d, hd, rfl⟩ := Option.map_eq_some_iff.1 h
  refine nan_write _ ?_
  intro s t e; subst e
  unfold Ieee.Datum.root at hd
  split at hd <;> (try split at hd) <;> (try split at hd) <;> simp at hd

theorem sqrt_any (x X : Nat) (ix : Is .f64 x X) (w : World) : Calls Try.prog 108 #[.float .f64 x] w fun e w' => (∃ r, e = .returned (.float .f64 r) ∧ Is .f64 r (fsqrt X)) ∧ ∃ n, w' = w.drewN n := by
  have hX : FloatKind.f64.format.sqrt x = FloatKind.f64.format.sqrt X := by
    by_cases hn : nan .f64 X = true
    · obtain ⟨s, t, e⟩ := read_nan .f64 hn
      obtain ⟨s', t', e'⟩ := read_nan .f64 (show nan .f64 x = true by rw [ix.nan, hn])
      unfold Ieee.Format.sqrt
      rw [e, e']; rfl
    · rw [ix.same (by simpa using hn)]
  cases h : FloatKind.f64.format.sqrt X with
  | some r =>
    have hr : Is .f64 r (fsqrt X) := by
      unfold fsqrt; rw [h]
      exact ⟨cn_of _ (sqrt_lt h).1, (sqrt_lt h).2⟩
    have hrun : ∀ w : World, (callFunc 126 #[.float .f64 x]).run Try.prog w = .ok (.value (.float .f64 r)) w := by
      intro w
      rw [call_sqrt]
      rw [sqrt_def, hX, h]; simp
    clear h hX
    go_enter Try.func108, Try.ntmps108
    go_wp2
    go_ret
    exact ⟨⟨_, rfl, hr⟩, 0, rfl⟩
  | none =>
    have hq : fsqrt X = qn .f64 := by unfold fsqrt; rw [h]
    have hrun : ∀ w : World, (callFunc 126 #[.float .f64 x]).run Try.prog w = .ok (.value (.float .f64 ((Question.nanBits .f64 x x).cut (w.tape w.drawn (.nanBits .f64 x x))))) w.drew := by
      intro w
      rw [call_sqrt]
      rw [sqrt_def, hX, h]; simp [Question.forced]
    have hv : ∀ t, Is .f64 ((Question.nanBits .f64 x x).cut t) (fsqrt X) := fun t => by
      rw [hq]
      exact ⟨cn_nan _ (nan_draw _ _ _ _), nanBits_lt ..⟩
    have HV := Lib.hid hv
    clear h hX hq hv
    go_enter Try.func108, Try.ntmps108
    go_wp2
    go_ret
    exact ⟨⟨_, rfl, HV.out _⟩, 1, rfl⟩

/-- A 32-bit number as a 64-bit one is at most 2 to the power of 128. -/
theorem wid_bd {X : Nat} (h : fin .f32 X = true) : Bd (wid X) 1202 := by
  unfold fin at h
  have h1 := of_decide_eq_true h
  obtain ⟨_, h2, h3⟩ := wid_fin h1
  refine ⟨h2, ?_⟩
  rw [h3, show (1202 : Nat) = 277 + 925 from rfl, p2_add]
  refine Nat.mul_le_mul_right _ ?_
  rw [← top32]
  exact V_le _ (Nat.le_of_lt h1)

/-- The root of a 32-bit number is narrowed to a number. -/
theorem fits_root (X : Nat) : fits (fsqrt (wid X)) := by
  by_cases hf : fin .f32 X = true
  · have hb := wid_bd hf
    by_cases hs : neg FloatKind.f64.format (wid X) = true
    · -- a negative number: no root; -0: itself
      obtain ⟨s, m, u, e1, h1, h2, _⟩ := read_bd hb
      rw [hs] at h2
      subst h2
      unfold fsqrt Ieee.Format.sqrt
      rw [e1]
      unfold Ieee.Datum.root
      dsimp only
      by_cases h0 : m = 0
      · rw [if_pos h0]
        subst h0
        simp only [Option.map_some, Ieee.Format.write]
        have e : FloatKind.f64.format.nearest true 0 (-1074 + (u : Int)) = 9223372036854775808 := by unfold Ieee.Format.nearest; simp [Ieee.Format.word]; decide
        rw [e]
        exact .inr (.inr (by decide +kernel))
      · rw [if_neg h0]
        simp only [if_true, Option.map_none]
        exact .inl (nan_qn _)
    · exact (Bd.root (K := 64) hb (by simpa using hs) (by decide)).1.fits (by decide)
  · by_cases hi : rung FloatKind.f32.format X = FloatKind.f32.format.infRung
    · have h2 := (wid_inf hi).2
      have e := read_eq FloatKind.f64.format (eb _) (wid X)
      rw [if_neg (by omega), if_pos h2] at e
      unfold fsqrt Ieee.Format.sqrt
      rw [e]
      unfold Ieee.Datum.root
      dsimp only
      by_cases hs : neg FloatKind.f64.format (wid X) = true
      · rw [if_pos hs]; exact .inl (nan_qn _)
      · rw [if_neg hs]
        refine .inr (.inl ?_)
        exact rung_word _ _ (infRung_lt _)
    · have hn : nan .f32 X = true := by
        unfold fin at hf
        unfold nan isNaN
        refine decide_eq_true ?_
        have : ¬ rung FloatKind.f32.format X < FloatKind.f32.format.infRung := by simpa using hf
        omega
      obtain ⟨s, t, e⟩ := read_nan .f64 (show nan .f64 (wid X) = true by rw [nan_wid, hn])
      unfold fsqrt Ieee.Format.sqrt
      rw [e]
      exact .inl (nan_qn _)

theorem sNarrow_any (x X : Nat) (ix : Is .f64 x X) (hf : fits X) (w : World) : Calls Try.prog 106 #[.float .f64 x] w fun e w' => (∃ r, e = .returned (.float .f32 r) ∧ Is .f32 r (nar X)) ∧ ∃ n, w' = w.drewN n := by
  go_enter Try.func106, Try.ntmps106
  go_wp2_with (apply wpList_nar; rfl; rfl; (first | with_reducible assumption | exact Is.const rfl); exact U64; exact U32; (with_reducible assumption); intro r n hr)
  go_ret
  exact ⟨⟨_, rfl, hr⟩, _, rfl⟩

theorem sSqrt_any (x X : Nat) (ix : Is .f32 x X) (w : World) : Calls Try.prog 76 #[.float .f32 x] w fun e w' => (∃ r, e = .returned (.float .f32 r) ∧ Is .f32 r (nar (fsqrt (wid X)))) ∧ ∃ n, w' = w.drewN n := by
  go_enter Try.func76, Try.ntmps76
  go_wp2_with (first | (apply wpList_wid; rfl; rfl; (first | with_reducible assumption | exact Is.const rfl); exact U32; exact U64; intro r n hr) | (go_at_call 108; refine (sqrt_any _ _ (by assumption) _).mono ?_; rintro e w' ⟨⟨r, rfl, hr⟩, n, rfl⟩) | (go_at_call 106; refine (sNarrow_any _ _ (by assumption) (fits_root _) _).mono ?_; rintro e w' ⟨⟨r, rfl, hr⟩, n, rfl⟩))
  go_ret
  exact ⟨⟨_, rfl, hr⟩, _, rfl⟩
theorem iRoot_any (x X : Nat) (ix : Is .f32 x X) (w : World) : Calls Try.prog 79 #[.float .f32 x] w fun e w' => (∃ r, e = .returned (.float .f32 r) ∧ Is .f32 r (nar (fsqrt (wid X)))) ∧ ∃ n, w' = w.drewN n := by
  go_enter Try.func79, Try.ntmps79
  go_wp2_with (first | (apply wpList_wid; rfl; rfl; (first | with_reducible assumption | exact Is.const rfl); exact U32; exact U64; intro r n hr) | (go_at_call 108; refine (sqrt_any _ _ (by assumption) _).mono ?_; rintro e w' ⟨⟨r, rfl, hr⟩, n, rfl⟩) | (go_at_call 113; refine (iNarrow_any _ _ (by assumption) (fits_root _) _).mono ?_; rintro e w' ⟨⟨r, rfl, hr⟩, n, rfl⟩))
  go_ret
  exact ⟨⟨_, rfl, hr⟩, _, rfl⟩
end Go.Proofs.Ytpnmledanloboaa
