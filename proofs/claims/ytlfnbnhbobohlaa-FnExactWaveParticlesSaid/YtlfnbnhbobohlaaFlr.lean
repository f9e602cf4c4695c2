/-
  math.Floor: the greatest integer that is not greater.
-/
import Derived.Test.YtlfnbnhbobohlaaMath
import Derived.Test.YtlfnbnhbobohlaaLoose
namespace Go.Fl
open Ieee

def floorW (X : Nat) : Nat := if nan .f64 X = true then qn .f64 else FloatKind.f64.format.write ((FloatKind.f64.format.read X).integral .down)

theorem floorW_is {X : Nat} (h : nan .f64 X = false) : Is .f64 (floorW X) (floorW X) := by
  have hn := read_not_nan .f64 h
  unfold floorW
  rw [if_neg (by rw [h]; decide)]
  refine ⟨cn_of _ (nan_write _ ?_), Format.write_lt _ _⟩
  intro s t e
  cases hr : FloatKind.f64.format.read X with
  | number a b c => rw [hr] at e; cases e
  | infinity a => rw [hr] at e; cases e
  | nan a b => exact hn _ _ hr

theorem quiet_nan (s : Bool) (t : Nat) : nan .f64 (FloatKind.f64.format.write (.nan s (FloatKind.f64.format.quiet t))) = true ∧ FloatKind.f64.format.write (.nan s (FloatKind.f64.format.quiet t)) < 2 ^ FloatKind.f64.format.width := by
  refine ⟨?_, Format.write_lt _ _⟩
  unfold Format.write
  dsimp only
  have hq : 0 < FloatKind.f64.format.quiet t % FloatKind.f64.format.binade := by
    unfold Format.quiet
    refine Nat.pos_of_ne_zero fun h0 => ?_
    have h1 : ((t ||| 2 ^ (FloatKind.f64.format.fractionBits - 1)) % 2 ^ 52).testBit 51 = true := by
      rw [Nat.testBit_mod_two_pow, Nat.testBit_or]
      have : (2 ^ (FloatKind.f64.format.fractionBits - 1)).testBit 51 = true := by decide
      rw [this]; simp
    have h2 : (t ||| 2 ^ (FloatKind.f64.format.fractionBits - 1)) % 2 ^ 52 = 0 := h0
    rw [h2] at h1
    simp at h1
  have hl := Nat.mod_lt (FloatKind.f64.format.quiet t) (binade_pos FloatKind.f64.format)
  generalize FloatKind.f64.format.quiet t % FloatKind.f64.format.binade = q at hq hl
  have hb : FloatKind.f64.format.infRung + q < FloatKind.f64.format.signWeight := by rw [inf64, sw64]; rw [b64] at hl; omega
  unfold Fl.nan isNaN
  rw [rung_word _ _ hb]
  exact decide_eq_true (by omega)

end Go.Fl
namespace Go.Proofs.Ytlfnbnhbobohlaa
open Go.Fl Go.RowKit

theorem call_floor (x : Nat) (w : World) : (callFunc 161 #[.float .f64 x]).run Try.prog w = ((Extern.MathFloor.toIntegral "math.archFloor" .down #[.float .f64 x]).run Try.prog w).andThen fun v w' => .ok (.value v) w' :=
  run_callFunc_extern (e := Extern.MathFloor.toIntegral "math.archFloor" .down) Try.func161 (by kernel_rfl) (by kernel_rfl) (by kernel_rfl) (by kernel_rfl) _ w

theorem floor_def (x : Nat) : Extern.MathFloor.toIntegral "math.archFloor" .down #[.float .f64 x] = (match FloatKind.f64.decode x with
  | .nan s t => if FloatKind.f64.format.quiet t = t then pure (.float .f64 x) else do
      pure (.float .f64 (if (← choose (.extern "math.Floor,Ceil,Trunc,RoundToEven.signallingNaN kept" 2)) == 1 then x else FloatKind.f64.encode (.nan s (FloatKind.f64.format.quiet t))))
  | d => pure (.float .f64 (FloatKind.f64.encode (d.integral .down)))) := rfl

set_option maxRecDepth 100000 in
theorem Floor_any (x X : Nat) (ix : Is .f64 x X) (w : World) : Calls Try.prog 159 #[.float .f64 x] w fun e w' => (∃ r, e = .returned (.float .f64 r) ∧ Is .f64 r (floorW X)) ∧ ∃ n, w' = w.drewN n := by
  by_cases hn : nan .f64 X = true
  · have hq : floorW X = qn .f64 := by unfold floorW; rw [if_pos hn]
    have hxn : nan .f64 x = true := by rw [ix.nan, hn]
    obtain ⟨s, t, e⟩ := read_nan .f64 hxn
    have e' : FloatKind.f64.decode x = .nan s t := e
    by_cases hk : FloatKind.f64.format.quiet t = t
    · have hrun : ∀ w : World, (callFunc 161 #[.float .f64 x]).run Try.prog w = .ok (.value (.float .f64 x)) w := by
        intro w
        rw [call_floor]
        rw [floor_def, e']
        dsimp only
        rw [if_pos hk]
        simp
      have hr : Is .f64 x (floorW X) := by rw [hq]; exact ⟨cn_nan _ hxn, ix.lt⟩
      clear hn hq hxn e e' hk
      go_enter Try.func159, Try.ntmps159
      go_wp2
      go_ret
      exact ⟨⟨_, rfl, hr⟩, 0, rfl⟩
    · have hrun : ∀ w : World, ∃ r, (callFunc 161 #[.float .f64 x]).run Try.prog w = .ok (.value (.float .f64 r)) w.drew ∧ Is .f64 r (floorW X) := by
        intro w
        rw [call_floor]
        rw [floor_def, e']
        dsimp only
        rw [if_neg hk]
        refine ⟨_, by simp [Question.forced]; rfl, ?_⟩
        rw [hq]
        split
        · exact ⟨cn_nan _ hxn, ix.lt⟩
        · exact ⟨cn_nan _ (quiet_nan s t).1, (quiet_nan s t).2⟩
      obtain ⟨r, hrun, hr⟩ := hrun w
      clear hn hq hxn e e' hk
      go_enter Try.func159, Try.ntmps159
      go_wp2
      go_ret
      exact ⟨⟨_, rfl, hr⟩, 1, rfl⟩
  · have hn' : nan .f64 X = false := by simpa using hn
    have hx : x = X := ix.same hn'
    subst hx
    have hrun : ∀ w : World, (callFunc 161 #[.float .f64 x]).run Try.prog w = .ok (.value (.float .f64 (floorW x))) w := by
      intro w
      rw [call_floor]
      unfold floorW
      rw [if_neg hn, floor_def]
      have hnn := read_not_nan .f64 hn'
      cases hr : FloatKind.f64.format.read x with
      | number a b c =>
        have hr' : FloatKind.f64.decode x = .number a b c := hr
        rw [hr']; simp; rfl
      | infinity a =>
        have hr' : FloatKind.f64.decode x = .infinity a := hr
        rw [hr']; simp; rfl
      | nan a b => exact absurd hr (hnn _ _)
    have hr : Is .f64 (floorW x) (floorW x) := floorW_is hn'
    clear hn hn'
    go_enter Try.func159, Try.ntmps159
    go_wp2
    go_ret
    exact ⟨⟨_, rfl, hr⟩, 0, rfl⟩
end Go.Proofs.Ytlfnbnhbobohlaa
