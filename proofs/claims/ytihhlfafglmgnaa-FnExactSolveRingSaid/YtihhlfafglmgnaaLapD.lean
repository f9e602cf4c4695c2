/-
  LaplaceOf of the model.
-/
import Derived.Test.YtihhlfafglmgnaaLapS
namespace Go.Proofs.Ytihhlfafglmgnaa
open Go.Fl Go.RowKit
open Go.Joins (ownsRow_le)
set_option linter.unusedSimpArgs false
set_option linter.unusedVariables false

theorem sLaplaceOf_any (a b : Int) (u : Value) (xs : List Nat) (w : World) (hu : FS .f32 w u xs) (hn : xs.length ≤ 1048576) :
    Calls Try.prog 25 #[GV a b, u] w fun e w' => (∃ r, e = .returned (.tuple #[r, .bool (okLaplaceOf a b xs)]) ∧ FRes w.heap.size w' r (lenLaplaceOf a b xs) (lapV a b xs)) ∧ Below w.heap.size w w' := by
  have HU := Lib.hid hu
  obtain ⟨a1, c1, rfl, hlc, hcm, hwf, hmem⟩ := hu
  have HP := Lib.hid (gp_new w a b 28)
  have hb0 := (Below.refl w.heap.size w).alloc (Nat.le_refl _) (.cells #[.int .i64 a, .int .i64 b] 28)
  clear hmem hlc hcm hwf
  unfold lenLaplaceOf okLaplaceOf
  cases h : fieldOk a b xs.length with
  | true =>
    have H1 := Lib.hid h
    clear h
    go_enter Try.func25, Try.ntmps25
    go_wp2_with fail
    generalize w.alloc (.cells #[.int .i64 a, .int .i64 b] 28) = w1 at hb0 HP ⊢
    refine (sFits_any _ a b a1 xs.length c1 _ HP.out).mono ?_; rw [H1.out]; rintro e w' ⟨rfl, m1, rfl⟩
    have hb1 := below_drewN hb0 m1
    have HP2 := Lib.hid (GP.drewN HP.out m1)
    generalize w1.drewN m1 = w2 at hb1 HP2 ⊢
    go_wp2_with fail
    refine (sLaplace_any _ a b _ xs _ HP2.out (HU.out.below hb1) H1.out).mono ?_; rintro e w3 ⟨⟨r, rfl, hr⟩, hb2⟩
    go_wp2_with fail
    go_ret2
    exact ⟨⟨r, rfl, by first | exact fres_le hr hb1.size | (rw [if_pos rfl]; exact fres_le hr hb1.size)⟩, hb1.trans (hb2.mono hb1.size)⟩
  | false =>
    have H1 := Lib.hid h
    clear h
    go_enter Try.func25, Try.ntmps25
    go_wp2_with fail
    generalize w.alloc (.cells #[.int .i64 a, .int .i64 b] 28) = w1 at hb0 HP ⊢
    refine (sFits_any _ a b a1 xs.length c1 _ HP.out).mono ?_; rw [H1.out]; rintro e w' ⟨rfl, m1, rfl⟩
    go_wp2_with fail
    go_ret2
    exact ⟨⟨_, rfl, by first | exact fres_none _ _ _ | (rw [if_neg (by simp)]; exact fres_none _ _ _)⟩, below_drewN hb0 _⟩
end Go.Proofs.Ytihhlfafglmgnaa
