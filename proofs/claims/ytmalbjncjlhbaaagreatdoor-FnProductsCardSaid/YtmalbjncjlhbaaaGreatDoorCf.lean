/-
  The program's IsFiniteComplex, NarrowComplex, ConjugateOf over any numbers.
-/
import Derived.Test.YtmalbjncjlhbaaaGreatDoorNaW
import Derived.Test.YtmalbjncjlhbaaaGreatDoorCl
namespace Go.Proofs.YtmalbjncjlhbaaaGreatDoor
open Go.Fl Go.RowKit
set_option linter.unusedSimpArgs false
set_option linter.unusedVariables false

set_option maxHeartbeats 1000000 in
theorem iNarrowCx_any (x X y Y : Nat) (ix : Is .f64 x X) (iy : Is .f64 y Y) (hx : fits X) (hy : fits Y) (w : World) :
    Calls Tryz.prog 35 #[.complex .f64 x y] w fun e w' => (∃ r s, e = .returned (.complex .f32 r s) ∧ Is .f32 r (nar X) ∧ Is .f32 s (nar Y)) ∧ ∃ n, w' = w.drewN n := by
  go_enter Tryz.func35, Tryz.ntmps35
  go_wp2_with fail
  refine (iNarrow_any x X ix hx _).mono ?_
  rintro e w' ⟨⟨r, rfl, hr⟩, n, rfl⟩
  go_wp2_with fail
  refine (iNarrow_any y Y iy hy _).mono ?_
  rintro e w' ⟨⟨s, rfl, hs⟩, n2, rfl⟩
  go_wp2_with fail
  go_ret
  exact ⟨⟨r, s, rfl, hr, hs⟩, _, rfl⟩

set_option maxHeartbeats 1000000 in
theorem iFiniteCx_any (x X y Y : Nat) (ix : Is .f32 x X) (iy : Is .f32 y Y) (w : World) :
    Calls Tryz.prog 36 #[.complex .f32 x y] w fun e w' => e = .returned (.bool (fin .f32 X && fin .f32 Y)) ∧ ∃ n, w' = w.drewN n := by
  have HX := Lib.hid (iIsFinite_any x X ix)
  have HY := Lib.hid (iIsFinite_any y Y iy)
  generalize fin .f32 X = p at HX ⊢
  generalize fin .f32 Y = q at HY ⊢
  go_enter Tryz.func36, Tryz.ntmps36
  go_wp2_with fail
  refine (HX.out _).mono ?_
  rintro e w' ⟨rfl, n, rfl⟩
  cases p
  · go_wp2_with fail
    go_ret
    exact ⟨rfl, _, rfl⟩
  · go_wp2_with fail
    refine (HY.out _).mono ?_
    rintro e w' ⟨rfl, n2, rfl⟩
    go_wp2_with fail
    go_ret
    exact ⟨by simp, _, rfl⟩
end Go.Proofs.YtmalbjncjlhbaaaGreatDoor
