/-
  Phasors as plain functions of their turns; products of complex numbers and numbers.
-/
import Derived.Test.YtlfnbnhbobohlaaPhasS
import Derived.Test.YtlfnbnhbobohlaaStp
import Derived.Test.YtlfnbnhbobohlaaCsm
namespace Go.Fl
/-- How many quarters are behind a part of a turn. -/
def jOf (F : Nat) : Nat := (Go.Proofs.Ytlfnbnhbobohlaa.firstD (fun j => !fcmp .geq .f64 (quar F j) 4598175219545276416) 9 0).getD 0
theorem jOf_eq {F j : Nat} (hb : Bd F 1075) (h : QStop F j) : jOf F = j := by
  have hj : j ≤ 8 := (quar_bd hb j h.a).1
  unfold jOf
  rw [Go.Proofs.Ytlfnbnhbobohlaa.firstD_at _ (show j < 9 by omega) (fun i hi => by rw [h.a i hi]; rfl) (by rw [h.b]; rfl)]
  rfl
/-- The parts of a phasor. -/
def phRe (Y : Nat) : Nat := if fin .f64 Y = false then qn .f32 else if longB Y = true then 1065353216 else Go.Proofs.Ytlfnbnhbobohlaa.phR (partT Y) (jOf (partT Y))
def phIm (Y : Nat) : Nat := if fin .f64 Y = false then qn .f32 else if longB Y = true then 0 else Go.Proofs.Ytlfnbnhbobohlaa.phI (partT Y) (jOf (partT Y))
end Go.Fl
namespace Go.Proofs.Ytlfnbnhbobohlaa
open Go.Fl Go.RowKit
set_option linter.unusedSimpArgs false
set_option linter.unusedVariables false

theorem ph_of {Y : Nat} {e : Ending} (h : Ph Y e) : Cx .f32 (phRe Y) (phIm Y) e := by
  unfold phRe phIm
  rcases h with ⟨h1, h⟩ | ⟨h1, h2, h⟩ | ⟨h1, h2, j, hj, h⟩
  · simp only [h1, if_true]; exact h
  · simp only [h1, h2, reduceCtorEq, if_true, if_false]; exact h
  · simp only [h1, h2, reduceCtorEq, if_false, Bool.false_eq_true]; rw [jOf_eq (partT_bd (short_of h1 h2)) hj]; exact h

theorem iPhz_any (x Y : Nat) (ix : Is .f64 x Y) (w : World) : Calls Try.prog 138 #[.float .f64 x] w fun e w' => (∃ r s, e = .returned (.complex .f32 r s) ∧ Is .f32 r (phRe Y) ∧ Is .f32 s (phIm Y)) ∧ ∃ n, w' = w.drewN n :=
  (iPh_any x Y ix w).mono fun e w' ⟨h, hw⟩ => ⟨ph_of h, hw⟩
theorem sPhz_any (x Y : Nat) (ix : Is .f64 x Y) (w : World) : Calls Try.prog 134 #[.float .f64 x] w fun e w' => (∃ r s, e = .returned (.complex .f32 r s) ∧ Is .f32 r (phRe Y) ∧ Is .f32 s (phIm Y)) ∧ ∃ n, w' = w.drewN n :=
  (sPh1_any x Y ix w).mono fun e w' ⟨h, hw⟩ => ⟨ph_of h, hw⟩

theorem iScaleC_any (a A b B y Y : Nat) (ia : Is .f32 a A) (ib : Is .f32 b B) (iy : Is .f32 y Y) (w : World) : Calls Try.prog 137 #[.complex .f32 a b, .float .f32 y] w fun e w' =>
    (∃ r s, e = .returned (.complex .f32 r s) ∧ Is .f32 r (fop .mul .f32 A Y) ∧ Is .f32 s (fop .mul .f32 B Y)) ∧ ∃ n, w' = w.drewN n := by
  go_enter Try.func137, Try.ntmps137
  go_wp2_with (first | (apply wpList_farith; rfl; rfl; rfl; rfl; (with_reducible exact ia); (with_reducible exact iy); intro r1 n1 hr1) | (apply wpList_farith; rfl; rfl; rfl; rfl; (with_reducible exact ib); (with_reducible exact iy); intro r2 n2 hr2) | fail)
  go_ret
  exact ⟨⟨_, _, rfl, hr1, hr2⟩, _, rfl⟩
theorem sScaleC_any (a A b B y Y : Nat) (ia : Is .f32 a A) (ib : Is .f32 b B) (iy : Is .f32 y Y) (w : World) : Calls Try.prog 113 #[.complex .f32 a b, .float .f32 y] w fun e w' =>
    (∃ r s, e = .returned (.complex .f32 r s) ∧ Is .f32 r (fop .mul .f32 A Y) ∧ Is .f32 s (fop .mul .f32 B Y)) ∧ ∃ n, w' = w.drewN n := by
  go_enter Try.func113, Try.ntmps113
  go_wp2_with (first | (apply wpList_farith; rfl; rfl; rfl; rfl; (with_reducible exact ia); (with_reducible exact iy); intro r1 n1 hr1) | (apply wpList_farith; rfl; rfl; rfl; rfl; (with_reducible exact ib); (with_reducible exact iy); intro r2 n2 hr2) | fail)
  go_ret
  exact ⟨⟨_, _, rfl, hr1, hr2⟩, _, rfl⟩

/-- The turns of the circle's part. -/
def turnF (p n : Nat) : Nat := fneg .f64 (fop .quo .f64 (floatOfInt .f64 (p : Int)) (floatOfInt .f64 (n : Int)))

theorem turns_any (n p : Nat) (w : World) : Calls Try.prog 139 #[.int .i64 (n : Int), .int .i64 (p : Int)] w fun e w' =>
    (∃ r, e = .returned (.float .f64 r) ∧ Is .f64 r (fop .quo .f64 (floatOfInt .f64 (p : Int)) (floatOfInt .f64 (n : Int)))) ∧ ∃ k, w' = w.drewN k := by
  have i1 := intWord_is (p : Int); have i2 := intWord_is (n : Int)
  go_enter Try.func139, Try.ntmps139
  go_wp2_with (first | (apply wpList_farith; rfl; rfl; rfl; rfl; (first | with_reducible assumption | exact Is.const rfl); (first | with_reducible assumption | exact Is.const rfl); intro r n hr) | fail)
  go_ret
  exact ⟨⟨_, rfl, by assumption⟩, _, rfl⟩
theorem back_any (n p : Nat) (w : World) : Calls Try.prog 117 #[.int .i64 (n : Int), .int .i64 (p : Int)] w fun e w' =>
    (∃ r s, e = .returned (.complex .f32 r s) ∧ Is .f32 r (phRe (turnF p n)) ∧ Is .f32 s (phIm (turnF p n))) ∧ ∃ k, w' = w.drewN k := by
  have HT := Lib.hid (show fneg .f64 (fop .quo .f64 (floatOfInt .f64 (p : Int)) (floatOfInt .f64 (n : Int))) = turnF p n from rfl)
  go_enter Try.func117, Try.ntmps117
  go_wp2_with fail
  refine (turns_any n p _).mono ?_; rintro e w' ⟨⟨r, rfl, hr⟩, k, rfl⟩
  have hg := hr.fneg
  rw [HT.out] at hg
  go_wp2_with (first | (apply wpList_fneg; rfl; rfl) | fail)
  refine (iPhz_any _ _ hg _).mono ?_; rintro e w' ⟨⟨r1, s1, rfl, hr1, hs1⟩, k1, rfl⟩
  go_wp2_with fail
  go_ret
  exact ⟨⟨_, _, rfl, hr1, hs1⟩, _, rfl⟩
theorem sPhasor8_any (k m n p q : Nat) (w : World) (hn : 0 < n) (hq : q = k * m) (hp : p = q % n) (hb : q ≤ 65536) (w1 : IntKind.i64.wrap ((k : Int) * (m : Int)) = (q : Int)) (w2 : wrap64 ((k : Int) * (m : Int)) = (q : Int)) (w3 : Int.tmod (q : Int) (n : Int) = (p : Int)) (w4 : (q : Int) % (n : Int) = (p : Int)) :
    Calls Try.prog 114 #[.int .i64 (k : Int), .int .i64 (m : Int), .int .i64 (n : Int), .bool false] w fun e w' =>
    (∃ r s, e = .returned (.complex .f32 r s) ∧ Is .f32 r (phRe (turnF p n)) ∧ Is .f32 s (phIm (turnF p n))) ∧ ∃ k, w' = w.drewN k := by
  have i1 := intWord_is (p : Int); have i2 := intWord_is (n : Int)
  have HT := Lib.hid (show fneg .f64 (fop .quo .f64 (floatOfInt .f64 (p : Int)) (floatOfInt .f64 (n : Int))) = turnF p n from rfl)
  have h0 : ¬ ((n : Int) = 0) := by omega
  have h1 : ¬ (n = 0) := by omega
  clear hq hp hb hn
  go_enter Try.func114, Try.ntmps114
  go_wp2_with (first | (apply wpList_farith; rfl; rfl; rfl; rfl; (first | with_reducible assumption | exact Is.const rfl); (first | with_reducible assumption | exact Is.const rfl); intro r n hr) | (apply wpList_fneg; rfl; rfl) | fail)
  have hg := hr.fneg
  rw [HT.out] at hg
  refine (sPhz_any _ _ hg _).mono ?_; rintro e w' ⟨⟨r1, s1, rfl, hr1, hs1⟩, k1, rfl⟩
  go_wp2_with fail
  go_ret
  exact ⟨⟨_, _, rfl, hr1, hs1⟩, _, rfl⟩
end Go.Proofs.Ytlfnbnhbobohlaa
