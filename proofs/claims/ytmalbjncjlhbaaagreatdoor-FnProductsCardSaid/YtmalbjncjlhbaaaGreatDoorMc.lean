/-
  The program's products, powers, lengths, conjugates and quotients of complex numbers.
-/
import Derived.Test.YtmalbjncjlhbaaaGreatDoorCf
import Derived.Test.YtmalbjncjlhbaaaGreatDoorDw
import Derived.Test.YtmalbjncjlhbaaaGreatDoorRoot
namespace Go.Proofs.YtmalbjncjlhbaaaGreatDoor
open Go.Fl Go.RowKit
set_option linter.unusedSimpArgs false
set_option linter.unusedVariables false

def wpR (A B C D : Nat) : Nat := fop .sub .f64 (fop .mul .f64 (wid A) (wid C)) (fop .mul .f64 (wid B) (wid D))
def wpI (A B C D : Nat) : Nat := fop .add .f64 (fop .mul .f64 (wid A) (wid D)) (fop .mul .f64 (wid B) (wid C))
def pwF (X Y : Nat) : Nat := fop .add .f64 (fop .mul .f64 (wid X) (wid X)) (fop .mul .f64 (wid Y) (wid Y))
theorem is_neg32 {x X : Nat} (h : Is .f32 x X) : Is .f32 (Op.negFloat .f32 x) (Fl.fneg .f32 X) := by
  have h1 := neg_bits h.lt
  have hn : Fl.nan .f32 (Op.negFloat .f32 x) = Fl.nan .f32 x := by unfold Fl.nan isNaN; rw [h1.1]
  refine ⟨?_, h1.2.2⟩
  unfold Fl.fneg
  by_cases hx : Fl.nan .f32 X = true
  · rw [if_pos hx]; exact cn_nan _ (by rw [hn, h.nan, hx])
  · rw [if_neg hx, ← h.same (by simpa using hx)]
    exact cn_of _ (by rw [hn, h.nan]; simpa using hx)
set_option maxHeartbeats 1000000 in
theorem iWideProd_any (a b c d A B C D : Nat) (ia : Is .f32 a A) (ib : Is .f32 b B) (ic : Is .f32 c C) (id : Is .f32 d D) (w : World) :
    Calls Tryz.prog 60 #[.complex .f32 a b, .complex .f32 c d] w fun e w' => (∃ r s, e = .returned (.complex .f64 r s) ∧ Is .f64 r (wpR A B C D) ∧ Is .f64 s (wpI A B C D)) ∧ ∃ n, w' = w.drewN n := by
  go_enter Tryz.func60, Tryz.ntmps60
  go_wp2_with (first | (apply wpList_farith; rfl; rfl; rfl; rfl; (first | with_reducible assumption | exact Is.const rfl); (first | with_reducible assumption | exact Is.const rfl); intro r n hr) | (apply wpList_wid; rfl; rfl; (first | with_reducible assumption | exact Is.const rfl); exact U32; exact U64; intro r n hr) | ((with_reducible apply Loose.wp_start); kernel_rfl; kernel_rfl) | ((with_reducible apply Loose.start_cons)) | ((with_reducible apply Loose.start_nil)) | ((with_reducible apply Loose.walk_nil); intro n) | ((with_reducible apply Loose.walk_skip); exact rfl; (go_simp; first | done | exact rfl)) | ((with_reducible apply Loose.step_fc); rfl; rfl; rfl; rfl; (first | with_reducible assumption | exact Is.const rfl); (first | with_reducible assumption | exact Is.const rfl); (first | with_reducible assumption | exact rfl); exact rfl; (go_simp; first | done | exact rfl)) | ((with_reducible apply Loose.step_fa); rfl; rfl; rfl; rfl; (first | with_reducible assumption | exact Is.const rfl); (first | with_reducible assumption | exact Is.const rfl); exact rfl; (intro r; go_simp; first | done | exact rfl); intro r hr) | ((with_reducible apply Loose.step_wid); rfl; rfl; (first | with_reducible assumption | exact Is.const rfl); exact U32; exact U64; exact rfl; (intro r; go_simp; first | done | exact rfl); intro r hr) | ((with_reducible apply Loose.step_nar); rfl; rfl; (first | with_reducible assumption | exact Is.const rfl); exact U64; exact U32; (with_reducible assumption); exact rfl; (intro r; go_simp; first | done | exact rfl); intro r hr) | ((with_reducible apply Loose.step_assign); rfl; rfl; (with_reducible assumption); exact rfl; (intro r; go_simp; first | done | exact rfl); intro r hr) | ((with_reducible apply Loose.step_move); rfl; rfl; (with_reducible assumption); exact rfl; (intro r; go_simp; first | done | exact rfl); intro r hr) | ((with_reducible apply Loose.step_same); rfl; rfl; exact U32; exact U32; (first | with_reducible assumption | exact Is.const rfl); exact rfl; (intro r; go_simp; first | done | exact rfl); intro r hr) | ((with_reducible apply Loose.step_same); rfl; rfl; exact U64; exact U64; (first | with_reducible assumption | exact Is.const rfl); exact rfl; (intro r; go_simp; first | done | exact rfl); intro r hr) | ((with_reducible apply Loose.step_eq); rfl; (intro n; go_simp; first | done | exact rfl); exact rfl; (go_simp; first | done | exact rfl)))
  go_ret
  exact ⟨⟨_, _, rfl, by assumption, by assumption⟩, _, rfl⟩
theorem iMulC_any (a b c d A B C D : Nat) (ia : Is .f32 a A) (ib : Is .f32 b B) (ic : Is .f32 c C) (id : Is .f32 d D) (f1 : fits (wpR A B C D)) (f2 : fits (wpI A B C D)) (w : World) :
    Calls Tryz.prog 22 #[.complex .f32 a b, .complex .f32 c d] w fun e w' => (∃ r s, e = .returned (.complex .f32 r s) ∧ Is .f32 r (nar (wpR A B C D)) ∧ Is .f32 s (nar (wpI A B C D))) ∧ ∃ n, w' = w.drewN n := by
  go_enter Tryz.func22, Tryz.ntmps22
  go_wp2_with fail
  refine (iWideProd_any _ _ _ _ _ _ _ _ ia ib ic id _).mono ?_
  rintro e w1 ⟨⟨r, s, rfl, hr, hs⟩, n1, rfl⟩
  go_wp2_with fail
  refine (iNarrowCx_any _ _ _ _ hr hs f1 f2 _).mono ?_
  rintro e w1 ⟨⟨r2, s2, rfl, hr2, hs2⟩, n2, rfl⟩
  go_wp2_with fail
  go_ret
  exact ⟨⟨_, _, rfl, hr2, hs2⟩, _, rfl⟩
theorem iWidePow_any (x X y Y : Nat) (ix : Is .f32 x X) (iy : Is .f32 y Y) (w : World) :
    Calls Tryz.prog 61 #[.complex .f32 x y] w fun e w' => (∃ r, e = .returned (.float .f64 r) ∧ Is .f64 r (pwF X Y)) ∧ ∃ n, w' = w.drewN n := by
  go_enter Tryz.func61, Tryz.ntmps61
  go_wp2_with (first | (apply wpList_farith; rfl; rfl; rfl; rfl; (first | with_reducible assumption | exact Is.const rfl); (first | with_reducible assumption | exact Is.const rfl); intro r n hr) | (apply wpList_wid; rfl; rfl; (first | with_reducible assumption | exact Is.const rfl); exact U32; exact U64; intro r n hr))
  go_ret
  exact ⟨⟨_, rfl, by assumption⟩, _, rfl⟩
theorem iPowC_any (x X y Y : Nat) (ix : Is .f32 x X) (iy : Is .f32 y Y) (hf : fits (pwF X Y)) (w : World) :
    Calls Tryz.prog 23 #[.complex .f32 x y] w fun e w' => (∃ r, e = .returned (.float .f32 r) ∧ Is .f32 r (nar (pwF X Y))) ∧ ∃ n, w' = w.drewN n := by
  go_enter Tryz.func23, Tryz.ntmps23
  go_wp2_with fail
  refine (iWidePow_any _ _ _ _ ix iy _).mono ?_
  rintro e w1 ⟨⟨r, rfl, hr⟩, n1, rfl⟩
  go_wp2_with fail
  refine (iNarrow_any _ _ hr hf _).mono ?_
  rintro e w1 ⟨⟨r2, rfl, hr2⟩, n2, rfl⟩
  go_wp2_with fail
  go_ret
  exact ⟨⟨_, rfl, hr2⟩, _, rfl⟩
theorem iLongC_any (x X y Y : Nat) (ix : Is .f32 x X) (iy : Is .f32 y Y) (hf : fits (fsqrt (pwF X Y))) (w : World) :
    Calls Tryz.prog 25 #[.complex .f32 x y] w fun e w' => (∃ r, e = .returned (.float .f32 r) ∧ Is .f32 r (nar (fsqrt (pwF X Y)))) ∧ ∃ n, w' = w.drewN n := by
  go_enter Tryz.func25, Tryz.ntmps25
  go_wp2_with fail
  refine (iWidePow_any _ _ _ _ ix iy _).mono ?_
  rintro e w1 ⟨⟨r, rfl, hr⟩, n1, rfl⟩
  go_wp2_with fail
  refine (sqrt_any _ _ hr _).mono ?_
  rintro e w1 ⟨⟨r3, rfl, hr3⟩, n3, rfl⟩
  go_wp2_with fail
  refine (iNarrow_any _ _ hr3 hf _).mono ?_
  rintro e w1 ⟨⟨r2, rfl, hr2⟩, n2, rfl⟩
  go_wp2_with fail
  go_ret
  exact ⟨⟨_, rfl, hr2⟩, _, rfl⟩
theorem iConj_any (x X y Y : Nat) (ix : Is .f32 x X) (iy : Is .f32 y Y) (w : World) :
    Calls Tryz.prog 24 #[.complex .f32 x y] w fun e w' => (∃ r s, e = .returned (.complex .f32 r s) ∧ Is .f32 r X ∧ Is .f32 s (Fl.fneg .f32 Y)) ∧ ∃ n, w' = w.drewN n := by
  go_enter Tryz.func24, Tryz.ntmps24
  go_wp2_with (first | (apply wpList_fneg; rfl; rfl) | fail)
  go_ret
  exact ⟨⟨_, _, rfl, ix, is_neg32 iy⟩, 0, (World.drewN_zero _).symm⟩
theorem iScaleCx_any (a A b B y Y : Nat) (ia : Is .f32 a A) (ib : Is .f32 b B) (iy : Is .f32 y Y) (w : World) : Calls Tryz.prog 28 #[.complex .f32 a b, .float .f32 y] w fun e w' =>
    (∃ r s, e = .returned (.complex .f32 r s) ∧ Is .f32 r (fop .mul .f32 A Y) ∧ Is .f32 s (fop .mul .f32 B Y)) ∧ ∃ n, w' = w.drewN n := by
  go_enter Tryz.func28, Tryz.ntmps28
  go_wp2_with (first | (apply wpList_farith; rfl; rfl; rfl; rfl; (with_reducible exact ia); (with_reducible exact iy); intro r1 n1 hr1) | (apply wpList_farith; rfl; rfl; rfl; rfl; (with_reducible exact ib); (with_reducible exact iy); intro r2 n2 hr2) | fail)
  go_ret
  exact ⟨⟨_, _, rfl, hr1, hr2⟩, _, rfl⟩
set_option maxHeartbeats 1000000 in
theorem iQuoC_any (a b c d A B C D : Nat) (ia : Is .f32 a A) (ib : Is .f32 b B) (ic : Is .f32 c C) (id : Is .f32 d D) (f1 : fits (fop .quo .f64 (wpR A B C (Fl.fneg .f32 D)) (pwF C D))) (f2 : fits (fop .quo .f64 (wpI A B C (Fl.fneg .f32 D)) (pwF C D))) (w : World) :
    Calls Tryz.prog 27 #[.complex .f32 a b, .complex .f32 c d] w fun e w' => (∃ r s, e = .returned (.complex .f32 r s) ∧ Is .f32 r (nar (fop .quo .f64 (wpR A B C (Fl.fneg .f32 D)) (pwF C D))) ∧ Is .f32 s (nar (fop .quo .f64 (wpI A B C (Fl.fneg .f32 D)) (pwF C D)))) ∧ ∃ n, w' = w.drewN n := by
  go_enter Tryz.func27, Tryz.ntmps27
  go_wp2_with fail
  refine (iConj_any _ _ _ _ ic id _).mono ?_
  rintro e w1 ⟨⟨r0, s0, rfl, hr0, hs0⟩, n0, rfl⟩
  go_wp2_with fail
  refine (iWideProd_any _ _ _ _ _ _ _ _ ia ib hr0 hs0 _).mono ?_
  rintro e w1 ⟨⟨r, s, rfl, hr, hs⟩, n1, rfl⟩
  go_wp2_with fail
  refine (iWidePow_any _ _ _ _ ic id _).mono ?_
  rintro e w1 ⟨⟨p, rfl, hp⟩, n2, rfl⟩
  go_wp2_with (first | (apply wpList_farith; rfl; rfl; rfl; rfl; (with_reducible exact hr); (with_reducible exact hp); intro q1 k1 hq1) | (apply wpList_farith; rfl; rfl; rfl; rfl; (with_reducible exact hs); (with_reducible exact hp); intro q2 k2 hq2) | fail)
  refine (iNarrowCx_any _ _ _ _ hq1 hq2 f1 f2 _).mono ?_
  rintro e w1 ⟨⟨r2, s2, rfl, hr2, hs2⟩, n3, rfl⟩
  go_wp2_with fail
  go_ret
  exact ⟨⟨_, _, rfl, hr2, hs2⟩, _, rfl⟩
end Go.Proofs.YtmalbjncjlhbaaaGreatDoor
