/-
  Places between the edges of a grid.
-/
import Derived.Test.YtlfnbnhbobohlaaFlr
import Derived.Test.YtlfnbnhbobohlaaNar
namespace Go.Proofs.Ytlfnbnhbobohlaa
open Go.Fl Go.RowKit

/-- How many times around. -/
def wrapT (s : Int) (X : Nat) : Nat := floorW (fop .quo .f64 (wid X) (floatOfInt .f64 s))
def wrapD (s : Int) (X : Nat) : Nat := fop .sub .f64 (wid X) (fop .mul .f64 (floatOfInt .f64 s) (wrapT s X))
/-- A place between the edges. -/
def wrapF (s : Int) (X : Nat) : Nat := if fcmp .leq .f32 (nar (wrapD s X)) 0 = true then 0 else if fcmp .geq .f32 (nar (wrapD s X)) (floatOfInt .f32 s) = true then 0 else nar (wrapD s X)

theorem side_canon : ∀ s : Fin 17, (isCanon .f64 (floatOfInt .f64 (s.val : Int)) && isCanon .f32 (floatOfInt .f32 (s.val : Int))) = true := by decide +kernel
theorem side64 (s : Int) (h0 : 0 ≤ s) (h1 : s ≤ 16) : Is .f64 (floatOfInt .f64 s) (floatOfInt .f64 s) := by
  have h := side_canon ⟨s.toNat, by omega⟩
  simp only [Bool.and_eq_true] at h
  rw [show ((s.toNat : Nat) : Int) = s by omega] at h
  exact Is.const h.1
theorem side32 (s : Int) (h0 : 0 ≤ s) (h1 : s ≤ 16) : Is .f32 (floatOfInt .f32 s) (floatOfInt .f32 s) := by
  have h := side_canon ⟨s.toNat, by omega⟩
  simp only [Bool.and_eq_true] at h
  rw [show ((s.toNat : Nat) : Int) = s by omega] at h
  exact Is.const h.2

set_option maxHeartbeats 1000000 in
set_option maxRecDepth 100000 in
theorem iWrap_any (s : Int) (h0 : 0 ≤ s) (h1 : s ≤ 16) (x X : Nat) (ix : Is .f32 x X) (hf : fits (wrapD s X)) (w : World) : Calls Try.prog 149 #[.int .i64 s, .float .f32 x] w fun e w' => (∃ r, e = .returned (.float .f32 r) ∧ Is .f32 r (wrapF s X)) ∧ ∃ n, w' = w.drewN n := by
  have is64 := side64 s h0 h1
  have is32 := side32 s h0 h1
  have HF := Lib.hid hf
  have HW := Lib.hid (show wrapT s X = floorW (fop .quo .f64 (wid X) (floatOfInt .f64 s)) from rfl)
  have HD := Lib.hid (show wrapD s X = fop .sub .f64 (wid X) (fop .mul .f64 (floatOfInt .f64 s) (wrapT s X)) from rfl)
  have HR := Lib.hid (show wrapF s X = if fcmp .leq .f32 (nar (wrapD s X)) 0 = true then 0 else if fcmp .geq .f32 (nar (wrapD s X)) (floatOfInt .f32 s) = true then 0 else nar (wrapD s X) from rfl)
  clear hf
  generalize wrapF s X = R at HR ⊢
  generalize wrapD s X = D at HF HD HR
  generalize wrapT s X = T at HW HD
  have hg1 : ∀ r, Is .f64 r (floorW (fop .quo .f64 (wid X) (floatOfInt .f64 s))) → Is .f64 r T := fun r h => by rw [HW.out]; exact h
  have hg2 : ∀ r, Is .f64 r (fop .sub .f64 (wid X) (fop .mul .f64 (floatOfInt .f64 s) T)) → Is .f64 r D := fun r h => by rw [HD.out]; exact h
  cases hl : fcmp .leq .f32 (nar D) 0 with
  | true =>
    go_enter Try.func149, Try.ntmps149
    go_wp2_with (first | (apply wpList_wid; rfl; rfl; (first | with_reducible assumption | exact Is.const rfl); exact U32; exact U64; intro r n hr) | (apply wpList_farith; rfl; rfl; rfl; rfl; (first | with_reducible assumption | exact Is.const rfl); (first | with_reducible assumption | exact Is.const rfl); intro r n hr) | (apply wpList_fcmp; rfl; rfl; rfl; rfl; (first | with_reducible assumption | exact Is.const rfl); (first | with_reducible assumption | exact Is.const rfl); (first | with_reducible assumption | exact rfl)) | (go_at_call 159; refine (Floor_any _ _ (by assumption) _).mono ?_; rintro e w' ⟨⟨r, rfl, hr⟩, n, rfl⟩; replace hr := hg1 _ hr) | (go_at_call 107; refine (iNarrow_any _ D (hg2 _ (by assumption)) HF.out _).mono ?_; rintro e w' ⟨⟨r, rfl, hr⟩, n, rfl⟩))
    go_ret
    exact ⟨⟨0, rfl, by rw [HR.out, if_pos hl]; exact Is.const rfl⟩, _, rfl⟩
  | false =>
    cases hgq : fcmp .geq .f32 (nar D) (floatOfInt .f32 s) with
    | true =>
      go_enter Try.func149, Try.ntmps149
      go_wp2_with (first | (apply wpList_wid; rfl; rfl; (first | with_reducible assumption | exact Is.const rfl); exact U32; exact U64; intro r n hr) | (apply wpList_farith; rfl; rfl; rfl; rfl; (first | with_reducible assumption | exact Is.const rfl); (first | with_reducible assumption | exact Is.const rfl); intro r n hr) | (apply wpList_fcmp; rfl; rfl; rfl; rfl; (first | with_reducible assumption | exact Is.const rfl); (first | with_reducible assumption | exact Is.const rfl); (first | with_reducible assumption | exact rfl)) | (go_at_call 159; refine (Floor_any _ _ (by assumption) _).mono ?_; rintro e w' ⟨⟨r, rfl, hr⟩, n, rfl⟩; replace hr := hg1 _ hr) | (go_at_call 107; refine (iNarrow_any _ D (hg2 _ (by assumption)) HF.out _).mono ?_; rintro e w' ⟨⟨r, rfl, hr⟩, n, rfl⟩))
      go_ret
      exact ⟨⟨0, rfl, by rw [HR.out, if_neg (by rw [hl]; decide), if_pos hgq]; exact Is.const rfl⟩, _, rfl⟩
    | false =>
      go_enter Try.func149, Try.ntmps149
      go_wp2_with (first | (apply wpList_wid; rfl; rfl; (first | with_reducible assumption | exact Is.const rfl); exact U32; exact U64; intro r n hr) | (apply wpList_farith; rfl; rfl; rfl; rfl; (first | with_reducible assumption | exact Is.const rfl); (first | with_reducible assumption | exact Is.const rfl); intro r n hr) | (apply wpList_fcmp; rfl; rfl; rfl; rfl; (first | with_reducible assumption | exact Is.const rfl); (first | with_reducible assumption | exact Is.const rfl); (first | with_reducible assumption | exact rfl)) | (go_at_call 159; refine (Floor_any _ _ (by assumption) _).mono ?_; rintro e w' ⟨⟨r, rfl, hr⟩, n, rfl⟩; replace hr := hg1 _ hr) | (go_at_call 107; refine (iNarrow_any _ D (hg2 _ (by assumption)) HF.out _).mono ?_; rintro e w' ⟨⟨r, rfl, hr⟩, n, rfl⟩))
      go_ret
      exact ⟨⟨_, rfl, by rw [HR.out, if_neg (by rw [hl]; decide), if_neg (by rw [hgq]; decide)]; assumption⟩, _, rfl⟩

set_option maxHeartbeats 1000000 in
set_option maxRecDepth 100000 in
theorem iEach_any (a b : Int) (ha : 0 ≤ a) (ha' : a ≤ 16) (hb : 0 ≤ b) (hb' : b ≤ 16) (x y X Y : Nat) (ix : Is .f32 x X) (iy : Is .f32 y Y) (fx : fits (wrapD a X)) (fy : fits (wrapD b Y)) (w : World) :
    Calls Try.prog 148 #[.complex .f32 x y, .func (.func 149) #[.int .i64 a] #[], .func (.func 149) #[.int .i64 b] #[]] w fun e w' => (∃ r q, e = .returned (.complex .f32 r q) ∧ Is .f32 r (wrapF a X) ∧ Is .f32 q (wrapF b Y)) ∧ ∃ n, w' = w.drewN n := by
  have HX := Lib.hid fx
  have HY := Lib.hid fy
  clear fx fy
  go_enter Try.func148, Try.ntmps148
  go_wp2_with fail
  refine (iWrap_any a ha ha' x X ix HX.out _).mono ?_
  rintro e w' ⟨⟨r, rfl, hr⟩, n, rfl⟩
  go_wp2_with fail
  refine (iWrap_any b hb hb' y Y iy HY.out _).mono ?_
  rintro e w' ⟨⟨q, rfl, hq⟩, n', rfl⟩
  go_wp2_with fail
  go_ret
  exact ⟨⟨_, _, rfl, hr, hq⟩, _, rfl⟩

set_option maxHeartbeats 1000000 in
set_option maxRecDepth 100000 in
theorem iWrapped_any (a b : Int) (ha : 0 ≤ a) (ha' : a ≤ 16) (hb : 0 ≤ b) (hb' : b ≤ 16) (x y X Y : Nat) (ix : Is .f32 x X) (iy : Is .f32 y Y) (fx : fits (wrapD a X)) (fy : fits (wrapD b Y)) (w : World) :
    Calls Try.prog 130 #[.agg #[.int .i64 a, .int .i64 b], .complex .f32 x y] w fun e w' => (∃ r q, e = .returned (.complex .f32 r q) ∧ Is .f32 r (wrapF a X) ∧ Is .f32 q (wrapF b Y)) ∧ Below w.heap.size w w' := by
  have HX := Lib.hid fx
  have HY := Lib.hid fy
  clear fx fy
  go_enter Try.func130, Try.ntmps130
  go_wp2_with fail
  refine (iEach_any a b ha ha' hb hb' x y X Y ix iy HX.out HY.out _).mono ?_
  rintro e w' ⟨⟨r, q, rfl, hr, hq⟩, n, rfl⟩
  go_wp2_with fail
  go_ret
  exact ⟨⟨_, _, rfl, hr, hq⟩, below_drewN ((Below.refl _ _).alloc (Nat.le_refl _) _) _⟩
end Go.Proofs.Ytlfnbnhbobohlaa
