/-
  Numbers in eighths: tables.
-/
import Derived.Test.YtlfnbnhbobohlaaWrap
namespace Go.Proofs.Ytlfnbnhbobohlaa
open Go.Fl Go.RowKit

/-- n eighths. -/
def E8 (n : Int) : Nat := fop .quo .f32 (floatOfInt .f32 n) 1090519040
def fitsB (b : Nat) : Bool := nan .f64 b || decide (rung FloatKind.f64.format b = FloatKind.f64.format.infRung) || decide (rung FloatKind.f32.format (nar b) < FloatKind.f32.format.infRung)
theorem fits_of {b : Nat} (h : fitsB b = true) : fits b := by
  simp only [fitsB, Bool.or_eq_true, decide_eq_true_eq] at h
  rcases h with (h | h) | h
  · exact .inl h
  · exact .inr (.inl h)
  · exact .inr (.inr h)

set_option maxRecDepth 100000
theorem tab_wrap4 : ((List.range 360).all fun n => fitsB (wrapD 4 (E8 ((n : Int) - 112))) && wrapF 4 (E8 ((n : Int) - 112)) == E8 (((n : Int) - 112) % 32)) = true := by decide +kernel
theorem tab_wrap5 : ((List.range 360).all fun n => fitsB (wrapD 5 (E8 ((n : Int) - 112))) && wrapF 5 (E8 ((n : Int) - 112)) == E8 (((n : Int) - 112) % 40)) = true := by decide +kernel
theorem tab_wrap6 : ((List.range 360).all fun n => fitsB (wrapD 6 (E8 ((n : Int) - 112))) && wrapF 6 (E8 ((n : Int) - 112)) == E8 (((n : Int) - 112) % 48)) = true := by decide +kernel
theorem tab_wrap7 : ((List.range 360).all fun n => fitsB (wrapD 7 (E8 ((n : Int) - 112))) && wrapF 7 (E8 ((n : Int) - 112)) == E8 (((n : Int) - 112) % 56)) = true := by decide +kernel
theorem tab_is : ((List.range 360).all fun n => isCanon .f32 (E8 ((n : Int) - 112)) && fin .f32 (E8 ((n : Int) - 112))) = true := by decide +kernel
theorem tab_int : ((List.range 56).all fun n => floatToIntVal .f32 (E8 n) .i64 == some ((n : Int) / 8) && fop .sub .f32 (E8 n) (floatOfInt .f32 ((n : Int) / 8)) == E8 ((n : Int) % 8)) = true := by decide +kernel

theorem wrap_e8 (s n : Int) (h0 : 4 ≤ s) (h1 : s ≤ 7) (n0 : -112 ≤ n) (n1 : n < 248) : fits (wrapD s (E8 n)) ∧ wrapF s (E8 n) = E8 (n % (8 * s)) := by
  have hn : (n + 112).toNat < 360 := by omega
  have e : (((n + 112).toNat : Nat) : Int) - 112 = n := by omega
  have key : (fitsB (wrapD s (E8 n)) && wrapF s (E8 n) == E8 (n % (8 * s))) = true := by
    obtain rfl | rfl | rfl | rfl : s = 4 ∨ s = 5 ∨ s = 6 ∨ s = 7 := by omega
    · have h := List.all_eq_true.1 tab_wrap4 _ (List.mem_range.2 hn); simp only [e] at h; exact h
    · have h := List.all_eq_true.1 tab_wrap5 _ (List.mem_range.2 hn); simp only [e] at h; exact h
    · have h := List.all_eq_true.1 tab_wrap6 _ (List.mem_range.2 hn); simp only [e] at h; exact h
    · have h := List.all_eq_true.1 tab_wrap7 _ (List.mem_range.2 hn); simp only [e] at h; exact h
  simp only [Bool.and_eq_true, beq_iff_eq] at key
  exact ⟨fits_of key.1, key.2⟩

theorem is_e8 (n : Int) (n0 : -112 ≤ n) (n1 : n < 248) : Is .f32 (E8 n) (E8 n) ∧ fin .f32 (E8 n) = true := by
  have hn : (n + 112).toNat < 360 := by omega
  have e : (((n + 112).toNat : Nat) : Int) - 112 = n := by omega
  have h := List.all_eq_true.1 tab_is _ (List.mem_range.2 hn)
  simp only [e, Bool.and_eq_true] at h
  exact ⟨Is.const h.1, h.2⟩

theorem e8_of_is {r : Nat} {n : Int} (n0 : -112 ≤ n) (n1 : n < 248) (h : Is .f32 r (E8 n)) : r = E8 n := h.same (nan_of_fin (is_e8 n n0 n1).2)

theorem int_e8 (n : Int) (n0 : 0 ≤ n) (n1 : n < 56) : floatToIntVal .f32 (E8 n) .i64 = some (n / 8) ∧ fop .sub .f32 (E8 n) (floatOfInt .f32 (n / 8)) = E8 (n % 8) := by
  have hn : n.toNat < 56 := by omega
  have e : ((n.toNat : Nat) : Int) = n := by omega
  have h := List.all_eq_true.1 tab_int _ (List.mem_range.2 hn)
  simp only [e, Bool.and_eq_true, beq_iff_eq] at h
  exact h

/-- The place of an eighth between the edges. -/
theorem iWrapped_e8 (a b : Int) (ha : 4 ≤ a) (ha' : a ≤ 7) (hb : 4 ≤ b) (hb' : b ≤ 7) (n m : Int) (n0 : -112 ≤ n) (n1 : n < 248) (m0 : -112 ≤ m) (m1 : m < 248) (w : World) :
    Calls Try.prog 130 #[.agg #[.int .i64 a, .int .i64 b], .complex .f32 (E8 n) (E8 m)] w fun e w' => e = .returned (.complex .f32 (E8 (n % (8 * a))) (E8 (m % (8 * b)))) ∧ Below w.heap.size w w' := by
  obtain ⟨f1, g1⟩ := wrap_e8 a n ha ha' n0 n1
  obtain ⟨f2, g2⟩ := wrap_e8 b m hb hb' m0 m1
  refine (iWrapped_any a b (by omega) (by omega) (by omega) (by omega) _ _ _ _ (is_e8 n n0 n1).1 (is_e8 m m0 m1).1 f1 f2 w).mono ?_
  rintro e w' ⟨⟨r, q, rfl, hr, hq⟩, hbl⟩
  rw [g1] at hr
  rw [g2] at hq
  have k1 := Int.emod_nonneg n (show 8 * a ≠ 0 by omega)
  have k2 := Int.emod_lt_of_pos n (show 0 < 8 * a by omega)
  have k3 := Int.emod_nonneg m (show 8 * b ≠ 0 by omega)
  have k4 := Int.emod_lt_of_pos m (show 0 < 8 * b by omega)
  rw [e8_of_is (by omega) (by omega) hr, e8_of_is (by omega) (by omega) hq]
  exact ⟨rfl, hbl⟩
end Go.Proofs.Ytlfnbnhbobohlaa
