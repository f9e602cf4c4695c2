/-
  Equations of a row around: what both texts reckon; no divisor is zero.
-/
import Derived.Test.YtjfnecmnofcjbaaRow1
namespace Go.Proofs.Ytjfnecmnofcjbaa
open Go.Fl Go.RowKit

def sideL (n : Nat) : List Nat := List.replicate n 3212836864
def midL (n : Nat) : List Nat := ((List.replicate n 1082130432).set 0 1090519040).set (n - 1) 1082654720
def otherL (n : Nat) : List Nat := ((List.replicate n 0).set 0 3229614080).set (n - 1) 3212836864
theorem sideL_len (n : Nat) : (sideL n).length = n := by simp [sideL]
theorem midL_len (n : Nat) : (midL n).length = n := by simp [midL]
theorem otherL_len (n : Nat) : (otherL n).length = n := by simp [otherL]
theorem rep_at {n k x : Nat} (hk : k < n) : (List.replicate n x).getD k 0 = x := by
  rw [List.getD_eq_getElem?_getD, List.getElem?_replicate, if_pos hk]; rfl
theorem midL_at {n k : Nat} (hn : 3 ≤ n) (hk : k < n) : (midL n).getD k 0 = if k = n - 1 then 1082654720 else if k = 0 then 1090519040 else 1082130432 := by
  unfold midL
  rw [getD_set _ _ _ _ (by simp; omega), getD_set _ _ _ _ (by simp; omega), rep_at hk]

/-- The quotients of the inner equations. -/
def ringC : Nat → Nat
  | 0 => fop .quo .f32 3212836864 1090519040
  | k + 1 => fop .quo .f32 3212836864 (fop .sub .f32 1082130432 (fop .mul .f32 3212836864 (ringC k)))
def ringS : List Nat := [3187671040, 3196330248, 3196638173, 3196660218, 3196661800, 3196661914, 3196661922, 3196661923]
theorem ringS_step : (ringS.all fun c => ringS.contains (fop .quo .f32 3212836864 (fop .sub .f32 1082130432 (fop .mul .f32 3212836864 c))) && !fcmp .eql .f32 (fop .sub .f32 1082130432 (fop .mul .f32 3212836864 c)) 0 && !fcmp .eql .f32 (fop .sub .f32 1082654720 (fop .mul .f32 3212836864 c)) 0) = true := by decide +kernel
theorem ringC_zero : ringS.contains (ringC 0) = true := by decide +kernel
theorem ringC_mem (k : Nat) : ringC k ∈ ringS := by
  induction k with
  | zero => simpa using ringC_zero
  | succ k ih =>
    have := List.all_eq_true.1 ringS_step _ ih
    simp only [Bool.and_eq_true] at this
    have h := this.1.1
    simp only [List.contains_eq_mem, decide_eq_true_eq] at h
    exact h
theorem ringC_go (k : Nat) : fcmp .eql .f32 (fop .sub .f32 1082130432 (fop .mul .f32 3212836864 (ringC k))) 0 = false ∧ fcmp .eql .f32 (fop .sub .f32 1082654720 (fop .mul .f32 3212836864 (ringC k))) 0 = false := by
  have := List.all_eq_true.1 ringS_step _ (ringC_mem k)
  simp only [Bool.and_eq_true, Bool.not_eq_true'] at this
  exact ⟨this.1.2, this.2⟩
theorem ring_first : fcmp .eql .f32 1090519040 0 = false := by decide +kernel
theorem cn_side : cn .f32 3212836864 = 3212836864 := by decide
theorem cn_mid : cn .f32 1082130432 = 1082130432 ∧ cn .f32 1090519040 = 1090519040 ∧ cn .f32 1082654720 = 1082654720 := by decide

theorem ring_c {n : Nat} (ri : List Nat) (hn : 3 ≤ n) : ∀ k, k + 1 < n → triC (sideL n) (midL n) (sideL n) ri k = ringC k := by
  intro k
  induction k with
  | zero =>
    intro h
    show fop .quo .f32 (cn .f32 ((sideL n).getD 0 0)) (cn .f32 ((midL n).getD 0 0)) = _
    rw [show (sideL n).getD 0 0 = 3212836864 from rep_at (by omega), midL_at hn (by omega), if_neg (by omega), if_pos rfl, cn_side, cn_mid.2.1]
    rfl
  | succ k ih =>
    intro h
    rw [triC_eq, triM_succ, ih (by omega), show (sideL n).getD (k + 1) 0 = 3212836864 from rep_at (by omega), midL_at hn (by omega), if_neg (by omega), if_neg (by omega), cn_side, cn_mid.1]
    rfl
theorem ring_fine {n : Nat} (ri : List Nat) (hn : 3 ≤ n) : triFine (sideL n) (midL n) (sideL n) ri n = true := by
  refine triFine_all fun k hk => ?_
  show fcmp .eql .f32 (triM (sideL n) (midL n) (sideL n) ri k) 0 = false
  cases k with
  | zero =>
    rw [triM_zero, midL_at hn (by omega), if_neg (by omega), if_pos rfl, cn_mid.2.1]
    exact ring_first
  | succ k =>
    rw [triM_succ, ring_c ri hn k hk, show (sideL n).getD (k + 1) 0 = 3212836864 from rep_at hk, midL_at hn hk, cn_side]
    by_cases e : k + 1 = n - 1
    · rw [if_pos e, cn_mid.2.2]; exact (ringC_go k).2
    · rw [if_neg e, if_neg (by omega), cn_mid.1]; exact (ringC_go k).1

def ringP (ri : List Nat) (k : Nat) : Nat := triX (sideL ri.length) (midL ri.length) (sideL ri.length) ri ri.length k
def ringQ (n k : Nat) : Nat := triX (sideL n) (midL n) (sideL n) (otherL n) n k
def ringF (ri : List Nat) : Nat := fop .quo .f32 (fop .add .f32 (ringP ri 0) (fop .mul .f32 1048576000 (ringP ri (ri.length - 1)))) (fop .add .f32 (fop .add .f32 1065353216 (ringQ ri.length 0)) (fop .mul .f32 1048576000 (ringQ ri.length (ri.length - 1))))
def ringV (ri : List Nat) (k : Nat) : Nat := fop .sub .f32 (ringP ri k) (fop .mul .f32 (ringF ri) (ringQ ri.length k))
theorem side_lt (n : Nat) : ∀ x ∈ sideL n, x < 2 ^ FloatKind.f32.format.width := by
  intro x hx
  rw [(List.mem_replicate.1 hx).2]; decide
theorem set_lt {xs : List Nat} (h : ∀ x ∈ xs, x < 2 ^ FloatKind.f32.format.width) (k : Nat) {r : Nat} (hr : r < 2 ^ FloatKind.f32.format.width) : ∀ x ∈ xs.set k r, x < 2 ^ FloatKind.f32.format.width := by
  intro x hx
  rcases List.mem_or_eq_of_mem_set hx with h' | h'
  · exact h x h'
  · rw [h']; exact hr
theorem rep_lt (n : Nat) {r : Nat} (hr : r < 2 ^ FloatKind.f32.format.width) : ∀ x ∈ List.replicate n r, x < 2 ^ FloatKind.f32.format.width := by
  intro x hx
  rw [(List.mem_replicate.1 hx).2]; exact hr
theorem mid_lt (n : Nat) : ∀ x ∈ midL n, x < 2 ^ FloatKind.f32.format.width := set_lt (set_lt (rep_lt n (by decide)) 0 (by decide)) _ (by decide)
theorem other_lt (n : Nat) : ∀ x ∈ otherL n, x < 2 ^ FloatKind.f32.format.width := set_lt (set_lt (rep_lt n (by decide)) 0 (by decide)) _ (by decide)
end Go.Proofs.Ytjfnecmnofcjbaa
