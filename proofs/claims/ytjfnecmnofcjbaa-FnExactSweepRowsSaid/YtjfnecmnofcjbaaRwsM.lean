/-
  Sweeps of rows: what both texts reckon.
-/
import Derived.Test.YtjfnecmnofcjbaaRowT
import Derived.Test.YtjfnecmnofcjbaaNear
namespace Go.Proofs.Ytjfnecmnofcjbaa
open Go.Fl Go.RowKit
open Go.Joins (ownsRow_le)
set_option linter.unusedSimpArgs false
set_option linter.unusedVariables false

theorem lt_of_ar {a b : Int} {n k : Nat} (h : (n : Int) = a * b) (hk : (k : Int) < a * b) : k < n := by omega
def lstR (n : Nat) (F : Nat → Nat) : List Nat := (List.range n).map F
theorem lstR_len (n : Nat) (F : Nat → Nat) : (lstR n F).length = n := by simp [lstR]
theorem lstR_at {n j : Nat} (F : Nat → Nat) (h : j < n) : (lstR n F).getD j 0 = F j := by
  rw [List.getD_eq_getElem?_getD]; simp [lstR, h]
/-- Lists that are the same, up to the bits of not-a-numbers. -/
def SimR (xs ys : List Nat) : Prop := xs.length = ys.length ∧ ∀ j, cn .f32 (xs.getD j 0) = cn .f32 (ys.getD j 0)
theorem simR_of {es : List Nat} {F : Nat → Nat} {n : Nat} (hl : es.length = n) (h : EqOn es F 0 n) : SimR es (lstR n F) := by
  refine ⟨by rw [hl, lstR_len], fun j => ?_⟩
  rcases Nat.lt_or_ge j n with hj | hj
  · rw [lstR_at F hj, (h j (Nat.zero_le _) hj).eq]; exact (h j (Nat.zero_le _) hj).canon.symm
  · rw [List.getD_eq_getElem?_getD, List.getD_eq_getElem?_getD, List.getElem?_eq_none (by omega), List.getElem?_eq_none (by rw [lstR_len]; omega)]
theorem lstR_congr {n : Nat} {F G : Nat → Nat} (h : ∀ j, j < n → F j = G j) : lstR n F = lstR n G := List.map_congr_left fun j hj => h j (List.mem_range.1 hj)
theorem triS_sim {lo mi up xs ys : List Nat} (h : SimR xs ys) : ∀ k, triS lo mi up xs k = triS lo mi up ys k := by
  intro k
  induction k with
  | zero => show (_, _, _) = (_, _, _); rw [h.2]
  | succ k ih => show (_, _, _) = (_, _, _); rw [ih, h.2]
theorem triB_sim {lo mi up xs ys : List Nat} (h : SimR xs ys) (n : Nat) : ∀ k, triB lo mi up xs n k = triB lo mi up ys n k := by
  intro k
  induction k with
  | zero => show (triS _ _ _ _ _).2.2 = _; rw [triS_sim h]; rfl
  | succ k ih =>
    show fop .sub .f32 (triS lo mi up xs (n - 2 - k)).2.2 (fop .mul .f32 (triS lo mi up xs (n - 2 - k)).2.1 (triB lo mi up xs n k)) = _
    rw [triS_sim h, ih]; rfl
theorem ringP_sim {xs ys : List Nat} (h : SimR xs ys) (k : Nat) : ringP xs k = ringP ys k := by
  unfold ringP triX
  rw [h.1, triB_sim h]
theorem ringV_sim {xs ys : List Nat} (h : SimR xs ys) (k : Nat) : ringV xs k = ringV ys k := by
  unfold ringV ringF
  rw [ringP_sim h, ringP_sim h, ringP_sim h, h.1]
/-- The right side of a row. -/
def rightF (a b : Int) (L V : Nat → Nat) (y x : Nat) : Nat := fop .add .f32 (fop .add .f32 (L (x + a.toNat * y)) (V (nbI a b 0 (-1) x y))) (V (nbI a b 0 1 x y))
/-- The potential when the first rows have been solved. -/
def rowsF (a b : Int) (L F : Nat → Nat) : Nat → Nat → Nat
  | 0 => F
  | y + 1 => fun j => if j / a.toNat = y then ringV (lstR a.toNat (rightF a b L (rowsF a b L F y) y)) (j % a.toNat) else rowsF a b L F y j
theorem row_ix {a b : Int} {n x y : Nat} (ha : 4 ≤ a) (hn : (n : Int) = a * b) (hx : x < a.toNat) (hy : (y : Int) < b) : x + a.toNat * y < n := by
  obtain ⟨m, rfl⟩ := Int.eq_ofNat_of_zero_le (show 0 ≤ a by omega)
  rw [Int.toNat_natCast] at hx ⊢
  have : (m : Int) * ((y : Int) + 1) ≤ (m : Int) * b := Int.mul_le_mul_of_nonneg_left (by omega) (by omega)
  rw [Int.mul_add, Int.mul_one] at this
  have e : ((m * y : Nat) : Int) = (m : Int) * (y : Int) := by simp
  omega
theorem rightF_congr {a b : Int} {L L' V V' : Nat → Nat} {n : Nat} (ha : 4 ≤ a) (hb : 4 ≤ b) (hn : (n : Int) = a * b) (hL : ∀ j, j < n → L j = L' j) (hV : ∀ j, j < n → V j = V' j) {x y : Nat} (hx : x < a.toNat) (hy : (y : Int) < b) : rightF a b L V y x = rightF a b L' V' y x := by
  unfold rightF
  rw [hL _ (row_ix ha hn hx hy), hV _ (lt_of_ar hn (nbI_facts 0 (-1) _ _ ha hb).2), hV _ (lt_of_ar hn (nbI_facts 0 1 _ _ ha hb).2)]
theorem rowsF_congr {a b : Int} {L L' F F' : Nat → Nat} {n : Nat} (ha : 4 ≤ a) (hb : 4 ≤ b) (hn : (n : Int) = a * b) (hL : ∀ j, j < n → L j = L' j) (hF : ∀ j, j < n → F j = F' j) : ∀ y : Nat, (y : Int) ≤ b → ∀ j, j < n → rowsF a b L F y j = rowsF a b L' F' y j := by
  intro y
  induction y with
  | zero => intro _ j hj; exact hF j hj
  | succ y ih =>
    intro hy j hj
    show (if j / a.toNat = y then _ else _) = (if j / a.toNat = y then _ else _)
    rw [lstR_congr (fun x hx => rightF_congr ha hb hn hL (ih (by omega)) hx (by omega)), ih (by omega) j hj]
/-- A row is written. -/
theorem rows_step {a b : Int} {L F : Nat → Nat} {n y : Nat} {es fs rs qs : List Nat} (ha : 4 ≤ a) (hb : 4 ≤ b) (hn : (n : Int) = a * b) (hy : (y : Int) < b) (he : EqOn es (rowsF a b L F y) 0 n)
    (hrl : rs.length = a.toNat) (hr : EqOn rs (rightF a b L (fun j => cn .f32 (es.getD j 0)) y) 0 a.toNat) (hq : EqOn qs (ringV rs) 0 a.toNat)
    (hf : ∀ j, j < n → fs.getD j 0 = if j / a.toNat = y then qs.getD (j % a.toNat) 0 else es.getD j 0) : EqOn fs (rowsF a b L F (y + 1)) 0 n := by
  intro j h1 hj
  rw [hf j hj]
  show Is .f32 _ (if j / a.toNat = y then _ else _)
  by_cases h : j / a.toNat = y
  · rw [if_pos h, if_pos h]
    have hx : j % a.toNat < a.toNat := Nat.mod_lt _ (by omega)
    have hr2 : EqOn rs (rightF a b L (rowsF a b L F y) y) 0 a.toNat := fun x q1 q2 => by
      have := hr x q1 q2
      rwa [rightF_congr ha hb hn (fun _ _ => rfl) (fun i hi => (he i (Nat.zero_le _) hi).eq) q2 hy] at this
    rw [← ringV_sim (simR_of hrl hr2)]
    exact hq _ (Nat.zero_le _) hx
  · rw [if_neg h, if_neg h]; exact he j h1 hj
end Go.Proofs.Ytjfnecmnofcjbaa
