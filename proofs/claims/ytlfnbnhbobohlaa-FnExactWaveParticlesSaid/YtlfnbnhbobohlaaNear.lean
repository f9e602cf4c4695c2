/-
  Neighbours around the edges: their indices, of the model.
-/
import Derived.Test.YtlfnbnhbobohlaaFby
namespace Go.Proofs.Ytlfnbnhbobohlaa
open Go.Fl Go.RowKit
open Go.Joins (ownsRow_le)
set_option linter.unusedSimpArgs false
set_option linter.unusedVariables false

/-- The index of the neighbour that lies dx and dy further. -/
def nbI (a b dx dy : Int) (u v : Nat) : Nat := (((u : Int) + dx) % a + a * (((v : Int) + dy) % b)).toNat
def nbF (a b : Int) (xs : List Nat) (dx dy : Int) (j : Nat) : Nat := cn .f32 (xs.getD (nbI a b dx dy (j % a.toNat) (j / a.toNat)) 0)
theorem nbI_facts {a b : Int} (dx dy : Int) (u v : Nat) (ha : 4 ≤ a) (hb : 4 ≤ b) : (nbI a b dx dy u v : Int) = ((u : Int) + dx) % a + a * (((v : Int) + dy) % b) ∧ (nbI a b dx dy u v : Int) < a * b := by
  have hp := emod_facts a ((u : Int) + dx) ha
  have hq := emod_facts b ((v : Int) + dy) hb
  have h0 : 0 ≤ a * (((v : Int) + dy) % b) := Int.mul_nonneg (by omega) hq.1
  have h1 : a * (((v : Int) + dy) % b + 1) ≤ a * b := Int.mul_le_mul_of_nonneg_left (by omega) (by omega)
  rw [Int.mul_add, Int.mul_one] at h1
  have e : (nbI a b dx dy u v : Int) = ((u : Int) + dx) % a + a * (((v : Int) + dy) % b) := by unfold nbI; rw [Int.toNat_of_nonneg (by omega)]
  exact ⟨e, by rw [e]; omega⟩
theorem at_point {a : Int} {u v j : Nat} (ha : 4 ≤ a) (hu : (u : Int) < a) (hj : (j : Int) = a * v + u) : j % a.toNat = u ∧ j / a.toNat = v := by
  obtain ⟨n, rfl⟩ := Int.eq_ofNat_of_zero_le (show 0 ≤ a by omega)
  have hj' : j = n * v + u := by exact_mod_cast hj
  rw [Int.toNat_natCast, hj', Nat.mul_add_mod, Nat.mod_eq_of_lt (by omega), Nat.mul_add_div (by omega), Nat.div_eq_of_lt (show u < n by omega), Nat.add_zero]
  exact ⟨rfl, rfl⟩
theorem nbF_at {a b : Int} (xs : List Nat) (dx dy : Int) {u v j : Nat} (ha : 4 ≤ a) (hu : (u : Int) < a) (hj : (j : Int) = a * v + u) : nbF a b xs dx dy j = cn .f32 (xs.getD (nbI a b dx dy u v) 0) := by
  unfold nbF
  rw [(at_point ha hu hj).1, (at_point ha hu hj).2]
/-- Half of the difference of two neighbours. -/
def gapF (a b : Int) (xs : List Nat) (dx dy : Int) (j : Nat) : Nat := fop .mul .f32 1056964608 (fop .sub .f32 (nbF a b xs (-dx) (-dy) j) (nbF a b xs dx dy j))

end Go.Proofs.Ytlfnbnhbobohlaa
