/-
  Two grids: what both texts reckon.
-/
import Derived.Test.YtjfnecmnofcjbaaSlvM
import Derived.Test.YtjfnecmnofcjbaaCoarC
import Derived.Test.YtjfnecmnofcjbaaFineB
import Derived.Test.YtjfnecmnofcjbaaRestS
namespace Go.Proofs.Ytjfnecmnofcjbaa
open Go.Fl Go.RowKit
open Go.Joins (ownsRow_le)
set_option linter.unusedSimpArgs false
set_option linter.unusedVariables false

/-- Lists that are the same, up to the bits of not-a-numbers. -/
def Sim (xs ys : List Nat) : Prop := xs.length = ys.length ∧ ∀ j, cn .f32 (xs.getD j 0) = cn .f32 (ys.getD j 0)
theorem sim_of {es : List Nat} {F : Nat → Nat} {n : Nat} (hl : es.length = n) (h : EqOn es F 0 n) : Sim es (lstF n F) := by
  refine ⟨by rw [hl, lstF_len], fun j => ?_⟩
  rcases Nat.lt_or_ge j n with hj | hj
  · rw [lstF_at F hj, (h j (Nat.zero_le _) hj).eq]; exact (h j (Nat.zero_le _) hj).canon.symm
  · rw [List.getD_eq_getElem?_getD, List.getD_eq_getElem?_getD, List.getElem?_eq_none (by omega), List.getElem?_eq_none (by rw [lstF_len]; omega)]
theorem lstF_congr {n : Nat} {F G : Nat → Nat} (h : ∀ j, j < n → F j = G j) : lstF n F = lstF n G := List.map_congr_left fun j hj => h j (List.mem_range.1 hj)
theorem lvlF_sim {xs ys : List Nat} (h : Sim xs ys) : lvlF xs = lvlF ys := by
  funext j
  unfold lvlF meanF
  rw [h.2 j, sumTo_congr h.1 (fun j _ => h.2 j) _ (Nat.le_refl _), h.1]
theorem restV_sim {a b : Int} {xs ys : List Nat} (L : Nat → Nat) (h : Sim xs ys) (j : Nat) : restV a b xs L j = restV a b ys L j := by
  unfold restV lapV nbF
  rw [h.2, h.2, h.2, h.2, h.2]
theorem csF_sim {a : Int} {xs ys : List Nat} (h : Sim xs ys) (j : Nat) : csF a xs j = csF a ys j := by
  unfold csF csN
  rw [h.2, h.2, h.2, h.2]
theorem fnF_sim {a : Int} {xs ys : List Nat} (h : Sim xs ys) (j : Nat) : fnF a xs j = fnF a ys j := by
  unfold fnF
  rw [h.2]
theorem solveF_sim {a b : Int} {xs ys : List Nat} (h : Sim xs ys) (R j : Nat) : solveF a b xs R j = solveF a b ys R j := by
  unfold solveF
  rw [h.1, lvlF_sim h]
theorem mul_swap (x y : Nat) : fop .mul .f32 x y = fop .mul .f32 y x := by
  have h : ∀ d e : Ieee.Datum, d.product e = e.product d := by
    intro d e
    cases d <;> cases e <;> simp [Ieee.Datum.product, Bool.xor_comm, Nat.mul_comm, Int.add_comm]
  unfold fop
  have e : floatBits .mul .f32 x y = floatBits .mul .f32 y x := by
    show FloatKind.f32.format.mul x y = FloatKind.f32.format.mul y x
    unfold Ieee.Format.mul
    rw [h]
  rw [e]
/-- A potential that has been corrected by the coarse one. -/
def corrF (a b : Int) (A : List Nat) (L : Nat → Nat) (j : Nat) : Nat :=
  fop .add .f32 (cn .f32 (A.getD j 0)) (fnF (a / 2) (lstF (a / 2 * (b / 2)).toNat (solveF (a / 2) (b / 2) (lstF (a / 2 * (b / 2)).toNat (fun j => fop .mul .f32 1082130432 (csF a (lstF A.length (restV a b A L)) j))) 20)) j)
theorem corrF_congr {a b : Int} {A A' : List Nat} {L L' : Nat → Nat} (h : Sim A A') (hL : ∀ j, j < A.length → L j = L' j) (j : Nat) : corrF a b A L j = corrF a b A' L' j := by
  have e : lstF A.length (restV a b A L) = lstF A'.length (restV a b A' L') := by
    rw [← h.1]
    refine lstF_congr fun j hj => ?_
    rw [restV_sim L h j]
    unfold restV
    rw [hL j hj]
  unfold corrF
  rw [h.2 j, e]
/-- Two grids. -/
def twoF (a b : Int) (xs zs : List Nat) (R : Nat) : Nat → Nat := roundsF a b (lvlF zs) xs.length (corrF a b (lstF xs.length (roundsF a b (lvlF zs) xs.length (fun j => cn .f32 (xs.getD j 0)) R)) (lvlF zs)) R
theorem twoF_of {a b : Int} {xs zs ls es bs fs : List Nat} {R : Nat} (h1 : fieldOk a b xs.length = true) (hl : EqOn ls (lvlF zs) 0 xs.length) (hel : es.length = xs.length)
    (he : EqOn es (roundsF a b (fun j => cn .f32 (ls.getD j 0)) xs.length (fun j => cn .f32 (xs.getD j 0)) R) 0 xs.length)
    (hb : EqOn bs (corrF a b es (fun j => cn .f32 (ls.getD j 0))) 0 xs.length)
    (hf : EqOn fs (roundsF a b (fun j => cn .f32 (ls.getD j 0)) xs.length (fun j => cn .f32 (bs.getD j 0)) R) 0 xs.length) : EqOn fs (twoF a b xs zs R) 0 xs.length := by
  have hA := fieldOk_true h1
  have hL : ∀ j, j < xs.length → cn .f32 (ls.getD j 0) = lvlF zs j := fun j hj => (hl j (Nat.zero_le _) hj).eq
  have he2 : EqOn es (roundsF a b (lvlF zs) xs.length (fun j => cn .f32 (xs.getD j 0)) R) 0 xs.length := he.congr (roundsF_congr hA.1 hA.2.2.1 hA.2.2.2.2.1 hL (fun _ _ => rfl) R)
  refine hf.congr (roundsF_congr hA.1 hA.2.2.1 hA.2.2.2.2.1 hL (fun j hj => ?_) R)
  show cn .f32 (bs.getD j 0) = _
  rw [(hb j (Nat.zero_le _) hj).eq]
  exact corrF_congr (sim_of hel he2) (by rw [hel]; exact hL) j
/-- What the correction leaves, step by step. -/
theorem corr_of {a b : Int} {es rs qs ss : List Nat} {L : Nat → Nat} (h1 : fieldOk a b es.length = true) (hrl : rs.length = es.length) (hr : EqOn rs (restV a b es L) 0 es.length)
    (hql : qs.length = (a / 2 * (b / 2)).toNat) (hq : EqOn qs (fun j => fop .mul .f32 1082130432 (csF a rs j)) 0 (a / 2 * (b / 2)).toNat)
    (hsl : ss.length = (a / 2 * (b / 2)).toNat) (hs : EqOn ss (solveF (a / 2) (b / 2) qs 20) 0 (a / 2 * (b / 2)).toNat) (j : Nat) :
    fop .add .f32 (cn .f32 (es.getD j 0)) (fnF (a / 2) ss j) = corrF a b es L j := by
  have s1 := sim_of hrl hr
  have s2 : EqOn qs (fun j => fop .mul .f32 1082130432 (csF a (lstF es.length (restV a b es L)) j)) 0 (a / 2 * (b / 2)).toNat := hq.congr fun j _ => by rw [csF_sim s1]
  have s3 : EqOn ss (solveF (a / 2) (b / 2) (lstF (a / 2 * (b / 2)).toNat (fun j => fop .mul .f32 1082130432 (csF a (lstF es.length (restV a b es L)) j))) 20) 0 (a / 2 * (b / 2)).toNat := hs.congr fun j _ => solveF_sim (sim_of hql s2) 20 j
  unfold corrF
  rw [fnF_sim (sim_of hsl s3) j]
/-- The half of a grid. -/
theorem half_facts {a b : Int} {n : Nat} (h1 : fieldOk a b n = true) (h : halves a b) : fieldOk (a / 2) (b / 2) (a / 2 * (b / 2)).toNat = true ∧ (2 * (a / 2) * (2 * (b / 2))).toNat = n ∧ 2 * (a / 2) = a ∧ 2 * (b / 2) = b ∧ 2 * (a / 2) ≤ 16 ∧ 2 * (b / 2) ≤ 16 := by
  have hA := fieldOk_true h1
  obtain ⟨e1, e2, e3, e4⟩ := h
  have ea : 2 * (a / 2) = a := by omega
  have eb : 2 * (b / 2) = b := by omega
  refine ⟨?_, ?_, ea, eb, by omega, by omega⟩
  · unfold fieldOk
    have hp : 4 * 4 ≤ a / 2 * (b / 2) := Int.mul_le_mul (by omega) (by omega) (by omega) (by omega)
    have hg : gridOk (a / 2) (b / 2) = true := decide_eq_true ⟨by omega, by omega, by omega, by omega⟩
    rw [hg, Bool.true_and, (grid_points (n := (a / 2 * (b / 2)).toNat) hg (by omega)).1]
    simp
  · rw [ea, eb]; have := hA.2.2.2.2.1; omega
end Go.Proofs.Ytjfnecmnofcjbaa
