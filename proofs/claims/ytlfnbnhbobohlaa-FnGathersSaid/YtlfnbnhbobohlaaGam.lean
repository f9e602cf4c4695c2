/-
  What is gathered is what is left: integers.
-/
import Derived.Test.YtlfnbnhbobohlaaFdt
import Derived.Test.YtlfnbnhbobohlaaRfd
import Derived.Test.YtlfnbnhbobohlaaScale
import Derived.Test.YtlfnbnhbobohlaaChg
import Derived.Test.YtlfnbnhbobohlaaShift
namespace Go.Proofs.Ytlfnbnhbobohlaa
open Go.Fl Go.RowKit
open Go.Joins (ownsRow_le)
set_option linter.unusedSimpArgs false
set_option linter.unusedVariables false

theorem at1_mul (F : Nat → Int) (i v : Int) (h0 : 0 ≤ i) (j : Nat) : F j * at1 i v j = at1 i (F i.toNat * v) j := by
  unfold at1
  by_cases h : (j : Int) = i
  · rw [if_pos h, if_pos h, show i.toNat = j by omega]
  · rw [if_neg h, if_neg h, Int.mul_zero]
/-- A field, times what a particle leaves, is what the particle gathers, times its charge. -/
theorem gather_left (a b : Int) (ha : 4 ≤ a) (hb : 4 ≤ b) (n : Nat) (hn : (n : Int) = a * b) (F : Nat → Int) (t : Pt) : sumN (fun j => F j * depAt a b j t) n = t.c * gatI a b F t.n t.m := by
  have c := fun x y => cornIx_in (a := a) (b := b) (x := x) (y := y) ha hb
  have e : ∀ j, F j * depAt a b j t = at1 (cornIx a b (t.n % (8 * a) / 8) (t.m % (8 * b) / 8)) (F (cornIx a b (t.n % (8 * a) / 8) (t.m % (8 * b) / 8)).toNat * (t.c * ((8 - t.n % 8) * (8 - t.m % 8)))) j
      + at1 (cornIx a b (t.n % (8 * a) / 8 + 1) (t.m % (8 * b) / 8)) (F (cornIx a b (t.n % (8 * a) / 8 + 1) (t.m % (8 * b) / 8)).toNat * (t.c * (t.n % 8 * (8 - t.m % 8)))) j
      + at1 (cornIx a b (t.n % (8 * a) / 8) (t.m % (8 * b) / 8 + 1)) (F (cornIx a b (t.n % (8 * a) / 8) (t.m % (8 * b) / 8 + 1)).toNat * (t.c * ((8 - t.n % 8) * (t.m % 8)))) j
      + at1 (cornIx a b (t.n % (8 * a) / 8 + 1) (t.m % (8 * b) / 8 + 1)) (F (cornIx a b (t.n % (8 * a) / 8 + 1) (t.m % (8 * b) / 8 + 1)).toNat * (t.c * (t.n % 8 * (t.m % 8)))) j := fun j => by
    unfold depAt
    rw [Int.mul_add, Int.mul_add, Int.mul_add, at1_mul F _ _ (c _ _).1, at1_mul F _ _ (c _ _).1, at1_mul F _ _ (c _ _).1, at1_mul F _ _ (c _ _).1]
  rw [sumN_congr (fun j _ => e j), sumN_add, sumN_add, sumN_add, sumN_at1 _ _ _ (c _ _).1, sumN_at1 _ _ _ (c _ _).1, sumN_at1 _ _ _ (c _ _).1, sumN_at1 _ _ _ (c _ _).1, hn, if_pos (c _ _).2, if_pos (c _ _).2, if_pos (c _ _).2, if_pos (c _ _).2]
  unfold gatI
  have m : ∀ f s : Int, f * (t.c * s) = t.c * (s * f) := fun f s => by rw [← Int.mul_assoc, Int.mul_comm f t.c, Int.mul_assoc, Int.mul_comm f s]
  rw [m, m, m, m, ← Int.mul_add, ← Int.mul_add, ← Int.mul_add]
theorem gat_even (a b k n m : Int) : gatI a b (fun _ => k) n m = 64 * k := by
  unfold gatI
  generalize n % 8 = f
  generalize m % 8 = h
  rw [← Int.add_mul, ← Int.add_mul, ← Int.add_mul]
  congr 1
  rw [Int.sub_mul, Int.mul_sub, Int.mul_sub, Int.sub_mul]
  omega
theorem gat_twice (a b : Int) (F : Nat → Int) (n m : Int) : gatI a b (fun j => 2 * F j) n m = 2 * gatI a b F n m := by
  unfold gatI
  have e : ∀ s f : Int, s * (2 * f) = 2 * (s * f) := fun s f => by rw [← Int.mul_assoc, Int.mul_comm s 2, Int.mul_assoc]
  rw [e, e, e, e]
  omega
theorem gat_in (a b : Int) (F : Nat → Int) (n m : Int) (hB : ∀ j, -32 ≤ F j ∧ F j ≤ 32) : -8192 ≤ gatI a b F n m ∧ gatI a b F n m ≤ 8192 := by
  have hs := sh_in9 (n % 8) (m % 8) (by omega) (by omega) (by omega) (by omega)
  have h0 := sf_in hs.1 (hB (cornIx a b (n % (8 * a) / 8) (m % (8 * b) / 8)).toNat)
  have h1 := sf_in hs.2.1 (hB (cornIx a b (n % (8 * a) / 8 + 1) (m % (8 * b) / 8)).toNat)
  have h2 := sf_in hs.2.2.1 (hB (cornIx a b (n % (8 * a) / 8) (m % (8 * b) / 8 + 1)).toNat)
  have h3 := sf_in hs.2.2.2 (hB (cornIx a b (n % (8 * a) / 8 + 1) (m % (8 * b) / 8 + 1)).toNat)
  unfold gatI
  omega
theorem dy_scale {k : FloatKind} {u t x : Nat} {n : Int} (h : Dy k (u + t) x n) : Dy k u x (n * 2 ^ t) := by
  refine ⟨h.lt, h.fin, ?_, by rw [h.val, Int.mul_assoc, ← Int.pow_add, Nat.add_comm t u]⟩
  rw [h.sg, decide_eq_decide]
  have hp : (0 : Int) < 2 ^ t := Int.pow_pos (by decide)
  constructor
  · intro hn; exact Int.mul_neg_of_neg_of_pos hn hp
  · intro hn
    rcases Int.lt_or_le n 0 with h1 | h1
    · exact h1
    · have := Int.mul_nonneg h1 (Int.le_of_lt hp); omega
set_option maxRecDepth 100000 in
theorem tab_twice : ((List.range 33).all fun n => fop .mul .f32 (E8 ((n : Int) - 16)) 1073741824 == E8 (2 * ((n : Int) - 16)) && fop .add .f32 (E8 ((n : Int) - 16)) (E8 ((n : Int) - 16)) == E8 (2 * ((n : Int) - 16))) = true := by decide +kernel
theorem twice_e8 (x : Int) (h0 : -16 ≤ x) (h1 : x ≤ 16) : fop .mul .f32 (E8 x) 1073741824 = E8 (2 * x) ∧ fop .add .f32 (E8 x) (E8 x) = E8 (2 * x) := by
  have h := List.all_eq_true.1 tab_twice (x + 16).toNat (List.mem_range.2 (by omega))
  simp only [show (((x + 16).toNat : Nat) : Int) - 16 = x by omega, Bool.and_eq_true, beq_iff_eq] at h
  exact h
/-- The field of eighths fs. -/
def eF (fs : List Int) (j : Nat) : Int := fs.getD j 0
theorem eF_in {fs : List Int} (h : ∀ z ∈ fs, -16 ≤ z ∧ z ≤ 16) (j : Nat) : -16 ≤ eF fs j ∧ eF fs j ≤ 16 := by
  unfold eF
  rw [List.getD_eq_getElem?_getD]
  by_cases hj : j < fs.length
  · rw [List.getElem?_eq_getElem hj]; exact h _ (List.getElem_mem hj)
  · rw [List.getElem?_eq_none (by omega)]; simp
theorem e8_at (fs : List Int) {j : Nat} (hj : j < fs.length) : (fs.map E8).getD j 0 = E8 (eF fs j) := by
  unfold eF
  rw [List.getD_eq_getElem?_getD, List.getElem?_map, List.getD_eq_getElem?_getD, List.getElem?_eq_getElem hj]
  rfl
theorem e8_dvl {fs : List Int} (h : ∀ z ∈ fs, -16 ≤ z ∧ z ≤ 16) : DvL (fs.map E8) (eF fs) := by
  intro j hj
  rw [List.length_map] at hj
  rw [e8_at fs hj]
  have := eF_in h j
  exact dy_e8' (by omega) (by omega)
/-- Twice the field, as it is scaled and as it is added. -/
theorem mul_list {fs : List Int} {rs : List Nat} (h : ∀ z ∈ fs, -16 ≤ z ∧ z ≤ 16) (hl : rs.length = fs.length) (he : Eqs rs (mulF (fs.map E8) 1073741824)) {j : Nat} (hj : j < rs.length) : rs.getD j 0 = E8 (2 * eF fs j) := by
  have h1 := he j hj
  have h2 := eF_in h j
  unfold mulF at h1
  rw [e8_at fs (by omega), cn_of .f32 (dy_e8 (eF fs j) (by omega) (by omega)).nan, (twice_e8 _ h2.1 h2.2).1] at h1
  exact e8_of_is (by omega) (by omega) h1
theorem add_list {fs : List Int} {rs : List Nat} (h : ∀ z ∈ fs, -16 ≤ z ∧ z ≤ 16) (hl : rs.length = fs.length) (he : Eqs rs (addF (fs.map E8) (fs.map E8))) {j : Nat} (hj : j < rs.length) : rs.getD j 0 = E8 (2 * eF fs j) := by
  have h1 := he j hj
  have h2 := eF_in h j
  unfold addF at h1
  rw [e8_at fs (by omega), cn_of .f32 (dy_e8 (eF fs j) (by omega) (by omega)).nan, (twice_e8 _ h2.1 h2.2).2] at h1
  exact e8_of_is (by omega) (by omega) h1
theorem e8_dyl {rs : List Nat} {F : Nat → Int} (h : ∀ j, j < rs.length → rs.getD j 0 = E8 (F j)) (hB : ∀ j, -32 ≤ F j ∧ F j ≤ 32) : DyL rs (fun j => F j * 2 ^ 6) ∧ DvL rs F :=
  ⟨fun j hj => by rw [h j hj]; exact dy_scale (u := 140) (t := 6) (dy_e8 (F j) (by have := hB j; omega) (by have := hB j; omega)), fun j hj => by rw [h j hj]; exact dy_e8' (by have := hB j; omega) (by have := hB j; omega)⟩
theorem rep_dvl {n p : Nat} {k : Int} (h : Dv .f32 146 p k) : DvL (List.replicate n p) (fun _ => k) := by
  intro j hj
  rw [List.length_replicate] at hj
  rw [List.getD_eq_getElem?_getD, List.getElem?_replicate, if_pos hj]
  exact h
theorem half_dv : Dy .f32 146 1056964608 4 ∧ Dy .f32 146 3221225472 (-16) := ⟨Dy.of (by decide +kernel), Dy.of (by decide +kernel)⟩
theorem two_dv : Dv .f32 149 1073741824 2 := (Dy.of (by decide +kernel)).dv
end Go.Proofs.Ytlfnbnhbobohlaa
