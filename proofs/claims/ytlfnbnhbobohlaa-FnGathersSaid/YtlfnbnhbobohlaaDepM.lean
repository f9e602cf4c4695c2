/-
  What particles leave at corners: integers.
-/
import Derived.Test.YtlfnbnhbobohlaaPtM
import Derived.Test.YtlfnbnhbobohlaaSha
namespace Go.Proofs.Ytlfnbnhbobohlaa
open Go.Fl Go.RowKit
set_option linter.unusedSimpArgs false
set_option linter.unusedVariables false

def at1 (i v : Int) (j : Nat) : Int := if (j : Int) = i then v else 0
/-- What a particle leaves at the point j, in units of 2 ^ -9. -/
def depAt (a b : Int) (j : Nat) (t : Pt) : Int :=
  at1 (cornIx a b (t.n % (8 * a) / 8) (t.m % (8 * b) / 8)) (t.c * ((8 - t.n % 8) * (8 - t.m % 8))) j + at1 (cornIx a b (t.n % (8 * a) / 8 + 1) (t.m % (8 * b) / 8)) (t.c * (t.n % 8 * (8 - t.m % 8))) j
    + at1 (cornIx a b (t.n % (8 * a) / 8) (t.m % (8 * b) / 8 + 1)) (t.c * ((8 - t.n % 8) * (t.m % 8))) j + at1 (cornIx a b (t.n % (8 * a) / 8 + 1) (t.m % (8 * b) / 8 + 1)) (t.c * (t.n % 8 * (t.m % 8))) j
def cntAt (a b : Int) (j : Nat) (t : Pt) : Int := at1 (cornIx a b (t.n % (8 * a) / 8) (t.m % (8 * b) / 8)) 1 j
/-- A sum over the first n points. -/
def sumN (F : Nat → Int) : Nat → Int
  | 0 => 0
  | n + 1 => sumN F n + F n
theorem sumN_congr {F G : Nat → Int} {n : Nat} (h : ∀ j, j < n → F j = G j) : sumN F n = sumN G n := by
  induction n with
  | zero => rfl
  | succ n ih => rw [sumN, sumN, ih (fun j hj => h j (by omega)), h n (by omega)]
theorem sumN_add (F G : Nat → Int) (n : Nat) : sumN (fun j => F j + G j) n = sumN F n + sumN G n := by
  induction n with
  | zero => rfl
  | succ n ih => rw [sumN, sumN, sumN, ih]; omega
theorem sumN_zero (n : Nat) : sumN (fun _ => 0) n = 0 := by
  induction n with
  | zero => rfl
  | succ n ih => rw [sumN, ih]; rfl
theorem sumN_at1 (i v : Int) (n : Nat) (h0 : 0 ≤ i) : sumN (at1 i v) n = if i < (n : Int) then v else 0 := by
  induction n with
  | zero => rw [sumN, if_neg (by omega)]
  | succ n ih =>
    rw [sumN, ih]
    unfold at1
    by_cases h : i < (n : Int)
    · rw [if_pos h, if_neg (by omega), if_pos (by omega)]; omega
    · by_cases h2 : (n : Int) = i
      · rw [if_neg h, if_pos h2, if_pos (by omega)]; omega
      · rw [if_neg h, if_neg h2, if_neg (by omega)]; rfl
theorem sumN_le (F : Nat → Int) (M : Int) (n : Nat) (h : ∀ j, -M ≤ F j ∧ F j ≤ M) : -(M * n) ≤ sumN F n ∧ sumN F n ≤ M * n := by
  induction n with
  | zero => simp [sumN]
  | succ n ih =>
    have := h n
    rw [sumN, Int.natCast_add, Int.mul_add]
    omega
/-- Sums may be taken in both orders. -/
theorem sumN_sumI (f : Nat → Pt → Int) (ts : List Pt) (n k : Nat) (hk : k ≤ ts.length) : sumN (fun j => sumI (f j) ts k) n = sumI (fun t => sumN (fun j => f j t) n) ts k := by
  induction k with
  | zero => simp [sumI, sumN_zero]
  | succ k ih =>
    have e : ∀ j, sumI (f j) ts (k + 1) = sumI (f j) ts k + f j ts[k] := fun j => sumI_succ (f j) ts (by omega)
    rw [sumN_congr (fun j _ => e j), sumN_add, ih (by omega), sumI_succ _ ts (by omega)]
theorem cornIx_in {a b x y : Int} (ha : 4 ≤ a) (hb : 4 ≤ b) : 0 ≤ cornIx a b x y ∧ cornIx a b x y < a * b := by
  refine ⟨cornIx_nn a b x y ha hb, ?_⟩
  unfold cornIx
  have h1 := emod_facts a x ha
  have h2 := emod_facts b y hb
  have h3 : a * (y % b + 1) ≤ a * b := Int.mul_le_mul_of_nonneg_left (by omega) (by omega)
  rw [Int.mul_add, Int.mul_one] at h3
  omega
/-- Charge is neither lost nor made. -/
theorem dep_sum (a b : Int) (ha : 4 ≤ a) (hb : 4 ≤ b) (n : Nat) (hn : (n : Int) = a * b) (t : Pt) : sumN (fun j => depAt a b j t) n = t.c * 64 := by
  unfold depAt
  rw [sumN_add, sumN_add, sumN_add]
  have c := fun x y => cornIx_in (a := a) (b := b) (x := x) (y := y) ha hb
  rw [sumN_at1 _ _ _ (c _ _).1, sumN_at1 _ _ _ (c _ _).1, sumN_at1 _ _ _ (c _ _).1, sumN_at1 _ _ _ (c _ _).1, hn, if_pos (c _ _).2, if_pos (c _ _).2, if_pos (c _ _).2, if_pos (c _ _).2]
  rw [← Int.mul_add, ← Int.mul_add, ← Int.mul_add]
  congr 1
  generalize t.n % 8 = f
  generalize t.m % 8 = h
  rw [← Int.add_mul, Int.sub_add_cancel, Int.add_assoc, ← Int.add_mul, Int.sub_add_cancel]
  omega
theorem cnt_sum (a b : Int) (ha : 4 ≤ a) (hb : 4 ≤ b) (n : Nat) (hn : (n : Int) = a * b) (t : Pt) : sumN (fun j => cntAt a b j t) n = 1 := by
  unfold cntAt
  have c := fun x y => cornIx_in (a := a) (b := b) (x := x) (y := y) ha hb
  show sumN (at1 _ _) n = 1
  rw [sumN_at1 _ _ _ (c _ _).1, hn, if_pos (c _ _).2]
theorem sumI_const (f : Pt → Int) (v : Int) (ts : List Pt) (h : ∀ t, f t = v) (k : Nat) (hk : k ≤ ts.length) : sumI f ts k = v * k := by
  induction k with
  | zero => simp [sumI]
  | succ k ih => rw [sumI_succ f ts (by omega), ih (by omega), h, Int.natCast_add, Int.mul_add]; omega
theorem sumI_mul (f : Pt → Int) (m : Int) (ts : List Pt) (k : Nat) (hk : k ≤ ts.length) : sumI (fun t => f t * m) ts k = sumI f ts k * m := by
  induction k with
  | zero => simp [sumI]
  | succ k ih => rw [sumI_succ _ ts (by omega), sumI_succ f ts (by omega), ih (by omega), Int.add_mul]
/-! ### bounds -/
theorem sh_in {t : Pt} : (0 ≤ (8 - t.n % 8) * (8 - t.m % 8) ∧ (8 - t.n % 8) * (8 - t.m % 8) ≤ 64) ∧ (0 ≤ t.n % 8 * (8 - t.m % 8) ∧ t.n % 8 * (8 - t.m % 8) ≤ 64) ∧ (0 ≤ (8 - t.n % 8) * (t.m % 8) ∧ (8 - t.n % 8) * (t.m % 8) ≤ 64) ∧ (0 ≤ t.n % 8 * (t.m % 8) ∧ t.n % 8 * (t.m % 8) ≤ 64) := by
  have h1 : 0 ≤ t.n % 8 ∧ t.n % 8 < 8 := by omega
  have h2 : 0 ≤ t.m % 8 ∧ t.m % 8 < 8 := by omega
  generalize t.n % 8 = f at h1 ⊢
  generalize t.m % 8 = h at h2 ⊢
  have m : ∀ x y : Int, 0 ≤ x → x ≤ 8 → 0 ≤ y → y ≤ 8 → 0 ≤ x * y ∧ x * y ≤ 64 := fun x y a b c d => ⟨Int.mul_nonneg a c, by have := Int.mul_le_mul b d c (by omega); omega⟩
  exact ⟨m _ _ (by omega) (by omega) (by omega) (by omega), m _ _ (by omega) (by omega) (by omega) (by omega), m _ _ (by omega) (by omega) (by omega) (by omega), m _ _ (by omega) (by omega) (by omega) (by omega)⟩
theorem cs_in {c s : Int} (c0 : -16 ≤ c) (c1 : c ≤ 16) (s0 : 0 ≤ s) (s1 : s ≤ 64) : -1024 ≤ c * s ∧ c * s ≤ 1024 := mul_in (A := 16) (B := 64) c0 c1 s0 s1 (by omega)
theorem at1_in {i v M : Int} {j : Nat} (h : -M ≤ v ∧ v ≤ M) : -M ≤ at1 i v j ∧ at1 i v j ≤ M := by unfold at1; split <;> omega
theorem dep_in {a b : Int} {t : Pt} (h : t.ok) (j : Nat) : -4096 ≤ depAt a b j t ∧ depAt a b j t ≤ 4096 := by
  obtain ⟨s0, s1, s2, s3⟩ := sh_in (t := t)
  have c0 := h.c0; have c1 := h.c1
  have e0 := at1_in (i := cornIx a b (t.n % (8 * a) / 8) (t.m % (8 * b) / 8)) (j := j) (cs_in c0 c1 s0.1 s0.2)
  have e1 := at1_in (i := cornIx a b (t.n % (8 * a) / 8 + 1) (t.m % (8 * b) / 8)) (j := j) (cs_in c0 c1 s1.1 s1.2)
  have e2 := at1_in (i := cornIx a b (t.n % (8 * a) / 8) (t.m % (8 * b) / 8 + 1)) (j := j) (cs_in c0 c1 s2.1 s2.2)
  have e3 := at1_in (i := cornIx a b (t.n % (8 * a) / 8 + 1) (t.m % (8 * b) / 8 + 1)) (j := j) (cs_in c0 c1 s3.1 s3.2)
  unfold depAt
  omega
/-! ### the shares -/
set_option maxRecDepth 100000 in
theorem tab_shd : ((List.range 64).all fun k => dyB .f32 143 (sh0 ((k / 8 : Nat) : Int) ((k % 8 : Nat) : Int)) ((8 - ((k / 8 : Nat) : Int)) * (8 - ((k % 8 : Nat) : Int))) && dyB .f32 143 (sh1 ((k / 8 : Nat) : Int) ((k % 8 : Nat) : Int)) (((k / 8 : Nat) : Int) * (8 - ((k % 8 : Nat) : Int))) &&
    dyB .f32 143 (sh2 ((k / 8 : Nat) : Int) ((k % 8 : Nat) : Int)) ((8 - ((k / 8 : Nat) : Int)) * ((k % 8 : Nat) : Int)) && dyB .f32 143 (sh3 ((k / 8 : Nat) : Int) ((k % 8 : Nat) : Int)) (((k / 8 : Nat) : Int) * ((k % 8 : Nat) : Int))) = true := by decide +kernel
theorem sh_dy (f h : Int) (f0 : 0 ≤ f) (f1 : f < 8) (h0 : 0 ≤ h) (h1 : h < 8) : Dy .f32 143 (sh0 f h) ((8 - f) * (8 - h)) ∧ Dy .f32 143 (sh1 f h) (f * (8 - h)) ∧ Dy .f32 143 (sh2 f h) ((8 - f) * h) ∧ Dy .f32 143 (sh3 f h) (f * h) := by
  have q := List.all_eq_true.1 tab_shd (f.toNat * 8 + h.toNat) (List.mem_range.2 (by omega))
  have e1 : (((f.toNat * 8 + h.toNat) / 8 : Nat) : Int) = f := by omega
  have e2 : (((f.toNat * 8 + h.toNat) % 8 : Nat) : Int) = h := by omega
  simp only [e1, e2, Bool.and_eq_true] at q
  exact ⟨Dy.of q.1.1.1, Dy.of q.1.1.2, Dy.of q.1.2, Dy.of q.2⟩
/-! ### moved by whole cells -/
/-- A particle that is moved. -/
def Pt.mv (a b x y : Int) (t : Pt) : Pt := { t with n := (t.n + 8 * x) % (8 * a), m := (t.m + 8 * y) % (8 * b) }
theorem around_iff {a : Int} (ha : 4 ≤ a) (ha' : a ≤ 7) (u p x : Int) (h0 : 0 ≤ u) (h1 : u < a) : (u - x) % a = p % a ↔ u = (p + x) % a := by
  have h : a = 4 ∨ a = 5 ∨ a = 6 ∨ a = 7 := by omega
  rcases h with rfl | rfl | rfl | rfl <;> omega
theorem pair_iff {a : Int} (ha : 4 ≤ a) (ha' : a ≤ 7) {u p v q : Int} (h0 : 0 ≤ u) (h1 : u < a) (k0 : 0 ≤ p) (k1 : p < a) : u + a * v = p + a * q ↔ u = p ∧ v = q := by
  have h : a = 4 ∨ a = 5 ∨ a = 6 ∨ a = 7 := by omega
  rcases h with rfl | rfl | rfl | rfl <;> omega
theorem mv_place {a : Int} (ha : 4 ≤ a) (ha' : a ≤ 7) (n x : Int) : ((n + 8 * x) % (8 * a)) % (8 * a) / 8 = (n % (8 * a) / 8 + x) % a ∧ ((n + 8 * x) % (8 * a)) % 8 = n % 8 := by
  have h : a = 4 ∨ a = 5 ∨ a = 6 ∨ a = 7 := by omega
  rcases h with rfl | rfl | rfl | rfl <;> omega
theorem plus_mod {a : Int} (ha : 4 ≤ a) (ha' : a ≤ 7) (X x d : Int) : ((X + x) % a + d) % a = (X + d + x) % a := by
  have h : a = 4 ∨ a = 5 ∨ a = 6 ∨ a = 7 := by omega
  rcases h with rfl | rfl | rfl | rfl <;> omega
theorem corn_mv {a b : Int} (ha : 4 ≤ a) (ha' : a ≤ 7) (hb : 4 ≤ b) (hb' : b ≤ 7) (X Y x y : Int) (j : Nat) (hj : (j : Int) < a * b) (d e : Int) :
    (j : Int) = cornIx a b ((X + x) % a + d) ((Y + y) % b + e) ↔ ((shI a b x y (j % a.toNat) (j / a.toNat) : Nat) : Int) = cornIx a b (X + d) (Y + e) := by
  have hs := (shI_facts (a := a) (b := b) x y (j % a.toNat) (j / a.toNat) ha hb).1
  obtain ⟨A, rfl⟩ := Int.eq_ofNat_of_zero_le (show 0 ≤ a by omega)
  rw [Int.toNat_natCast] at hs ⊢
  have hA : 0 < A := by omega
  have hu : ((j % A : Nat) : Int) < A := by have := Nat.mod_lt j hA; omega
  have hv : ((j / A : Nat) : Int) < b := by
    have h1 : j / A * A ≤ j := Nat.div_mul_le_self j A
    have h2 : ((j / A : Nat) : Int) * (A : Int) ≤ (j : Int) := by exact_mod_cast h1
    have h3 : ((j / A : Nat) : Int) * (A : Int) < b * (A : Int) := by rw [Int.mul_comm b]; omega
    exact Int.lt_of_mul_lt_mul_right h3 (by omega)
  have hj2 : (j : Int) = ((j % A : Nat) : Int) + (A : Int) * ((j / A : Nat) : Int) := by have := Nat.mod_add_div j A; exact_mod_cast this.symm
  have hu0 : (0 : Int) ≤ ((j % A : Nat) : Int) := Int.natCast_nonneg _
  have hv0 : (0 : Int) ≤ ((j / A : Nat) : Int) := Int.natCast_nonneg _
  rw [hs]
  unfold cornIx
  generalize ((j % A : Nat) : Int) = u at hu hj2 hu0 ⊢
  generalize ((j / A : Nat) : Int) = v at hv hj2 hv0 ⊢
  rw [hj2]
  generalize (A : Int) = a at ha ha' hu ⊢
  have p1 := Int.emod_nonneg ((X + x) % a + d) (show a ≠ 0 by omega)
  have p2 := Int.emod_lt_of_pos ((X + x) % a + d) (show 0 < a by omega)
  have p3 := Int.emod_nonneg (X + d) (show a ≠ 0 by omega)
  have p4 := Int.emod_lt_of_pos (X + d) (show 0 < a by omega)
  have p5 := Int.emod_nonneg (u - x) (show a ≠ 0 by omega)
  have p6 := Int.emod_lt_of_pos (u - x) (show 0 < a by omega)
  rw [pair_iff ha ha' hu0 hu p1 p2, pair_iff ha ha' p5 p6 p3 p4, around_iff ha ha' u _ x hu0 hu, around_iff hb hb' v _ y hv0 hv, plus_mod ha ha' X x d, plus_mod hb hb' Y y e]
/-- Particles that are moved by whole cells leave what is moved by these. -/
theorem dep_mv {a b : Int} (ha : 4 ≤ a) (ha' : a ≤ 7) (hb : 4 ≤ b) (hb' : b ≤ 7) (x y : Int) (j : Nat) (hj : (j : Int) < a * b) (t : Pt) : depAt a b j (t.mv a b x y) = depAt a b (shI a b x y (j % a.toNat) (j / a.toNat)) t := by
  unfold depAt Pt.mv
  dsimp only
  rw [(mv_place ha ha' t.n x).1, (mv_place ha ha' t.n x).2, (mv_place hb hb' t.m y).1, (mv_place hb hb' t.m y).2]
  generalize t.n % (8 * a) / 8 = X
  generalize t.m % (8 * b) / 8 = Y
  have c := corn_mv ha ha' hb hb' X Y x y j hj
  have c00 := c 0 0; have c10 := c 1 0; have c01 := c 0 1; have c11 := c 1 1
  simp only [Int.add_zero] at c00 c10 c01
  unfold at1
  simp only [c00, c10, c01, c11]
end Go.Proofs.Ytlfnbnhbobohlaa
