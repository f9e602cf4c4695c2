/-
  Sweeps: what both texts reckon.
-/
import Derived.Test.YtjfnecmnofcjbaaLap
import Derived.Test.YtjfnecmnofcjbaaRingS
namespace Go.Proofs.Ytjfnecmnofcjbaa
open Go.Fl Go.RowKit
open Go.Shelf
open Go.Joins (ownsRow_le)
set_option linter.unusedSimpArgs false
set_option linter.unusedVariables false
attribute [local go_sem] Oper.semAt_some

/-- A number and those of a list. -/
def adds (s : Nat) (xs : List W32) : Nat := xs.foldl (fun s x => fop .add .f32 s (cn .f32 x.1)) s
theorem adds_snoc (s : Nat) (xs : List W32) (x : W32) : adds s (xs ++ [x]) = fop .add .f32 (adds s xs) (cn .f32 x.1) := by simp [adds]
/-- A point solved. -/
def sweepAt (a b : Int) (L F : Nat → Nat) (i : Nat) : Nat :=
  fop .mul .f32 1048576000 (fop .add .f32 (fop .add .f32 (fop .add .f32 (fop .add .f32 (L i) (F (nbI a b (-1) 0 (i % a.toNat) (i / a.toNat)))) (F (nbI a b 1 0 (i % a.toNat) (i / a.toNat)))) (F (nbI a b 0 (-1) (i % a.toNat) (i / a.toNat)))) (F (nbI a b 0 1 (i % a.toNat) (i / a.toNat))))
/-- A point is of the colour. -/
def isHit (a c : Int) (i : Nat) : Bool := decide ((((i % a.toNat + i / a.toNat) % 2 : Nat) : Int) = c)
/-- The potential when the first points have been gone through. -/
def sweepF (a b c : Int) (L F : Nat → Nat) : Nat → Nat → Nat
  | 0 => F
  | k + 1 => fun j => if isHit a c k = true ∧ j = k then sweepAt a b L (sweepF a b c L F k) k else sweepF a b c L F k j

theorem lt_of_area {a b : Int} {n k : Nat} (h : (n : Int) = a * b) (hk : (k : Int) < a * b) : k < n := by omega
theorem getD_in {xs : List Nat} {k : Nat} (h : k < xs.length) : xs.getD k 0 ∈ xs := by
  rw [List.getD_eq_getElem?_getD, List.getElem?_eq_getElem h]; exact List.getElem_mem h
theorem RW.heap {B : Nat} {w w' : World} {g cap : Nat} {xs : List Nat} (h : RW B w g cap xs) (e : w'.heap[g]? = w.heap[g]?) : RW B w' g cap xs := by
  refine ⟨h.1, ?_⟩
  rcases h.2 with h' | ⟨g', cap', cur, hv, hb, hg, rest⟩
  · exact .inl h'
  · have hv' := hv
    simp only [Value.slice.injEq, Option.some.injEq, Addr.mk.injEq, and_true, true_and] at hv'
    obtain ⟨rfl, rfl⟩ := hv'
    exact .inr ⟨g, cap, cur, rfl, hb, by rw [e]; exact hg, rest⟩
theorem point_facts {a b : Int} {k n : Nat} (hA : 4 ≤ a ∧ a ≤ 16 ∧ 4 ≤ b ∧ b ≤ 16) (hab : (n : Int) = a * b) (hn : n ≤ 256) (hk : k < n) : ∃ u v t : Nat, k % a.toNat = u ∧ k / a.toNat = v ∧ (u + v) % 2 = t ∧ (k : Int) % a = (u : Int) ∧ (k : Int) / a = (v : Int) ∧ (u : Int) < a ∧ (v : Int) < b ∧ (k : Int) = a * v + u ∧ ¬ a = 0 ∧ (k : Int).tmod a = (u : Int) ∧ (k : Int).tdiv a = (v : Int) ∧
    IntKind.i64.wrap (v : Int) = (v : Int) ∧ IntKind.i64.wrap ((k : Int) / a) = (v : Int) ∧ wrap64 ((u : Int) + (v : Int)) = (u : Int) + (v : Int) ∧ ((u : Int) + (v : Int)) % 2 = (t : Int) ∧ ((u : Int) + (v : Int)).tmod 2 = (t : Int) ∧ wrap64 ((k : Int) + 1) = (k : Int) + 1 ∧ (0 : Int) ≤ (k : Int) ∧ (k : Int) < (n : Int) := by
  obtain ⟨v, hv⟩ : ∃ v, k / a.toNat = v := ⟨_, rfl⟩
  obtain ⟨u, hu⟩ : ∃ u, k % a.toNat = u := ⟨_, rfl⟩
  obtain ⟨m, hm⟩ := Int.eq_ofNat_of_zero_le (show 0 ≤ a by omega)
  have hu1 : ((k : Int) % a) = (u : Int) := by rw [← hu, hm]; simp
  have hv0 : ((k : Int) / a) = (v : Int) := by rw [← hv, hm]; simp
  have hule := emod_facts a (k : Int) hA.1
  rw [hu1] at hule
  have hiu : (k : Int) = a * v + u := by have := Int.mul_ediv_add_emod (k : Int) a; rw [hu1, hv0] at this; omega
  have hvb : (v : Int) < b := by
    rcases Int.lt_or_le (v : Int) b with h | h
    · exact h
    · have := Int.mul_le_mul_of_nonneg_left h (show 0 ≤ a by omega); omega
  have hs2 : ((u : Int) + (v : Int)) % 2 = (((u + v) % 2 : Nat) : Int) := by omega
  exact ⟨u, v, (u + v) % 2, hu, hv, rfl, hu1, hv0, hule.2, hvb, hiu, by omega, by rw [Int.tmod_eq_emod_of_nonneg (by omega)]; exact hu1, by rw [Int.tdiv_eq_ediv_of_nonneg (by omega)]; exact hv0, by rw [wrap_i64]; exact wrap64_of (by omega) (by omega), by rw [hv0, wrap_i64]; exact wrap64_of (by omega) (by omega), wrap64_of (by omega) (by omega), hs2, by rw [Int.tmod_eq_emod_of_nonneg (by omega)]; exact hs2, wrap64_of (by omega) (by omega), Int.natCast_nonneg _, by omega⟩
theorem grown_drew {w0 W : World} {row : Option Nat} (h : w0.grownBy W row) : w0.grownBy W.drew row := ⟨h.os, h.tape, h.output, h.size, h.block⟩
theorem grown_drewN {w0 W : World} {row : Option Nat} (h : w0.grownBy W row) (n : Nat) : w0.grownBy (W.drewN n) row := grown_trans h (grown_below (below_drewN (Below.refl W.heap.size W) n))
/-- A step that turns one block behind those of the start. -/
theorem grown_step {w0 W W' : World} {row : Option Nat} {D : Nat} (h : w0.grownBy W row) (hg : W.grownBy W' (some D)) (hD : w0.heap.size ≤ D) : w0.grownBy W' row :=
  ⟨hg.os.trans h.os, hg.tape.trans h.tape, hg.output.trans h.output, Nat.le_trans h.size hg.size, fun k hk hr => (hg.block k (Nat.lt_of_lt_of_le hk h.size) (fun e => by cases e; omega)).trans (h.block k hk hr)⟩
/-- A point of the colour, solved. -/
theorem hit_value {a b c : Int} {L F : Nat → Nat} {k u v : Nat} (hu : k % a.toNat = u) (hv : k / a.toNat = v) {y0 y1 y2 y3 X : Nat} (G0 : y0 < 2 ^ FloatKind.f32.format.width) (G1 : y1 < 2 ^ FloatKind.f32.format.width) (G2 : y2 < 2 ^ FloatKind.f32.format.width) (G3 : y3 < 2 ^ FloatKind.f32.format.width)
    (hX : L k = X) (h0 : cn .f32 y0 = sweepF a b c L F k (nbI a b (-1) 0 u v)) (h1 : cn .f32 y1 = sweepF a b c L F k (nbI a b 1 0 u v)) (h2 : cn .f32 y2 = sweepF a b c L F k (nbI a b 0 (-1) u v)) (h3 : cn .f32 y3 = sweepF a b c L F k (nbI a b 0 1 u v)) :
    sweepAt a b L (sweepF a b c L F k) k = fop .mul .f32 1048576000 (adds X [⟨y0, G0⟩, ⟨y1, G1⟩, ⟨y2, G2⟩, ⟨y3, G3⟩]) := by
  unfold sweepAt
  rw [hu, hv, hX, ← h0, ← h1, ← h2, ← h3]
  rfl
theorem sweepF_hit {a b c : Int} {L F : Nat → Nat} {k n r : Nat} {es : List Nat} (hh : isHit a c k = true) (he : EqOn es (sweepF a b c L F k) 0 n) (hn : es.length = n) (hk : k < n) (hr : Is .f32 r (sweepAt a b L (sweepF a b c L F k) k)) :
    EqOn (es.set k r) (sweepF a b c L F (k + 1)) 0 n := by
  intro q h1 h2
  rw [getD_set es k r q (by omega)]
  show Is .f32 _ (if isHit a c k = true ∧ q = k then _ else _)
  by_cases e : q = k
  · rw [if_pos e, if_pos ⟨hh, e⟩]; exact hr
  · rw [if_neg e, if_neg (fun h => e h.2)]; exact he q h1 h2
theorem sweepF_miss {a b c : Int} {L F : Nat → Nat} {k n : Nat} {es : List Nat} (hh : isHit a c k = false) (he : EqOn es (sweepF a b c L F k) 0 n) : EqOn es (sweepF a b c L F (k + 1)) 0 n := by
  intro q h1 h2
  show Is .f32 _ (if isHit a c k = true ∧ q = k then _ else _)
  rw [if_neg (by rw [hh]; simp)]; exact he q h1 h2

end Go.Proofs.Ytjfnecmnofcjbaa
