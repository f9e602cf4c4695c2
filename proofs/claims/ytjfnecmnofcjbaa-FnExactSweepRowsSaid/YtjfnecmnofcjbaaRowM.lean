/-
  Equations of neighbours: what both texts reckon, and lists that are turned in their places.
-/
import Derived.Test.YtjfnecmnofcjbaaOwn
namespace Go.Fl

/-- m, c and d of each step. -/
def triS (lo mi up ri : List Nat) : Nat → Nat × Nat × Nat
  | 0 => (cn .f32 (mi.getD 0 0), fop .quo .f32 (cn .f32 (up.getD 0 0)) (cn .f32 (mi.getD 0 0)), fop .quo .f32 (cn .f32 (ri.getD 0 0)) (cn .f32 (mi.getD 0 0)))
  | k + 1 =>
    let m := fop .sub .f32 (cn .f32 (mi.getD (k + 1) 0)) (fop .mul .f32 (cn .f32 (lo.getD (k + 1) 0)) (triS lo mi up ri k).2.1)
    (m, fop .quo .f32 (cn .f32 (up.getD (k + 1) 0)) m, fop .quo .f32 (fop .sub .f32 (cn .f32 (ri.getD (k + 1) 0)) (fop .mul .f32 (cn .f32 (lo.getD (k + 1) 0)) (triS lo mi up ri k).2.2)) m)
def triM (lo mi up ri : List Nat) (k : Nat) : Nat := (triS lo mi up ri k).1
def triC (lo mi up ri : List Nat) (k : Nat) : Nat := (triS lo mi up ri k).2.1
def triD (lo mi up ri : List Nat) (k : Nat) : Nat := (triS lo mi up ri k).2.2
theorem triM_zero (lo mi up ri : List Nat) : triM lo mi up ri 0 = cn .f32 (mi.getD 0 0) := rfl
theorem triM_succ (lo mi up ri : List Nat) (k : Nat) : triM lo mi up ri (k + 1) = fop .sub .f32 (cn .f32 (mi.getD (k + 1) 0)) (fop .mul .f32 (cn .f32 (lo.getD (k + 1) 0)) (triC lo mi up ri k)) := rfl
theorem triC_eq (lo mi up ri : List Nat) (k : Nat) : triC lo mi up ri k = fop .quo .f32 (cn .f32 (up.getD k 0)) (triM lo mi up ri k) := by cases k <;> rfl
/-- The right side of a step. -/
def triR (lo mi up ri : List Nat) : Nat → Nat
  | 0 => cn .f32 (ri.getD 0 0)
  | k + 1 => fop .sub .f32 (cn .f32 (ri.getD (k + 1) 0)) (fop .mul .f32 (cn .f32 (lo.getD (k + 1) 0)) (triD lo mi up ri k))
theorem triD_eq (lo mi up ri : List Nat) (k : Nat) : triD lo mi up ri k = fop .quo .f32 (triR lo mi up ri k) (triM lo mi up ri k) := by cases k <;> rfl
/-- No divisor is zero. -/
def triGo (lo mi up ri : List Nat) (k : Nat) : Bool := fcmp .eql .f32 (triM lo mi up ri k) 0
/-- The first divisor that is zero, or n. -/
def triStop (lo mi up ri : List Nat) (n : Nat) : Prop := ∃ k, k < n ∧ triGo lo mi up ri k = true
def triFine (lo mi up ri : List Nat) (n : Nat) : Bool := (List.range n).all fun k => !triGo lo mi up ri k
theorem triFine_at {lo mi up ri : List Nat} {n : Nat} (h : triFine lo mi up ri n = true) {k : Nat} (hk : k < n) : triGo lo mi up ri k = false := by
  have := List.all_eq_true.1 h k (List.mem_range.2 hk)
  simpa using this
theorem triFine_not {lo mi up ri : List Nat} {n k : Nat} (hk : k < n) (h : triGo lo mi up ri k = true) : triFine lo mi up ri n = false := by
  cases hf : triFine lo mi up ri n with
  | false => rfl
  | true => rw [triFine_at hf hk] at h; cases h
theorem triFine_all {lo mi up ri : List Nat} {n : Nat} (h : ∀ k, k < n → triGo lo mi up ri k = false) : triFine lo mi up ri n = true := by
  refine List.all_eq_true.2 fun k hk => ?_
  rw [h k (List.mem_range.1 hk)]; rfl
/-- The way back: number j from the end. -/
def triB (lo mi up ri : List Nat) (n : Nat) : Nat → Nat
  | 0 => triD lo mi up ri (n - 1)
  | j + 1 => fop .sub .f32 (triD lo mi up ri (n - 2 - j)) (fop .mul .f32 (triC lo mi up ri (n - 2 - j)) (triB lo mi up ri n j))
def triX (lo mi up ri : List Nat) (n k : Nat) : Nat := triB lo mi up ri n (n - 1 - k)
theorem triX_last (lo mi up ri : List Nat) {n : Nat} : triX lo mi up ri n (n - 1) = triD lo mi up ri (n - 1) := by unfold triX; rw [Nat.sub_self]; rfl
theorem triX_step (lo mi up ri : List Nat) {n k : Nat} (hk : k + 1 < n) : triX lo mi up ri n k = fop .sub .f32 (triD lo mi up ri k) (fop .mul .f32 (triC lo mi up ri k) (triX lo mi up ri n (k + 1))) := by
  unfold triX
  rw [show n - 1 - k = (n - 2 - k) + 1 by omega, show n - 1 - (k + 1) = n - 2 - k by omega]
  show fop .sub .f32 (triD lo mi up ri (n - 2 - (n - 2 - k))) _ = _
  rw [show n - 2 - (n - 2 - k) = k by omega]
end Go.Fl
namespace Go.Proofs.Ytjfnecmnofcjbaa
open Go.Fl Go.RowKit

/-- The numbers of rs from i on and before j are those of F, up to the bits of not-a-numbers. -/
def EqOn (rs : List Nat) (F : Nat → Nat) (i j : Nat) : Prop := ∀ k, i ≤ k → k < j → Is .f32 (rs.getD k 0) (F k)
theorem EqOn.none (rs : List Nat) (F : Nat → Nat) (i : Nat) : EqOn rs F i i := fun k h1 h2 => absurd h1 (by omega)
theorem EqOn.eqs {rs : List Nat} {F : Nat → Nat} {n : Nat} (h : EqOn rs F 0 n) (hn : rs.length = n) : Eqs rs F := fun j hj => h j (Nat.zero_le _) (hn ▸ hj)
theorem Eqs.on {rs : List Nat} {F : Nat → Nat} {n : Nat} (h : Eqs rs F) (hn : rs.length = n) : EqOn rs F 0 n := fun j _ hj => h j (hn ▸ hj)
theorem getD_set (rs : List Nat) (k r i : Nat) (hk : k < rs.length) : (rs.set k r).getD i 0 = if i = k then r else rs.getD i 0 := by
  rw [List.getD_eq_getElem?_getD, List.getD_eq_getElem?_getD, List.getElem?_set]
  by_cases h : k = i
  · subst h; rw [if_pos rfl, if_pos hk, if_pos rfl]; rfl
  · rw [if_neg h, if_neg (fun e => h e.symm)]
theorem EqOn.set_up {rs : List Nat} {F : Nat → Nat} {i k r : Nat} (h : EqOn rs F i k) (hk : k < rs.length) (hr : Is .f32 r (F k)) : EqOn (rs.set k r) F i (k + 1) := by
  intro j h1 h2
  rw [getD_set rs k r j hk]
  by_cases e : j = k
  · rw [if_pos e, e]; exact hr
  · rw [if_neg e]; exact h j h1 (by omega)
theorem EqOn.set_down {rs : List Nat} {F : Nat → Nat} {k n r : Nat} (h : EqOn rs F (k + 1) n) (hk : k < rs.length) (hr : Is .f32 r (F k)) : EqOn (rs.set k r) F k n := by
  intro j h1 h2
  rw [getD_set rs k r j hk]
  by_cases e : j = k
  · rw [if_pos e, e]; exact hr
  · rw [if_neg e]; exact h j (by omega) h2
theorem EqOn.set_out {rs : List Nat} {F : Nat → Nat} {i n k r : Nat} (h : EqOn rs F i n) (hk : k < rs.length) (ho : k < i ∨ n ≤ k) : EqOn (rs.set k r) F i n := by
  intro j h1 h2
  rw [getD_set rs k r j hk, if_neg (by omega)]
  exact h j h1 h2
theorem map_set (rs : List Nat) (k r : Nat) : (rs.map (Value.float .f32)).set k (.float .f32 r) = (rs.set k r).map (Value.float .f32) := (List.map_set ..).symm
theorem map_at {rs : List Nat} {k : Nat} (h : k < rs.length) : (rs.map (Value.float .f32))[k]? = some (.float .f32 (rs.getD k 0)) := by
  rw [List.getElem?_map, List.getD_eq_getElem?_getD, List.getElem?_eq_getElem h]; rfl
end Go.Proofs.Ytjfnecmnofcjbaa
