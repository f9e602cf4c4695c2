/-
  Regions that draw their order and end with a store into a cell that they load: what a condition on the world tells may be asked for as long as something is still to come, and not behind the last operation.
-/
import Derived.Test.YtpnmledanloboaaRows
import Derived.OrdersHeld
import Derived.Deep.RegionHeld3
import Derived.KernelRfl
namespace Go.Proofs.Ytpnmledanloboaa
section
variable {P : Program} {ops : Array Oper} {Q : Exit → Act → World → Prop} {md : Region.Mode} {S : World → Prop}

/-- Something is still to come. -/
def Due (l : Array Bool) : Prop := ∃ k, l.getD k true = false
/-- Whatever order is picked: S is shown behind each operation behind which something is still to come. -/
def RunB (P : Program) (md : Region.Mode) (ops : Array Oper) (Q : Exit → Act → World → Prop) (S : World → Prop) : Nat → Array Bool → Act → World → Prop
  | 0, l, a, w => Region.ready md ops l = [] ∧ Q .normal a w
  | n + 1, l, a, w => (Region.ready md ops l = [] → Q .normal a w) ∧ ∀ i ∈ Region.ready md ops l, wpOp P ops Q i (fun a' w' => (Due (l.setIfInBounds i true) → S w') ∧ RunB P md ops Q S n (l.setIfInBounds i true) a' w') a w

theorem any_of_runB : ∀ (n : Nat) (l : Array Bool) (a : Act) (w : World), RunB P md ops Q S n l a w → wpAny P md ops Q n l a w
  | 0, _, _, _, h => h
  | n + 1, _, _, _, h => ⟨h.1, fun i hi => wpOp_mono (fun a' w' h' => any_of_runB n _ a' w' h'.2) (h.2 i hi)⟩

/-- Some operation that has not come up waits for number i. -/
def waiter (md : Region.Mode) (ops : Array Oper) (l : Array Bool) (i : Nat) : Bool :=
  (List.range ops.size).any fun x => !(l.getD x true) && match ops[x]? with | some o => o.after.any (fun e => Region.binds md e && e.on == i) | none => false

theorem runB_first {i x : Nat} {oi ox : Oper} {v : Value} (hi : ops[i]? = some oi) (hsel : ∀ (j : Nat) (o : Oper) cs b, ops[j]? = some o → o.op ≠ .select cs b)
    (hQ : ∀ c a w, Q (.panic c) (a.put oi.dst v) w → Q (.panic c) a w) (hox : ops[x]? = some ox) (hxe : ∃ e ∈ ox.after, Region.binds md e = true ∧ e.on = i) (n : Nat) :
    ∀ (l : Array Bool) (a : Act) (w : World), (∀ j oj, ops[j]? = some oj → j ≠ i → l.getD j true = false → (∀ e ∈ oj.after, Region.binds md e = true → e.on ≠ i) → oi.apart ops oj = true) →
      i ∈ Region.ready md ops l → l.getD x true = false → YieldsIf P ops S oi v a → S w → RunB P md ops Q S n (l.setIfInBounds i true) (a.put oi.dst v) w → RunB P md ops Q S (n + 1) l a w := by
  have blocked : ∀ (l : Array Bool) (j : Nat), i ∈ Region.ready md ops l → j ∈ Region.ready md ops l → ∀ oj, ops[j]? = some oj → ∀ e ∈ oj.after, Region.binds md e = true → e.on ≠ i := by
    intro l j hi' hj oj hoj e he hb heq
    obtain ⟨h0, _⟩ := mem_ready.1 hi'
    obtain ⟨_, o, ho, hall⟩ := mem_ready.1 hj
    rw [hoj] at ho
    cases ho
    have h1 := hall e he hb
    rw [heq] at h1
    by_cases hlt : i < l.size
    · simp [hlt] at h0 h1; rw [h0] at h1; cases h1
    · simp [Array.getElem?_eq_none (Nat.le_of_not_lt hlt)] at h1
  induction n with
  | zero =>
    intro l a w _ hr _ hy hS H
    refine ⟨fun e => (by rw [e] at hr; cases hr), fun j hj => ?_⟩
    rcases Nat.decEq j i with hji | rfl
    · have := ready_mono hj hji
      rw [H.1] at this
      cases this
    · exact hy.wpOp hi hS ⟨fun _ => hS, H⟩
  | succ n ih =>
    intro l a w hap hr hx hy hS H
    refine ⟨fun e => (by rw [e] at hr; cases hr), fun j hj => ?_⟩
    rcases Nat.decEq j i with hji | rfl
    · obtain ⟨hj0, oj, hoj, _⟩ := mem_ready.1 hj
      have hb := blocked l j hr hj oj hoj
      have hxj : j ≠ x := by
        rintro rfl
        rw [hox] at hoj
        cases hoj
        obtain ⟨e, he, hbe, hon⟩ := hxe
        exact hb e he hbe hon
      have hxi : i ≠ x := by
        rintro rfl
        obtain ⟨e, he, hbe, hon⟩ := hxe
        exact blocked l i hr hr ox hox e he hbe hon
      have h2 := wpOp_putIf hoj (hap j oj hoj hji hj0 hb) (fun cs b => hsel i oi cs b hi) (fun cs b => hsel j oj cs b hoj) hQ hy (H.2 j (ready_mono hj hji))
      have hx' : (l.setIfInBounds j true).getD x true = false := by rw [getD_set_ne true hxj]; exact hx
      refine wpOp_mono (fun a' w' h3 => ?_) h2
      have hdue : Due ((l.setIfInBounds i true).setIfInBounds j true) := ⟨x, by rw [getD_set_ne true hxj, getD_set_ne true hxi]; exact hx⟩
      have hS' := h3.2.1 hdue
      refine ⟨fun _ => hS', ih (l.setIfInBounds j true) a' w' ?_ (ready_mono hr (Ne.symm hji)) hx' h3.1 hS' ?_⟩
      · intro k ok hk hki hk0 hno
        refine hap k ok hk hki ?_ hno
        by_cases hjk : j = k
        · subst hjk; exact hj0
        · rwa [getD_set_ne true hjk] at hk0
      · rw [Array.setIfInBounds_comm _ _ hji]
        exact h3.2.2
    · exact hy.wpOp hi hS ⟨fun _ => hS, H⟩

theorem runB_take {i : Nat} {oi : Oper} {v : Value} {n : Nat} {l : Array Bool} {a : Act} {w : World} (hi : ops[i]? = some oi)
    (hs : Region.noSelect ops = true) (hf : Region.free md ops l i = true) (hr : (Region.ready md ops l).contains i = true) (hx : waiter md ops l i = true)
    (hQ : ∀ c a w, Q (.panic c) (a.put oi.dst v) w → Q (.panic c) a w) (hy : YieldsIf P ops S oi v a) (hS : S w)
    (h : RunB P md ops Q S n (l.setIfInBounds i true) (a.put oi.dst v) w) : RunB P md ops Q S (n + 1) l a w := by
  unfold waiter at hx
  obtain ⟨x, _, h2⟩ := List.any_eq_true.1 hx
  rw [Bool.and_eq_true] at h2
  cases ho : ops[x]? with
  | none => rw [ho] at h2; cases h2.2
  | some ox =>
    rw [ho] at h2
    obtain ⟨e, he, hb⟩ := Array.any_eq_true'.1 h2.2
    rw [Bool.and_eq_true, beq_iff_eq] at hb
    exact runB_first hi (Region.noSelect_spec hs) hQ ho ⟨e, he, hb.1, hb.2⟩ n l a w (Region.free_spec hi hf) (by simpa using hr) (by simpa using h2.1) hy hS h

/-- Each of these comes up next. -/
def NextB (P : Program) (md : Region.Mode) (ops : Array Oper) (Q : Exit → Act → World → Prop) (S : World → Prop) (n : Nat) (l : Array Bool) (a : Act) (w : World) (rs : List Nat) : Prop :=
  ∀ i ∈ rs, wpOp P ops Q i (fun a' w' => (Due (l.setIfInBounds i true) → S w') ∧ RunB P md ops Q S n (l.setIfInBounds i true) a' w') a w
theorem NextB.nil {n : Nat} {l : Array Bool} {a : Act} {w : World} : NextB P md ops Q S n l a w [] := fun _ h => by cases h
theorem NextB.cons {n : Nat} {l : Array Bool} {a : Act} {w : World} {i : Nat} {o : Oper} {rs : List Nat} (ho : ops[i]? = some o)
    (h : ∀ K' : Act → World → Prop, Shut (∀ a w, (Due (l.setIfInBounds i true) → S w) → RunB P md ops Q S n (l.setIfInBounds i true) a w → K' a w) → if Region.wanted o (yielded ops a.tmps) = true then Oper.wp P o a w K' Q else K' (a.put o.dst undef) w)
    (hs : NextB P md ops Q S n l a w rs) : NextB P md ops Q S n l a w (i :: rs) := by
  intro j hj
  rcases List.mem_cons.1 hj with rfl | hj
  · exact wpOp_step ho (fun K' hK => h K' (fun a w h1 h2 => hK a w ⟨h1, h2⟩))
  · exact hs j hj
theorem runB_next {rs : List Nat} {n : Nat} {l : Array Bool} {a : Act} {w : World} (hr : Region.ready md ops l = rs) (hne : rs ≠ []) (h : NextB P md ops Q S n l a w rs) : RunB P md ops Q S (n + 1) l a w :=
  ⟨fun h0 => absurd (hr ▸ h0) hne, hr ▸ h⟩
theorem runB_done {l : Array Bool} {a : Act} {w : World} (hr : Region.ready md ops l = []) (h : Q .normal a w) : ∀ n, RunB P md ops Q S n l a w
  | 0 => ⟨hr, h⟩
  | _ + 1 => ⟨fun _ => h, by rw [hr]; simp⟩
/-- Behind the last operation nothing is asked. -/
theorem no_due {l : Array Bool} (h : l.all id = true) (p : Prop) : Due l → p := by
  rintro ⟨k, hk⟩
  exfalso
  rw [Array.all_eq_true] at h
  by_cases hlt : k < l.size
  · have := h k hlt
    simp [hlt] at hk
    rw [hk] at this; cases this
  · simp [Array.getElem?_eq_none (Nat.le_of_not_lt hlt)] at hk
theorem region_runB {id : Nat} {a : Act} {w : World} (hm : P.follows .mixedOrders = true) (h : RunB P .any ops Q S ops.size (Array.replicate ops.size false) a w.drew) : (Code.region id ops true).wp P Q a w :=
  wp_region_any hm (any_of_runB _ _ _ _ h)
theorem region_runB_drew {id : Nat} {a : Act} {w : World} (hm : P.follows .mixedOrders = true) (hS : S w.drew) (h : S w.drew → RunB P .any ops Q S ops.size (Array.replicate ops.size false) a w.drew) : (Code.region id ops true).wp P Q a w :=
  region_runB hm (h hS)
end
end Go.Proofs.Ytpnmledanloboaa
