/-
  Regions that draw their order, whose first operations draw values and whose last ones, each behind all others, may make memory: the first ones walked as in Loose, the last ones as anywhere.
  By an AI agent; no person has read it. Lean checks it.
-/
import Derived.Test.YtpnmledanloboaaLoose
namespace Go.Loose

section
variable {P : Program} {ops : Array Oper} {md : Region.Mode} {C : World → Prop} {S : Nat → Value → Prop}

/-- Whatever order the first p operations are picked in. -/
def preWay (P : Program) (md : Region.Mode) (ops : Array Oper) (C : World → Prop) (S : Nat → Value → Prop) (p : Nat) (Q : Act → Prop) : Nat → Array Bool → Act → Prop
  | 0, listed, a => (∀ j ∈ Region.ready md ops listed, p ≤ j) ∧ Q a
  | fuel + 1, listed, a => ∀ j ∈ Region.ready md ops listed, j < p → comes P ops C S j (preWay P md ops C S p Q fuel (listed.setIfInBounds j true)) a

theorem preWay_first {p : Nat} {Q : Act → Prop} {i : Nat} {oi : Oper} {T : Value → Prop} (hC : ∃ w, C w) (hi : ops[i]? = some oi) (hsel : ∀ (j : Nat) (o : Oper) cs b, ops[j]? = some o → o.op ≠ .select cs b) :
    ∀ (fuel : Nat) (listed : Array Bool) (a : Act),
      (∀ j oj, ops[j]? = some oj → j ≠ i → listed.getD j true = false → (∀ e ∈ oj.after, Region.binds md e = true → e.on ≠ i) → oi.apart ops oj = true) →
      i ∈ Region.ready md ops listed → says P ops C S i oi T a →
      (∀ v, T v → preWay P md ops C S p Q fuel (listed.setIfInBounds i true) (a.put oi.dst v)) → preWay P md ops C S p Q (fuel + 1) listed a := by
  intro fuel
  induction fuel with
  | zero =>
    intro listed a _ hr hy H j hj hjp
    by_cases hji : j = i
    · subst hji; exact says_comes hi hy H
    · obtain ⟨v0, hv0⟩ := says_some hC hy
      have := (H v0 hv0).1 j (ready_mono hj hji)
      omega
  | succ fuel ih =>
    intro listed a hfree hr hy H j hj hjp
    by_cases hji : j = i
    · subst hji; exact says_comes hi hy H
    · obtain ⟨hjun, oj, hoj, hall⟩ := mem_ready.1 hj
      have hnot : ∀ e ∈ oj.after, Region.binds md e = true → e.on ≠ i := fun e he hb heq => by
        have h1 := hall e he hb
        have h0 := (mem_ready.1 hr).1
        rw [heq] at h1
        rcases Nat.lt_or_ge i listed.size with h' | h'
        · simp [h'] at h0 h1; rw [h0] at h1; cases h1
        · simp [Array.getElem?_eq_none h'] at h1
      have h2 := comes_put hC hoj (hfree j oj hoj hji hjun hnot) (fun cs b => hsel i oi cs b hi) (fun cs b => hsel j oj cs b hoj) hy (fun v hv => H v hv j (ready_mono hj hji) hjp)
      have hfree' : ∀ k ok, ops[k]? = some ok → k ≠ i → (listed.setIfInBounds j true).getD k true = false →
          (∀ e ∈ ok.after, Region.binds md e = true → e.on ≠ i) → oi.apart ops ok = true := fun k ok hk hki hun hno => by
        refine hfree k ok hk hki ?_ hno
        by_cases hjk : j = k
        · subst hjk; exact hjun
        · rw [getD_set_ne true hjk] at hun; exact hun
      refine comes_mono (fun a' h3 => ih (listed.setIfInBounds j true) a' hfree' (ready_mono hr (Ne.symm hji)) h3.1 fun v hv => ?_) h2
      rw [Array.setIfInBounds_comm _ _ hji]
      exact h3.2 v hv

def lexPre (md : Region.Mode) (ops : Array Oper) (p : Nat) : Nat → Nat → Array Bool → Bool
  | 0, _, listed => (Region.ready md ops listed).all fun j => decide (p ≤ j)
  | fuel + 1, k, listed => (Region.ready md ops listed).contains k && Region.free md ops listed k && lexPre md ops p fuel (k + 1) (listed.setIfInBounds k true)

theorem preWay_lex {p : Nat} {Q : Act → Prop} (hC : ∃ w, C w) (hs : Region.noSelect ops = true) : ∀ (l : List Oper) (k : Nat) (listed : Array Bool) (a : Act), (∀ j, j < l.length → l[j]? = ops[k + j]?) →
    lexPre md ops p l.length k listed = true → walk P ops C S Q k l a → preWay P md ops C S p Q l.length listed a
  | [], _, _, _, _, hB, h => by
    unfold walk at h
    refine ⟨fun j hj => ?_, h⟩
    have := List.all_eq_true.1 hB j hj
    simpa using this
  | o :: l, k, listed, a, hl, hB, h => by
    have h0 : ops[k]? = some o := by simpa using (hl 0 (by simp)).symm
    simp only [List.length_cons, lexPre, Bool.and_eq_true] at hB
    obtain ⟨⟨hr, hf⟩, hB'⟩ := hB
    have hl' : ∀ j, j < l.length → l[j]? = ops[k + 1 + j]? := fun j hj => by have := hl (j + 1) (by simp; omega); simpa [Nat.add_assoc, Nat.add_comm 1 j] using this
    unfold walk at h
    by_cases hw : Region.wanted o (yielded ops a.tmps) = true
    · rw [if_pos hw] at h
      exact preWay_first hC h0 (Region.noSelect_spec hs) l.length listed a (Region.free_spec h0 hf) (by simpa using hr) (.inl ⟨hw, h.1, rfl⟩)
        (fun v hv => preWay_lex hC hs l (k + 1) _ _ hl' hB' (h.2 v hv))
    · rw [if_neg hw] at h
      exact preWay_first hC h0 (Region.noSelect_spec hs) l.length listed a (Region.free_spec h0 hf) (by simpa using hr) (.inr ⟨by simpa using hw, rfl⟩)
        (fun v hv => by subst hv; exact preWay_lex hC hs l (k + 1) _ _ hl' hB' h)

/-- What has come up: with an operation all that it waits for; none of the last ones; n of the first ones have not. -/
structure Inv (md : Region.Mode) (ops : Array Oper) (p n : Nat) (listed : Array Bool) : Prop where
  size : listed.size = ops.size
  late : ∀ x, p ≤ x → listed.getD x false = false
  shut : ∀ x o, ops[x]? = some o → listed.getD x false = true → ∀ e ∈ o.after, Region.binds md e = true → listed.getD e.on false = true
  left : (listed.toList.take p).count false = n

theorem Inv.next {p n j : Nat} {listed : Array Bool} (h : Inv md ops p (n + 1) listed) (hj : j ∈ Region.ready md ops listed) (hp : j < p) : Inv md ops p n (listed.setIfInBounds j true) := by
  obtain ⟨h0, o, ho, hall⟩ := mem_ready.1 hj
  have hlt : j < ops.size := (Array.getElem?_eq_some_iff.1 ho).1
  have hls : j < listed.size := by rw [h.size]; exact hlt
  refine ⟨by simp [h.size], fun x hx => ?_, fun x o' ho' hx e he hb => ?_, ?_⟩
  · rw [getD_set_ne false (by omega)]; exact h.late x hx
  · by_cases hxj : j = x
    · subst hxj
      rw [ho] at ho'; cases ho'
      exact getD_set_true (hall e he hb)
    · rw [getD_set_ne false hxj] at hx
      exact getD_set_true (h.shut x o' ho' hx e he hb)
  · rw [Array.toList_setIfInBounds, List.take_set, List.count_set (by simp; omega)]
    have hv : (listed.toList.take p)[j]'(by simp; omega) = false := by
      rw [List.getElem_take, Array.getElem_toList]
      have := h0
      simp only [Array.getD, hls, dite_true] at this
      simpa using this
    rw [hv, h.left]
    simp

/-- Each of the first p operations is waited for by one behind it, up to the p-th; each behind the p-th waits for it. -/
def chained (md : Region.Mode) (ops : Array Oper) (p : Nat) : Bool :=
  ((List.range p).all fun i => (List.range ops.size).any fun x => decide (i < x) && decide (x ≤ p) && match ops[x]? with | some o => o.after.any (fun e => Region.binds md e && e.on == i) | none => false) &&
  ((List.range ops.size).all fun x => decide (x ≤ p) || match ops[x]? with | some o => o.after.any (fun e => Region.binds md e && e.on == p) | none => true)
/-- Each waits for earlier ones only. -/
def backward (md : Region.Mode) (ops : Array Oper) : Bool :=
  (List.range ops.size).all fun x => match ops[x]? with | some o => o.after.all (fun e => !Region.binds md e || decide (e.on < x)) | none => true

theorem ready_some {listed : Array Bool} (hb : backward md ops = true) (hs : listed.size = ops.size) : ∀ (d i : Nat), i < d → i < ops.size → listed.getD i false = false → Region.ready md ops listed ≠ [] := by
  intro d
  induction d with
  | zero => intro i h; omega
  | succ d ih =>
    intro i hid hi hl
    have ho : ops[i]? = some ops[i] := Array.getElem?_eq_getElem hi
    have h1 := List.all_eq_true.1 hb i (List.mem_range.2 hi)
    rw [ho] at h1
    by_cases hall : ∀ e ∈ (ops[i]).after, Region.binds md e = true → listed.getD e.on false = true
    · have : i ∈ Region.ready md ops listed := mem_ready.2 ⟨by
        have hls : i < listed.size := by omega
        simp only [Array.getD, hls, dite_true] at hl ⊢
        exact hl, ops[i], ho, hall⟩
      intro h0
      rw [h0] at this; cases this
    · obtain ⟨e, he⟩ := Classical.not_forall.1 hall
      obtain ⟨hm, he⟩ := Classical.not_forall.1 he
      obtain ⟨hbi, he⟩ := Classical.not_forall.1 he
      have h2 := Array.all_eq_true_iff_forall_mem.1 h1 e hm
      rw [hbi] at h2
      have h3 : e.on < i := by simpa using h2
      exact ih e.on (by omega) (by omega) (by simpa using he)

theorem Inv.some {p n : Nat} {listed : Array Bool} (h : Inv md ops p (n + 1) listed) : ∃ i, i < p ∧ i < listed.size ∧ listed.getD i false = false := by
  have : false ∈ listed.toList.take p := List.count_pos_iff.1 (by rw [h.left]; omega)
  obtain ⟨i, hi, e⟩ := List.mem_iff_getElem.1 this
  have hi2 : i < p ∧ i < listed.size := by rw [List.length_take, Array.length_toList] at hi; omega
  refine ⟨i, hi2.1, hi2.2, ?_⟩
  rw [List.getElem_take, Array.getElem_toList] at e
  simp [Array.getD, hi2.2, e]

theorem Inv.ready_lt {p n : Nat} {listed : Array Bool} (h : Inv md ops p (n + 1) listed) (hc : chained md ops p = true) (hpl : p < ops.size) : ∀ j ∈ Region.ready md ops listed, j < p := by
  unfold chained at hc
  rw [Bool.and_eq_true] at hc
  obtain ⟨hc1, hc2⟩ := hc
  obtain ⟨i0, hi0, _, hl0⟩ := h.some
  have hsome : ∃ i, i < p ∧ listed.getD i false = false := ⟨i0, hi0, hl0⟩
  have hp : ∀ d i, p - i ≤ d → i < p → listed.getD i false = false → ¬ p ∈ Region.ready md ops listed := by
    intro d
    induction d with
    | zero => intro i h1 h2; omega
    | succ d ih =>
      intro i h1 h2 h3 hr
      obtain ⟨x, _, hx⟩ := List.any_eq_true.1 (List.all_eq_true.1 hc1 i (List.mem_range.2 h2))
      simp only [Bool.and_eq_true, decide_eq_true_eq] at hx
      obtain ⟨⟨hix, hxp⟩, hx⟩ := hx
      cases ho : ops[x]? with
      | none => rw [ho] at hx; cases hx
      | some o =>
        rw [ho] at hx
        obtain ⟨e, he, hb⟩ := Array.any_eq_true'.1 hx
        rw [Bool.and_eq_true, beq_iff_eq] at hb
        by_cases hxq : x = p
        · subst hxq
          obtain ⟨_, o', ho', hall⟩ := mem_ready.1 hr
          rw [ho] at ho'; cases ho'
          have := hall e he hb.1
          rw [hb.2, h3] at this; cases this
        · refine ih x (by omega) (by omega) ?_ hr
          cases hq : listed.getD x false with
          | false => rfl
          | true =>
            have := h.shut x o ho hq e he hb.1
            rw [hb.2, h3] at this; cases this
  obtain ⟨i, hi, hi2⟩ := hsome
  have hnp := hp p i (by omega) hi hi2
  intro j hj
  by_cases h1 : j < p
  · exact h1
  · exfalso
    by_cases h2 : j = p
    · subst h2; exact hnp hj
    · obtain ⟨_, o, ho, hall⟩ := mem_ready.1 hj
      have := List.all_eq_true.1 hc2 j (List.mem_range.2 (Array.getElem?_eq_some_iff.1 ho).1)
      rw [ho, Bool.or_eq_true, decide_eq_true_eq] at this
      rcases this with h3 | h3
      · omega
      · obtain ⟨e, he, hb⟩ := Array.any_eq_true'.1 h3
        rw [Bool.and_eq_true, beq_iff_eq] at hb
        have h4 := hall e he hb.1
        rw [hb.2, h.late p (Nat.le_refl _)] at h4; cases h4

/-- The first p have come up, the last ones have not. -/
def half (p t : Nat) : Array Bool := (List.replicate p true ++ List.replicate t false).toArray
theorem Inv.half {p : Nat} {listed : Array Bool} (h : Inv md ops p 0 listed) (hp : p ≤ ops.size) : listed = half p (ops.size - p) := by
  unfold Loose.half
  apply Array.ext'
  show listed.toList = _
  apply List.ext_getElem
  · simp [h.size]; omega
  · intro i h1 h2
    have hls : i < listed.size := by simpa using h1
    rw [Array.getElem_toList]
    by_cases hi : i < p
    · rw [List.getElem_append_left (by simpa using hi), List.getElem_replicate]
      cases hv : listed[i] with
      | true => rfl
      | false =>
        exfalso
        have hm : false ∈ listed.toList.take p := by
          refine List.mem_iff_getElem.2 ⟨i, by simp; omega, ?_⟩
          rw [List.getElem_take, Array.getElem_toList, hv]
        have := List.count_pos_iff.2 hm
        rw [h.left] at this; omega
    · rw [List.getElem_append_right (by simpa using hi), List.getElem_replicate]
      have := h.late i (by omega)
      simpa [Array.getD, hls] using this

theorem wpAny_of_preWay {p t : Nat} {Q : Act → Prop} {Q' : Exit → Act → World → Prop} (hc : chained md ops p = true) (hb : backward md ops = true) (hs : ops.size = p + t) (ht : 0 < t)
    (hQ : ∀ a w, C w → Q a → wpAny P md ops Q' t (half p t) a w) : ∀ (n : Nat) (listed : Array Bool) (a : Act) (w : World), Inv md ops p n listed → C w →
    preWay P md ops C S p Q n listed a → wpAny P md ops Q' (n + t) listed a w := by
  intro n
  induction n with
  | zero =>
    intro listed a w hI hw h
    have e := hI.half (by omega)
    rw [show ops.size - p = t by omega] at e
    rw [Nat.zero_add, e]
    exact hQ a w hw h.2
  | succ n ih =>
    intro listed a w hI hw h
    rw [show n + 1 + t = (n + t) + 1 by omega]
    have hlt := hI.ready_lt hc (by omega)
    refine ⟨fun h0 => ?_, fun j hj => wpOp_of_comes hw (fun a' w' hw' h' => ih _ a' w' (hI.next hj (hlt j hj)) hw' h') (h j hj (hlt j hj))⟩
    obtain ⟨i, hi, hi2, hl⟩ := hI.some
    exact absurd h0 (ready_some hb hI.size (i + 1) i (by omega) (by omega) hl)

/-- The last ones, each the only one that may come. -/
def straight (md : Region.Mode) (ops : Array Oper) : Nat → Nat → Array Bool → Bool
  | 0, _, listed => (Region.ready md ops listed).isEmpty
  | n + 1, k, listed => (Region.ready md ops listed == [k]) && straight md ops n (k + 1) (listed.setIfInBounds k true)
theorem wpAny_straight {Q' : Exit → Act → World → Prop} : ∀ (l : List Oper) (k : Nat) (listed : Array Bool) (a : Act) (w : World), (∀ j, j < l.length → l[j]? = ops[k + j]?) →
    straight md ops l.length k listed = true → wpList P ops Q' l a w → wpAny P md ops Q' l.length listed a w
  | [], _, _, _, _, _, hB, h => ⟨by simpa [straight] using hB, h⟩
  | o :: l, k, listed, a, w, hl, hB, h => by
    have h0 : ops[k]? = some o := by simpa using (hl 0 (by simp)).symm
    simp only [List.length_cons, straight, Bool.and_eq_true, beq_iff_eq] at hB
    have hl' : ∀ j, j < l.length → l[j]? = ops[k + 1 + j]? := fun j hj => by have := hl (j + 1) (by simp; omega); simpa [Nat.add_assoc, Nat.add_comm 1 j] using this
    refine ⟨fun h0 => (by rw [hB.1] at h0; cases h0), fun i hi => ?_⟩
    rw [hB.1, List.mem_singleton] at hi
    subst hi
    have h1 : wpOp P ops Q' i (wpList P ops Q' l) a w := by unfold wpOp; rw [h0]; exact h
    exact wpOp_mono (fun a' w' h' => wpAny_straight l (i + 1) _ a' w' hl' hB.2 h') h1

def preB (md : Region.Mode) (ops : Array Oper) (p : Nat) : Bool :=
  Region.noSelect ops && lexPre md ops p p 0 (Array.replicate ops.size false) && chained md ops p && backward md ops && straight md ops (ops.size - p) p (half p (ops.size - p)) && decide (p < ops.size)

theorem inv_start {p : Nat} (hp : p ≤ ops.size) : Inv md ops p p (Array.replicate ops.size false) := by
  refine ⟨by simp, fun x _ => ?_, fun x o ho hx => ?_, ?_⟩
  · by_cases h : x < ops.size <;> simp [Array.getD, h]
  · exfalso
    by_cases h : x < ops.size <;> simp [Array.getD, h] at hx
  · rw [Array.toList_replicate, List.take_replicate, List.count_replicate_self]
    omega

/-- **The first p in the order of the text, the others behind them.** -/
theorem wp_start_pre (p : Nat) {id : Nat} {Q : Exit → Act → World → Prop} {a : Act} {w : World} {l l1 t : List Oper} (hm : P.follows .mixedOrders = true) (hB : preB .any l.toArray p = true) (h1 : l.take p = l1) (h2 : l.drop p = t)
    (h : start l1 (fun Rs => walk P l.toArray (fun w' => ∃ n, w' = w.drewN n) (nth Rs) (fun a' => ∀ n, wpList P l.toArray Q t a' (w.drewN n)) 0 l1 a)) : (Code.region id l.toArray true).wp P Q a w := by
  obtain ⟨Rs, h'⟩ := start_some h
  unfold preB at hB
  simp only [Bool.and_eq_true, decide_eq_true_eq] at hB
  obtain ⟨⟨⟨⟨⟨hs, hx⟩, hc⟩, hb⟩, hst⟩, hp⟩ := hB
  have hsz : l.toArray.size = l.length := by simp
  have hl1 : l1.length = p := by rw [← h1, List.length_take]; omega
  have ht : t.length = l.toArray.size - p := by rw [← h2, List.length_drop]; omega
  have hC0 : (fun w' => ∃ n, w' = w.drewN n) { w with drawn := w.drawn + 1 } := ⟨1, rfl⟩
  refine wp_region_any hm ?_
  have h4 : preWay P .any l.toArray (fun w' => ∃ n, w' = w.drewN n) (nth Rs) p (fun a' => ∀ n, wpList P l.toArray Q t a' (w.drewN n)) p (Array.replicate l.toArray.size false) a := by
    have := preWay_lex (P := P) (md := .any) (p := p) ⟨_, hC0⟩ hs l1 0 (Array.replicate l.toArray.size false) a (fun j hj => by rw [← h1, List.getElem?_take, if_pos (by omega)]; simp) (by rw [hl1]; exact hx) h'
    rwa [hl1] at this
  have h5 := wpAny_of_preWay (P := P) (md := .any) (ops := l.toArray) (Q' := Q) (t := t.length) hc hb (by omega) (by omega) (fun a' w' ⟨n, hn⟩ hq => by
    subst hn
    refine wpAny_straight t p _ a' _ (fun j hj => by rw [← h2, List.getElem?_drop]; simp) ?_ (hq n)
    rw [ht]; exact hst) p _ a _ (inv_start (by omega)) hC0 h4
  rw [show p + t.length = l.toArray.size by omega] at h5
  exact h5
end
end Go.Loose
