/-
  Lists of integers in memory, as the walk is told of them.
-/
import Derived.WalkKit
import Derived.ProofKit
import Derived.OpenShut
import Derived.Deep.Slices
import Derived.Below
import Derived.Deep.Draws
namespace Go.Nl
open Go.RowKit

/-- The slice v has the integers xs. -/
def NS (k : IntKind) (w : World) (v : Value) (xs : List Int) : Prop :=
  ∃ a cap, v = .slice a xs.length cap ∧ xs.length ≤ cap ∧ cap ≤ maxLen ∧ (∀ x ∈ xs, (Lit.int k x).wf = true) ∧
    (xs = [] ∨ ∃ b off, a = some ⟨b, off, none⟩ ∧ b < w.heap.size ∧ ∀ i, i < xs.length → w.cell? ⟨b, off + i, none⟩ = some (.int k (xs.getD i 0)))

/-- It has them in a world in which what lay there has not turned. -/
theorem NS.below {k : IntKind} {w w' : World} {v : Value} {xs : List Int} (h : NS k w v xs) (hb : Below w.heap.size w w') : NS k w' v xs := by
  obtain ⟨a, cap, hv, h1, h2, h3, h4⟩ := h
  refine ⟨a, cap, hv, h1, h2, h3, ?_⟩
  rcases h4 with h4 | ⟨b, off, ha, hlt, hc⟩
  · exact .inl h4
  · exact .inr ⟨b, off, ha, Nat.lt_of_lt_of_le hlt hb.size, fun i hi => by rw [hb.cell (p := ⟨b, off + i, none⟩) hlt]; exact hc i hi⟩

theorem NS.drewN {k : IntKind} {w : World} {v : Value} {xs : List Int} (h : NS k w v xs) (n : Nat) : NS k (w.drewN n) v xs := h

/-- A slice of integers that came in. -/
theorem open_nums {H : Type} {enc : TypeId × Value → H} {P : Program} {W : World} {t e : TypeId} {k : IntKind} {a : Option Addr} {len cap : Nat} {d : DataW H} {ps : List MemPlace}
    (ht : P.underlying t = some (.slice e)) (he : P.underlying e = some (.int k)) (hc : P.cellsOf e = 1)
    (h : DataW.Trod enc P W 0 (fun _ => true) true t (.slice a len cap) d ps) : ∃ zs, NS k W (.slice a len cap) zs := by
  obtain ⟨fuel, hf⟩ := h
  rcases Deep.open_slice1 ht hc hf with ⟨hcs, _⟩ | ⟨a', l, c, m, n, V, D, Pl, hcs, _, hl, hm, hmm, _, hx⟩
  · simp [Value.cells] at hcs
    obtain ⟨rfl, rfl, rfl⟩ := hcs
    exact ⟨[], _, _, rfl, Nat.le_refl _, Nat.zero_le _, fun x hx => absurd hx List.not_mem_nil, .inl rfl⟩
  · simp [Value.cells] at hcs
    obtain ⟨rfl, rfl, rfl⟩ := hcs
    simp only [if_true] at hmm
    subst hmm
    have each : ∀ i, i < m → ∃ b, V i = .int k b ∧ (Lit.int k b).wf = true := fun i hi => by
      obtain ⟨x, e1, _, wx⟩ := DataW.trod_int he (hx i hi).2
      exact ⟨x, by simpa using e1, wx⟩
    let g : Nat → Int := fun i => match V i with | .int _ b => b | _ => 0
    have hg : ∀ i, i < m → V i = .int k (g i) ∧ (Lit.int k (g i)).wf = true := by
      intro i hi
      obtain ⟨b, hb, hw⟩ := each i hi
      have e1 : g i = b := by show (match V i with | .int _ b => b | _ => 0) = b; rw [hb]
      rw [e1]; exact ⟨hb, hw⟩
    refine ⟨(List.range len).map g, some a', m, by simp, by simpa using hl, hm, ?_, ?_⟩
    · intro x hx'
      obtain ⟨i, hi, rfl⟩ := List.mem_map.1 hx'
      have : i < len := by simpa using hi
      exact (hg i (by omega)).2
    · by_cases h0 : len = 0
      · left; subst h0; rfl
      · right
        obtain ⟨b, off, spot⟩ := a'
        have h00 := (hx 0 (by omega)).1
        have hs : spot = none := by simpa [Addr.add] using World.cell?_spot h00
        subst hs
        refine ⟨b, off, rfl, ?_, ?_⟩
        · have := block_lt_of_cell h00
          simpa [Addr.add] using this
        · intro i hi
          have hi' : i < len := by simpa using hi
          have h1 := (hx i (by omega)).1
          rw [(hg i (by omega)).1] at h1
          have e2 : ((List.range len).map g).getD i 0 = g i := by simp [List.getD, hi']
          rw [e2]
          by_cases hz : i = 0
          · subst hz; simpa [Addr.add] using h1
          · simpa [Addr.add, hz] using h1

/-- A copy under way: the first k values, zeros behind them. -/
def cpv (vs : List Value) (z : Value) (k : Nat) : List Value := vs.take k ++ List.replicate (vs.length - k) z
theorem cpv_zero (vs : List Value) (z : Value) : cpv vs z 0 = List.replicate vs.length z := by simp [cpv]
theorem cpv_all (vs : List Value) (z : Value) : cpv vs z vs.length = vs := by simp [cpv]
theorem length_cpv (vs : List Value) (z : Value) (k : Nat) (h : k ≤ vs.length) : (cpv vs z k).length = vs.length := by simp [cpv]; omega
theorem cpv_set (vs : List Value) (z u : Value) (k : Nat) (h : k < vs.length) (hu : vs[k]? = some u) : (cpv vs z k).set k u = cpv vs z (k + 1) := by
  unfold cpv
  apply List.ext_getElem?
  intro i
  have hk : min k vs.length = k := by omega
  rw [List.getElem?_set]
  by_cases h1 : k = i
  · subst h1
    rw [if_pos rfl, if_pos (by simp; omega), List.getElem?_append_left (by simp; omega), List.getElem?_take, if_pos (by omega), hu]
  · rw [if_neg h1]
    by_cases h2 : i < k
    · rw [List.getElem?_append_left (by simp; omega), List.getElem?_append_left (by simp; omega), List.getElem?_take, List.getElem?_take, if_pos h2, if_pos (by omega)]
    · rw [List.getElem?_append_right (by simp; omega), List.getElem?_append_right (by simp; omega)]
      simp only [List.length_take, hk, show min (k + 1) vs.length = k + 1 by omega, List.getElem?_replicate]
      by_cases h3 : i < vs.length
      · rw [if_pos (by omega), if_pos (by omega)]
      · rw [if_neg (by omega), if_neg (by omega)]

theorem cpv_get (vs : List Value) (z : Value) (k : Nat) (h : k < vs.length) : (cpv vs z k)[k]? = some z := by
  unfold cpv
  rw [List.getElem?_append_right (by simp; omega)]
  simp only [List.length_take, List.getElem?_replicate]
  rw [if_pos (by omega)]


theorem own_NS {k : IntKind} {w : World} {base : Nat} {e : TypeId} {g cap : Nat} {xs : List Int} (h : w.ownsRow base e 1 (.slice (some ⟨g, 0, none⟩) xs.length cap) xs.length (xs.map (Value.int k))) (hwf : ∀ x ∈ xs, (Lit.int k x).wf = true) :
    NS k w (.slice (some ⟨g, 0, none⟩) xs.length cap) xs := by
  have hc := h.2
  rcases hc with ⟨h', _⟩ | ⟨g', cap', cur, h', hb, hg, hnc, hcm, hcs, htake⟩
  · simp at h'
  · simp only [Value.slice.injEq, Option.some.injEq, Addr.mk.injEq, and_true, true_and] at h'
    obtain ⟨rfl, rfl⟩ := h'
    refine ⟨_, _, rfl, hnc, hcm, hwf, ?_⟩
    by_cases h0 : xs = []
    · exact .inl h0
    · refine .inr ⟨g, 0, rfl, (Array.getElem?_eq_some_iff.1 hg).1, fun i hi => ?_⟩
      rw [Nat.zero_add, h.cellAt i (by omega)]
      simp [List.getD, hi]
end Go.Nl
