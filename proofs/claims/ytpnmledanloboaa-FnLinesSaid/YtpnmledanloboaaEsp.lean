/-
  Slices of elements: lists of the call's own, and their pieces.
-/
import Derived.Test.YtpnmledanloboaaEl
namespace Go.Proofs.Ytpnmledanloboaa
open Go.Fl Go.RowKit
set_option linter.unusedSimpArgs false
set_option linter.unusedVariables false

theorem eown_es {B : Nat} {w : World} {v : Value} {ts : List El} (h : EOwn B w v ts) (ho : oksE ts) : ES w v ts := by
  have h0 := h
  rcases h.2 with ⟨rfl, hn⟩ | ⟨g, cap, cur, rfl, hB, hg, hl, hm, _⟩
  · have e : ts = [] := List.length_eq_zero_iff.1 hn
    subst e
    exact ⟨none, 0, rfl, Nat.le_refl _, Nat.zero_le _, ho, .inl rfl⟩
  · refine ⟨_, cap, rfl, hl, hm, ho, .inr ⟨g, 0, rfl, (Array.getElem?_eq_some_iff.1 hg).1, fun i hi => ?_⟩⟩
    obtain ⟨⟨c0, c1, c2⟩, _⟩ := e_cells h0 hi
    rw [Nat.zero_add]
    exact ⟨c0, c1, c2⟩
theorem es_take {w : World} {a : Option Addr} {n cap k : Nat} {ts : List El} (h : ES w (.slice a n cap) ts) (hk : k ≤ ts.length) : ES w (.slice a k cap) (ts.take k) := by
  obtain ⟨a', c', e, h1, h2, h3, h4⟩ := h
  simp only [Value.slice.injEq] at e
  obtain ⟨rfl, rfl, rfl⟩ := e
  have hl : (ts.take k).length = k := by rw [List.length_take]; omega
  refine ⟨a, cap, by rw [hl], by rw [hl]; omega, h2, fun t ht => h3 t (List.mem_of_mem_take ht), ?_⟩
  rcases h4 with h4 | ⟨b, off, ha, hb, hc⟩
  · exact .inl (by rw [h4]; simp)
  · refine .inr ⟨b, off, ha, hb, fun i hi => ?_⟩
    have := hc i (by omega)
    rw [List.getElem_take]
    exact this
theorem es_drop {w : World} {b off n cap k : Nat} {ts : List El} (h : ES w (.slice (some ⟨b, off, none⟩) n cap) ts) (hk : k ≤ ts.length) (hn : ts ≠ []) : ES w (.slice (some ⟨b, off + k * 3, none⟩) (ts.length - k) (cap - k)) (ts.drop k) := by
  obtain ⟨a', c', e, h1, h2, h3, h4⟩ := h
  simp only [Value.slice.injEq] at e
  obtain ⟨e1, rfl, rfl⟩ := e
  subst e1
  have hl : (ts.drop k).length = ts.length - k := List.length_drop
  refine ⟨_, _, by rw [hl], by rw [hl]; omega, by unfold maxLen at *; omega, fun t ht => h3 t (List.mem_of_mem_drop ht), ?_⟩
  rcases h4 with h4 | ⟨b', off', ha, hb, hc⟩
  · exact absurd h4 hn
  · simp only [Option.some.injEq, Addr.mk.injEq, and_true] at ha
    obtain ⟨rfl, rfl⟩ := ha
    refine .inr ⟨b, off + k * 3, rfl, hb, fun i hi => ?_⟩
    have := hc (k + i) (by omega)
    rw [List.getElem_drop]
    rw [show off + k * 3 + i * 3 = off + (k + i) * 3 by rw [Nat.add_mul]; omega]
    exact this
end Go.Proofs.Ytpnmledanloboaa
