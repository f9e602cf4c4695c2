/-
  Numbers that bytes choose, of eight.
-/
import Derived.Test.YtahgnjmdlhidpaaChg
namespace Go.Proofs.Ytahgnjmdlhidpaa
open Go.Fl Go.RowKit
set_option linter.unusedSimpArgs false
set_option linter.unusedVariables false

set_option maxRecDepth 100000 in
theorem lAt8_any (a : Option Addr) (n cap : Nat) (z : List Int) (k : Int) (hk : k = 0 ∨ k = 1) (w : World) (h : Go.Nl.NS .u8 w (.slice a n cap) z) :
    Calls Try.prog 22 #[.slice a n cap, .int .i64 k, .int .i64 8] w fun e w' => (∃ x : Int, e = .returned (.int .i64 x) ∧ 0 ≤ x ∧ x < 8) ∧ w' = w := by
  obtain ⟨a', cap', e, hlc, hcm, hwf, hcell⟩ := h
  simp only [Value.slice.injEq] at e
  obtain ⟨rfl, rfl, rfl⟩ := e
  by_cases hlt : k < (z.length : Int)
  · obtain rfl | ⟨b, off, rfl, hbl, hcell⟩ := hcell
    · simp at hlt; omega
    have hb := byte_range (x := z.getD k.toNat 0) (hwf _ (by rw [List.getD_eq_getElem?_getD, List.getElem?_eq_getElem (show k.toNat < z.length by omega)]; exact List.getElem_mem _))
    have hc := hcell k.toNat (by omega)
    generalize z.getD k.toNat 0 = x at hb hc
    rcases hk with rfl | rfl
    · have h1 : ¬ ((z.length : Int) ≤ 0) := by omega
      have hc' : w.cell? ⟨b, off, none⟩ = some (.int .u8 x) := by simpa using hc
      go_enter Try.func22, Try.ntmps22
      go_wp2
      all_goals (go_ret; exact ⟨⟨_, rfl, by omega, by omega⟩, rfl⟩)
    · have h1 : ¬ ((z.length : Int) ≤ 1) := by omega
      have hc' : w.cell? ⟨b, off + 1, none⟩ = some (.int .u8 x) := by simpa using hc
      go_enter Try.func22, Try.ntmps22
      go_wp2
      all_goals (go_ret; exact ⟨⟨_, rfl, by omega, by omega⟩, rfl⟩)
  · clear hcell hwf hcm hlc
    generalize z.length = L at hlt ⊢
    rcases hk with rfl | rfl
    · obtain rfl : L = 0 := by omega
      go_enter Try.func22, Try.ntmps22
      go_wp2
      all_goals (go_ret; exact ⟨⟨_, rfl, by omega, by omega⟩, rfl⟩)
    · have hL : L = 0 ∨ L = 1 := by omega
      rcases hL with rfl | rfl
      · go_enter Try.func22, Try.ntmps22
        go_wp2
        all_goals (go_ret; exact ⟨⟨_, rfl, by omega, by omega⟩, rfl⟩)
      · go_enter Try.func22, Try.ntmps22
        go_wp2
        all_goals (go_ret; exact ⟨⟨_, rfl, by omega, by omega⟩, rfl⟩)


set_option maxRecDepth 100000 in
theorem tab_two : ((List.range 9).all fun n => fop .quo .f32 (floatOfInt .f32 ((n : Int))) 1073741824 == E8 (4 * (n : Int))) = true := by decide +kernel
theorem half_two (x : Int) (h0 : 0 ≤ x) (h1 : x < 9) : fop .quo .f32 (floatOfInt .f32 x) 1073741824 = E8 (4 * x) := by
  have h := List.all_eq_true.1 tab_two x.toNat (List.mem_range.2 (by omega))
  simp only [show ((x.toNat : Nat) : Int) = x by omega, beq_iff_eq] at h
  exact h
end Go.Proofs.Ytahgnjmdlhidpaa
