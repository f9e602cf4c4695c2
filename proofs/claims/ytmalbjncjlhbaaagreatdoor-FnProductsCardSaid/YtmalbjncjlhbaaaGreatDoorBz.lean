/-
  Numbers that bytes choose, and how long inputs are, for FnNumbers and FnProducts.
-/
import Derived.Test.YtmalbjncjlhbaaaGreatDoorSrc
namespace Go.Proofs.YtmalbjncjlhbaaaGreatDoor
open Go.Fl Go.RowKit
set_option linter.unusedSimpArgs false
set_option linter.unusedVariables false

set_option maxRecDepth 100000 in
theorem zAt_any (a : Option Addr) (n cap : Nat) (z : List Int) (d : Int) (hd : d = 12 ∨ d = 9) (w : World) (h : Go.Nl.NS .u8 w (.slice a n cap) z) :
    Calls Tryz.prog 11 #[.slice a n cap, .int .i64 0, .int .i64 d] w fun e w' => (∃ x : Int, e = .returned (.int .i64 x) ∧ 0 ≤ x ∧ x < d) ∧ w' = w := by
  obtain ⟨a', cap', e, hlc, hcm, hwf, hcell⟩ := h
  simp only [Value.slice.injEq] at e
  obtain ⟨rfl, rfl, rfl⟩ := e
  by_cases hlt : 0 < z.length
  · obtain rfl | ⟨b, off, rfl, hbl, hcell⟩ := hcell
    · simp at hlt
    have hb := byte_range (x := z.getD 0 0) (hwf _ (by rw [List.getD_eq_getElem?_getD, List.getElem?_eq_getElem hlt]; exact List.getElem_mem _))
    have hc := hcell 0 (by omega)
    clear hcell hwf
    generalize z.getD 0 0 = x at hb hc
    have h1 : (0 : Int) < (z.length : Int) := by omega
    have hc' : w.cell? ⟨b, off, none⟩ = some (.int .u8 x) := by simpa using hc
    rcases hd with rfl | rfl
    all_goals
      go_enter Tryz.func11, Tryz.ntmps11
      go_wp2
      all_goals (go_ret; exact ⟨⟨_, rfl, by omega, by omega⟩, rfl⟩)
  · clear hcell hwf hcm hlc
    have h1 : ¬ (0 : Int) < (z.length : Int) := by omega
    generalize z.length = L at h1 ⊢
    rcases hd with rfl | rfl
    all_goals
      go_enter Tryz.func11, Tryz.ntmps11
      go_wp2
      all_goals (go_ret; exact ⟨⟨_, rfl, by omega, by omega⟩, rfl⟩)

theorem zLong_any (a a' : Option Addr) (n c n' c' : Nat) (w : World) : Calls Tryz.prog 5 #[.slice a n c, .slice a' n' c'] w fun e w' => e = .returned (.bool (decide (1048576 < n ∨ 1048576 < n'))) ∧ w' = w := by
  by_cases h : 1048576 < n
  · have h1 : (1048576 : Int) < (n : Int) := by omega
    go_enter Tryz.func5, Tryz.ntmps5
    go_wp2
    go_ret
    exact ⟨by simp [h], rfl⟩
  · have h1 : ¬ (1048576 : Int) < (n : Int) := by omega
    by_cases h' : 1048576 < n'
    · have h2 : (1048576 : Int) < (n' : Int) := by omega
      go_enter Tryz.func5, Tryz.ntmps5
      go_wp2
      go_ret
      exact ⟨by first | (simp; done) | (simp; omega) | simp [h'], rfl⟩
    · have h2 : ¬ (1048576 : Int) < (n' : Int) := by omega
      go_enter Tryz.func5, Tryz.ntmps5
      go_wp2
      go_ret
      exact ⟨by first | (simp; done) | (simp; omega) | simp [h'], rfl⟩
end Go.Proofs.YtmalbjncjlhbaaaGreatDoor
