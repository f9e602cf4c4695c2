/-
  Numbers that bytes choose, and how long inputs are (the laws of the last part).
-/
import Derived.Test.YtnknhfhllifnhaaNl
import Derived.Test.YtnknhfhllifnhaaChg
import Derived.Lib.Hide
namespace Go.Proofs.Ytnknhfhllifnhaa
open Go.Fl Go.RowKit
set_option linter.unusedSimpArgs false
set_option linter.unusedVariables false

set_option maxRecDepth 100000 in
theorem bAt0_any (a : Option Addr) (n cap : Nat) (z : List Int) (w : World) (h : Go.Nl.NS .u8 w (.slice a n cap) z) :
    Calls Try.prog 25 #[.slice a n cap, .int .i64 0, .int .i64 9] w fun e w' => (∃ x : Int, e = .returned (.int .i64 x) ∧ 0 ≤ x ∧ x < 9) ∧ w' = w := by
  obtain ⟨a', cap', e, hlc, hcm, hwf, hcell⟩ := h
  simp only [Value.slice.injEq] at e
  obtain ⟨rfl, rfl, rfl⟩ := e
  by_cases hlt : 0 < z.length
  · obtain rfl | ⟨b, off, rfl, hbl, hcell⟩ := hcell
    · simp at hlt
    have hb := byte_range (x := z.getD 0 0) (hwf _ (by rw [List.getD_eq_getElem?_getD, List.getElem?_eq_getElem hlt]; exact List.getElem_mem _))
    have hc := hcell 0 (by omega)
    clear hcell hwf
    generalize z.getD 0 0 = x at hb hc
    have h1 : (0 : Int) < (z.length : Int) := by omega
    have hc' : w.cell? ⟨b, off, none⟩ = some (.int .u8 x) := by simpa using hc
    go_enter Try.func25, Try.ntmps25
    go_wp2
    all_goals (go_ret; exact ⟨⟨_, rfl, by omega, by omega⟩, rfl⟩)
  · clear hcell hwf hcm hlc
    have h1 : ¬ (0 : Int) < (z.length : Int) := by omega
    generalize z.length = L at h1 ⊢
    go_enter Try.func25, Try.ntmps25
    go_wp2
    all_goals (go_ret; exact ⟨⟨_, rfl, by omega, by omega⟩, rfl⟩)

set_option maxRecDepth 100000 in
theorem bAt1_any (a : Option Addr) (n cap : Nat) (z : List Int) (w : World) (h : Go.Nl.NS .u8 w (.slice a n cap) z) :
    Calls Try.prog 25 #[.slice a n cap, .int .i64 1, .int .i64 9] w fun e w' => (∃ x : Int, e = .returned (.int .i64 x) ∧ 0 ≤ x ∧ x < 9) ∧ w' = w := by
  obtain ⟨a', cap', e, hlc, hcm, hwf, hcell⟩ := h
  simp only [Value.slice.injEq] at e
  obtain ⟨rfl, rfl, rfl⟩ := e
  by_cases hlt : 1 < z.length
  · obtain rfl | ⟨b, off, rfl, hbl, hcell⟩ := hcell
    · simp at hlt
    have hb := byte_range (x := z.getD 1 0) (hwf _ (by rw [List.getD_eq_getElem?_getD, List.getElem?_eq_getElem hlt]; exact List.getElem_mem _))
    have hc := hcell 1 (by omega)
    clear hcell hwf
    generalize z.getD 1 0 = x at hb hc
    have h1 : (1 : Int) < (z.length : Int) := by omega
    have hc' : w.cell? ⟨b, off + 1, none⟩ = some (.int .u8 x) := by simpa using hc
    go_enter Try.func25, Try.ntmps25
    go_wp2
    all_goals (go_ret; exact ⟨⟨_, rfl, by omega, by omega⟩, rfl⟩)
  · clear hcell hwf hcm hlc
    have h1 : ¬ (1 : Int) < (z.length : Int) := by omega
    generalize z.length = L at h1 ⊢
    go_enter Try.func25, Try.ntmps25
    go_wp2
    all_goals (go_ret; exact ⟨⟨_, rfl, by omega, by omega⟩, rfl⟩)

set_option maxRecDepth 100000 in
theorem bAt2_any (a : Option Addr) (n cap : Nat) (z : List Int) (w : World) (h : Go.Nl.NS .u8 w (.slice a n cap) z) :
    Calls Try.prog 25 #[.slice a n cap, .int .i64 2, .int .i64 8] w fun e w' => (∃ x : Int, e = .returned (.int .i64 x) ∧ 0 ≤ x ∧ x < 8) ∧ w' = w := by
  obtain ⟨a', cap', e, hlc, hcm, hwf, hcell⟩ := h
  simp only [Value.slice.injEq] at e
  obtain ⟨rfl, rfl, rfl⟩ := e
  by_cases hlt : 2 < z.length
  · obtain rfl | ⟨b, off, rfl, hbl, hcell⟩ := hcell
    · simp at hlt
    have hb := byte_range (x := z.getD 2 0) (hwf _ (by rw [List.getD_eq_getElem?_getD, List.getElem?_eq_getElem hlt]; exact List.getElem_mem _))
    have hc := hcell 2 (by omega)
    clear hcell hwf
    generalize z.getD 2 0 = x at hb hc
    have h1 : (2 : Int) < (z.length : Int) := by omega
    have hc' : w.cell? ⟨b, off + 2, none⟩ = some (.int .u8 x) := by simpa using hc
    go_enter Try.func25, Try.ntmps25
    go_wp2
    all_goals (go_ret; exact ⟨⟨_, rfl, by omega, by omega⟩, rfl⟩)
  · clear hcell hwf hcm hlc
    have h1 : ¬ (2 : Int) < (z.length : Int) := by omega
    generalize z.length = L at h1 ⊢
    go_enter Try.func25, Try.ntmps25
    go_wp2
    all_goals (go_ret; exact ⟨⟨_, rfl, by omega, by omega⟩, rfl⟩)

theorem bLong_any (a a' : Option Addr) (n c n' c' : Nat) (w : World) : Calls Try.prog 23 #[.slice a n c, .slice a' n' c'] w fun e w' => e = .returned (.bool (decide (1048576 < n ∨ 1048576 < n'))) ∧ w' = w := by
  by_cases h : 1048576 < n
  · have h1 : (1048576 : Int) < (n : Int) := by omega
    go_enter Try.func23, Try.ntmps23
    go_wp2
    go_ret
    exact ⟨by simp [h], rfl⟩
  · have h1 : ¬ (1048576 : Int) < (n : Int) := by omega
    by_cases h' : 1048576 < n'
    · have h2 : (1048576 : Int) < (n' : Int) := by omega
      go_enter Try.func23, Try.ntmps23
      go_wp2
      go_ret
      exact ⟨by first | (simp; done) | (simp; omega) | simp [h'], rfl⟩
    · have h2 : ¬ (1048576 : Int) < (n' : Int) := by omega
      go_enter Try.func23, Try.ntmps23
      go_wp2
      go_ret
      exact ⟨by first | (simp; done) | (simp; omega) | simp [h'], rfl⟩
end Go.Proofs.Ytnknhfhllifnhaa
