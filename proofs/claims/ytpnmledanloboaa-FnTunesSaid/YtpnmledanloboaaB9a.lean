/-
  A number that the first byte chooses; the difference of two numbers in 64 bits.
-/
import Derived.Test.YtpnmledanloboaaSrc
import Derived.Test.YtpnmledanloboaaFn
import Derived.Test.YtpnmledanloboaaRq
namespace Go.Proofs.Ytpnmledanloboaa
open Go.Fl Go.RowKit
set_option linter.unusedSimpArgs false
set_option linter.unusedVariables false

set_option maxRecDepth 100000 in
theorem at9_any (a : Option Addr) (n cap : Nat) (z : List Int) (d : Int) (hd : 1 ≤ d ∧ d ≤ 5) (w : World) (h : Go.Nl.NS .u8 w (.slice a n cap) z) :
    Calls Try.prog 51 #[.slice a n cap, .int .i64 0, .int .i64 d] w fun e w' => (∃ x : Int, e = .returned (.int .i64 x) ∧ 0 ≤ x ∧ x < d) ∧ w' = w := by
  obtain ⟨a', cap', e, hlc, hcm, hwf, hcell⟩ := h
  simp only [Value.slice.injEq] at e
  obtain ⟨rfl, rfl, rfl⟩ := e
  have hds : d = 1 ∨ d = 2 ∨ d = 3 ∨ d = 4 ∨ d = 5 := by omega
  clear hd
  by_cases hlt : 0 < z.length
  · obtain rfl | ⟨b, off, rfl, hbl, hcell⟩ := hcell
    · simp at hlt
    have hb := byte_range (x := z.getD 0 0) (hwf _ (by rw [List.getD_eq_getElem?_getD, List.getElem?_eq_getElem hlt]; exact List.getElem_mem _))
    have hc := hcell 0 (by omega)
    clear hcell hwf
    generalize z.getD 0 0 = x at hb hc
    have h1 : (0 : Int) < (z.length : Int) := by omega
    have hc' : w.cell? ⟨b, off, none⟩ = some (.int .u8 x) := by simpa using hc
    rcases hds with rfl | rfl | rfl | rfl | rfl <;>
    · go_enter Try.func51, Try.ntmps51
      go_wp2
      all_goals (go_ret; exact ⟨⟨_, rfl, by omega, by omega⟩, rfl⟩)
  · clear hcell hwf hcm hlc
    have h1 : ¬ (0 : Int) < (z.length : Int) := by omega
    generalize z.length = L at h1 ⊢
    rcases hds with rfl | rfl | rfl | rfl | rfl <;>
    · go_enter Try.func51, Try.ntmps51
      go_wp2
      all_goals (go_ret; exact ⟨⟨_, rfl, by omega, by omega⟩, rfl⟩)
/-- The difference of two numbers, without its sign. -/
def gapW (A B : Nat) : Nat := if fcmp .lss .f64 A B = true then fop .sub .f64 B A else fop .sub .f64 A B
set_option maxHeartbeats 1000000 in
theorem gap9_any (a b A B : Nat) (ia : Is .f64 a A) (ib : Is .f64 b B) (w : World) : Calls Try.prog 49 #[.float .f64 a, .float .f64 b] w fun e w' => (∃ r, e = .returned (.float .f64 r) ∧ Is .f64 r (gapW A B)) ∧ Below w.heap.size w w' := by
  unfold gapW
  cases h : fcmp .lss .f64 A B with
  | true =>
    go_enter Try.func49, Try.ntmps49
    go_wp2_with (first | (apply wpList_fcmp; rfl; rfl; rfl; rfl; (first | with_reducible assumption | exact Is.const rfl); (first | with_reducible assumption | exact Is.const rfl); (first | with_reducible assumption | exact rfl)) | (apply wpList_farith; rfl; rfl; rfl; rfl; (first | with_reducible assumption | exact Is.const rfl); (first | with_reducible assumption | exact Is.const rfl); intro r n hr))
    go_ret
    exact ⟨⟨_, rfl, by assumption⟩, below_drewN (Below.refl _ _) _⟩
  | false =>
    go_enter Try.func49, Try.ntmps49
    go_wp2_with (first | (apply wpList_fcmp; rfl; rfl; rfl; rfl; (first | with_reducible assumption | exact Is.const rfl); (first | with_reducible assumption | exact Is.const rfl); (first | with_reducible assumption | exact rfl)) | (apply wpList_farith; rfl; rfl; rfl; rfl; (first | with_reducible assumption | exact Is.const rfl); (first | with_reducible assumption | exact Is.const rfl); intro r n hr))
    go_ret
    exact ⟨⟨_, rfl, by assumption⟩, below_drewN (Below.refl _ _) _⟩
set_option maxHeartbeats 1000000 in
theorem gap9D_any (a b A B : Nat) (ia : Is .f64 a A) (ib : Is .f64 b B) (w : World) : Calls Try.prog 49 #[.float .f64 a, .float .f64 b] w fun e w' => (∃ r, e = .returned (.float .f64 r) ∧ Is .f64 r (gapW A B)) ∧ ∃ n, w' = w.drewN n := by
  unfold gapW
  cases h : fcmp .lss .f64 A B with
  | true =>
    go_enter Try.func49, Try.ntmps49
    go_wp2_with (first | (apply wpList_fcmp; rfl; rfl; rfl; rfl; (first | with_reducible assumption | exact Is.const rfl); (first | with_reducible assumption | exact Is.const rfl); (first | with_reducible assumption | exact rfl)) | (apply wpList_farith; rfl; rfl; rfl; rfl; (first | with_reducible assumption | exact Is.const rfl); (first | with_reducible assumption | exact Is.const rfl); intro r n hr))
    go_ret
    exact ⟨⟨_, rfl, by assumption⟩, _, rfl⟩
  | false =>
    go_enter Try.func49, Try.ntmps49
    go_wp2_with (first | (apply wpList_fcmp; rfl; rfl; rfl; rfl; (first | with_reducible assumption | exact Is.const rfl); (first | with_reducible assumption | exact Is.const rfl); (first | with_reducible assumption | exact rfl)) | (apply wpList_farith; rfl; rfl; rfl; rfl; (first | with_reducible assumption | exact Is.const rfl); (first | with_reducible assumption | exact Is.const rfl); intro r n hr))
    go_ret
    exact ⟨⟨_, rfl, by assumption⟩, _, rfl⟩
theorem zLong9_any (a a' : Option Addr) (n c n' c' : Nat) (w : World) : Calls Try.prog 46 #[.slice a n c, .slice a' n' c'] w fun e w' => e = .returned (.bool (decide (1048576 < n ∨ 1048576 < n'))) ∧ w' = w := by
  by_cases h : 1048576 < n
  · have h1 : (1048576 : Int) < (n : Int) := by omega
    go_enter Try.func46, Try.ntmps46
    go_wp2
    go_ret
    exact ⟨by simp [h], rfl⟩
  · have h1 : ¬ (1048576 : Int) < (n : Int) := by omega
    by_cases h' : 1048576 < n'
    · have h2 : (1048576 : Int) < (n' : Int) := by omega
      go_enter Try.func46, Try.ntmps46
      go_wp2
      go_ret
      exact ⟨by first | (simp; done) | (simp; omega) | simp [h'], rfl⟩
    · have h2 : ¬ (1048576 : Int) < (n' : Int) := by omega
      go_enter Try.func46, Try.ntmps46
      go_wp2
      go_ret
      exact ⟨by first | (simp; done) | (simp; omega) | simp [h'], rfl⟩
end Go.Proofs.Ytpnmledanloboaa
