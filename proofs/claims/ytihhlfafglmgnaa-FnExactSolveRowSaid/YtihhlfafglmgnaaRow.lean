/-
  Equations of neighbours: SolveRow of both sides.
-/
import Derived.Test.YtihhlfafglmgnaaRow2
namespace Go.Proofs.Ytihhlfafglmgnaa
open Go.Fl Go.RowKit
open Go.Joins (ownsRow_le)
set_option linter.unusedSimpArgs false
set_option linter.unusedVariables false

/-- The lists are of one length, which the limits allow. -/
def rowOk (lo mi up ri : List Nat) : Bool := decide (1 ≤ ri.length ∧ ri.length ≤ 256 ∧ lo.length = ri.length ∧ mi.length = ri.length ∧ up.length = ri.length)
def okSolveRow (lo mi up ri : List Nat) : Bool := rowOk lo mi up ri && triFine lo mi up ri ri.length
def lenSolveRow (lo mi up ri : List Nat) : Nat := if okSolveRow lo mi up ri then ri.length else 0
theorem lenSolveRow_le (lo mi up ri : List Nat) (_ : lo.length ≤ 1048576) (_ : mi.length ≤ 1048576) (_ : up.length ≤ 1048576) (h : ri.length ≤ 1048576) : lenSolveRow lo mi up ri ≤ 1048576 := by unfold lenSolveRow; split <;> omega
theorem okSolveRow_no {lo mi up ri : List Nat} (h : rowOk lo mi up ri = false) : okSolveRow lo mi up ri = false := by unfold okSolveRow; rw [h]; rfl
theorem okSolveRow_yes {lo mi up ri : List Nat} (h : rowOk lo mi up ri = true) : okSolveRow lo mi up ri = triFine lo mi up ri ri.length ∧ lenSolveRow lo mi up ri = rowN lo mi up ri := by
  have e : okSolveRow lo mi up ri = triFine lo mi up ri ri.length := by unfold okSolveRow; rw [h]; rfl
  exact ⟨e, by unfold lenSolveRow rowN; rw [e]⟩
theorem lenSolveRow_no {lo mi up ri : List Nat} (h : rowOk lo mi up ri = false) : lenSolveRow lo mi up ri = 0 := by unfold lenSolveRow; rw [okSolveRow_no h]; rfl

set_option maxHeartbeats 1000000 in
set_option maxRecDepth 100000 in
theorem iSolveRow_no (u1 u2 u3 u4 : Value) (lo mi up ri : List Nat) (w : World) (h1 : FS .f32 w u1 lo) (h2 : FS .f32 w u2 mi) (h3 : FS .f32 w u3 up) (h4 : FS .f32 w u4 ri) (h : rowOk lo mi up ri = false) :
    Calls Try.prog 39 #[u1, u2, u3, u4] w fun e w' => e = .returned (.tuple #[.slice none 0 0, .bool false]) ∧ w' = w := by
  obtain ⟨a1, c1, rfl, _, _, _, _⟩ := h1
  obtain ⟨a2, c2, rfl, _, _, _, _⟩ := h2
  obtain ⟨a3, c3, rfl, _, _, _, _⟩ := h3
  obtain ⟨a4, c4, rfl, _, _, _, _⟩ := h4
  have h := of_decide_eq_false h
  by_cases q1 : ri.length < 1
  · have q1' : (ri.length : Int) < 1 := by omega
    clear h
    go_enter Try.func39, Try.ntmps39
    go_wp2_with fail
    go_ret2
    exact ⟨rfl, rfl⟩
  have q1' : ¬ (ri.length : Int) < 1 := by omega
  by_cases q2 : 256 < ri.length
  · have q2' : (256 : Int) < (ri.length : Int) := by omega
    clear h
    go_enter Try.func39, Try.ntmps39
    go_wp2_with fail
    go_ret2
    exact ⟨rfl, rfl⟩
  have q2' : ¬ (256 : Int) < (ri.length : Int) := by omega
  by_cases q3 : lo.length = ri.length
  · rw [q3]
    by_cases q4 : mi.length = ri.length
    · rw [q4]
      by_cases q5 : up.length = ri.length
      · omega
      · have q5' : ((up.length : Int) != (ri.length : Int)) = true := by simp; omega
        have q5'' : ¬ (up.length : Int) = (ri.length : Int) := by omega
        clear h
        go_enter Try.func39, Try.ntmps39
        go_wp2_with fail
        go_ret2
        exact ⟨rfl, rfl⟩
    · have q4' : ((mi.length : Int) != (ri.length : Int)) = true := by simp; omega
      have q4'' : ¬ (mi.length : Int) = (ri.length : Int) := by omega
      clear h
      go_enter Try.func39, Try.ntmps39
      go_wp2_with fail
      go_ret2
      exact ⟨rfl, rfl⟩
  · have q3' : ((lo.length : Int) != (ri.length : Int)) = true := by simp; omega
    have q3'' : ¬ (lo.length : Int) = (ri.length : Int) := by omega
    clear h
    go_enter Try.func39, Try.ntmps39
    go_wp2_with fail
    go_ret2
    exact ⟨rfl, rfl⟩
set_option maxHeartbeats 1000000 in
set_option maxRecDepth 100000 in
theorem sSolveRow_no (u1 u2 u3 u4 : Value) (lo mi up ri : List Nat) (w : World) (h1 : FS .f32 w u1 lo) (h2 : FS .f32 w u2 mi) (h3 : FS .f32 w u3 up) (h4 : FS .f32 w u4 ri) (h : rowOk lo mi up ri = false) :
    Calls Try.prog 38 #[u1, u2, u3, u4] w fun e w' => e = .returned (.tuple #[.slice none 0 0, .bool false]) ∧ w' = w := by
  obtain ⟨a1, c1, rfl, _, _, _, _⟩ := h1
  obtain ⟨a2, c2, rfl, _, _, _, _⟩ := h2
  obtain ⟨a3, c3, rfl, _, _, _, _⟩ := h3
  obtain ⟨a4, c4, rfl, _, _, _, _⟩ := h4
  have h := of_decide_eq_false h
  by_cases q1 : ri.length < 1
  · have q1' : (ri.length : Int) < 1 := by omega
    clear h
    go_enter Try.func38, Try.ntmps38
    go_wp2_with fail
    go_ret2
    exact ⟨rfl, rfl⟩
  have q1' : ¬ (ri.length : Int) < 1 := by omega
  by_cases q2 : 256 < ri.length
  · have q2' : (256 : Int) < (ri.length : Int) := by omega
    clear h
    go_enter Try.func38, Try.ntmps38
    go_wp2_with fail
    go_ret2
    exact ⟨rfl, rfl⟩
  have q2' : ¬ (256 : Int) < (ri.length : Int) := by omega
  by_cases q3 : lo.length = ri.length
  · rw [q3]
    by_cases q4 : mi.length = ri.length
    · rw [q4]
      by_cases q5 : up.length = ri.length
      · omega
      · have q5' : ((up.length : Int) != (ri.length : Int)) = true := by simp; omega
        have q5'' : ¬ (up.length : Int) = (ri.length : Int) := by omega
        clear h
        go_enter Try.func38, Try.ntmps38
        go_wp2_with fail
        go_ret2
        exact ⟨rfl, rfl⟩
    · have q4' : ((mi.length : Int) != (ri.length : Int)) = true := by simp; omega
      have q4'' : ¬ (mi.length : Int) = (ri.length : Int) := by omega
      clear h
      go_enter Try.func38, Try.ntmps38
      go_wp2_with fail
      go_ret2
      exact ⟨rfl, rfl⟩
  · have q3' : ((lo.length : Int) != (ri.length : Int)) = true := by simp; omega
    have q3'' : ¬ (lo.length : Int) = (ri.length : Int) := by omega
    clear h
    go_enter Try.func38, Try.ntmps38
    go_wp2_with fail
    go_ret2
    exact ⟨rfl, rfl⟩
set_option maxHeartbeats 1000000 in
set_option maxRecDepth 100000 in
theorem sSolveRow_yes (u1 u2 u3 u4 : Value) (lo mi up ri : List Nat) (w : World) (h1 : FS .f32 w u1 lo) (h2 : FS .f32 w u2 mi) (h3 : FS .f32 w u3 up) (h4 : FS .f32 w u4 ri) (l1 : lo.length = ri.length) (l2 : mi.length = ri.length) (l3 : up.length = ri.length) (n1 : 1 ≤ ri.length) (n2 : ri.length ≤ 256) :
    Calls Try.prog 38 #[u1, u2, u3, u4] w fun e w' => (∃ v, e = .returned (.tuple #[v, .bool (triFine lo mi up ri ri.length)]) ∧ FRes w.heap.size w' v (rowN lo mi up ri) (triX lo mi up ri ri.length)) ∧ Below w.heap.size w w' := by
  have H1 := Lib.hid h1; have H2 := Lib.hid h2; have H3 := Lib.hid h3; have H4 := Lib.hid h4
  obtain ⟨a1, c1, rfl, _, _, _, _⟩ := h1
  obtain ⟨a2, c2, rfl, _, _, _, _⟩ := h2
  obtain ⟨a3, c3, rfl, _, _, _, _⟩ := h3
  obtain ⟨a4, c4, rfl, _, _, _, _⟩ := h4
  have L1 := Lib.hid l1; have L2 := Lib.hid l2; have L3 := Lib.hid l3
  have N1 := Lib.hid n1; have N2 := Lib.hid n2
  rw [l1] at H1; rw [l2] at H2; rw [l3] at H3
  rw [l1, l2, l3]
  have hq1 : ¬ (ri.length : Int) < 1 := by omega
  have hq2 : ¬ (256 : Int) < (ri.length : Int) := by omega
  clear l1 l2 l3 n1 n2
  go_enter Try.func38, Try.ntmps38
  go_wp2_with fail
  refine (sRow1_any _ _ _ _ lo mi up ri _ H1.out H2.out H3.out H4.out L1.out L2.out L3.out N1.out N2.out).mono ?_; rintro e w' ⟨⟨v, rfl, hv⟩, hb⟩
  go_wp2_with fail
  go_ret2
  exact ⟨⟨v, rfl, hv⟩, hb⟩

theorem rowOk_true {lo mi up ri : List Nat} (h : rowOk lo mi up ri = true) : 1 ≤ ri.length ∧ ri.length ≤ 256 ∧ lo.length = ri.length ∧ mi.length = ri.length ∧ up.length = ri.length := of_decide_eq_true h

theorem iSolveRow_any (u1 : Value) (lo : List Nat) (u2 : Value) (mi : List Nat) (u3 : Value) (up : List Nat) (u4 : Value) (ri : List Nat) (w : World) (h1 : FS .f32 w u1 lo) (_ : lo.length ≤ 1048576) (h2 : FS .f32 w u2 mi) (_ : mi.length ≤ 1048576) (h3 : FS .f32 w u3 up) (_ : up.length ≤ 1048576) (h4 : FS .f32 w u4 ri) (_ : ri.length ≤ 1048576) :
    Calls Try.prog 39 #[u1, u2, u3, u4] w fun e w' => (∃ v, e = .returned (.tuple #[v, .bool (okSolveRow lo mi up ri)]) ∧ FRes w.heap.size w' v (lenSolveRow lo mi up ri) (triX lo mi up ri ri.length)) ∧ Below w.heap.size w w' := by
  cases h : rowOk lo mi up ri with
  | true =>
    obtain ⟨n1, n2, l1, l2, l3⟩ := rowOk_true h
    rw [(okSolveRow_yes h).1, (okSolveRow_yes h).2]
    exact iRow2_yes u1 u2 u3 u4 lo mi up ri w h1 h2 h3 h4 l1 l2 l3 n1 n2
  | false =>
    rw [okSolveRow_no h, lenSolveRow_no h]
    refine (iSolveRow_no u1 u2 u3 u4 lo mi up ri w h1 h2 h3 h4 h).mono ?_
    rintro e w' ⟨rfl, rfl⟩
    exact ⟨⟨_, rfl, fres_none _ _ _⟩, Below.refl _ _⟩

theorem sSolveRow_any (u1 : Value) (lo : List Nat) (u2 : Value) (mi : List Nat) (u3 : Value) (up : List Nat) (u4 : Value) (ri : List Nat) (w : World) (h1 : FS .f32 w u1 lo) (_ : lo.length ≤ 1048576) (h2 : FS .f32 w u2 mi) (_ : mi.length ≤ 1048576) (h3 : FS .f32 w u3 up) (_ : up.length ≤ 1048576) (h4 : FS .f32 w u4 ri) (_ : ri.length ≤ 1048576) :
    Calls Try.prog 38 #[u1, u2, u3, u4] w fun e w' => (∃ v, e = .returned (.tuple #[v, .bool (okSolveRow lo mi up ri)]) ∧ FRes w.heap.size w' v (lenSolveRow lo mi up ri) (triX lo mi up ri ri.length)) ∧ Below w.heap.size w w' := by
  cases h : rowOk lo mi up ri with
  | true =>
    obtain ⟨n1, n2, l1, l2, l3⟩ := rowOk_true h
    rw [(okSolveRow_yes h).1, (okSolveRow_yes h).2]
    exact sSolveRow_yes u1 u2 u3 u4 lo mi up ri w h1 h2 h3 h4 l1 l2 l3 n1 n2
  | false =>
    rw [okSolveRow_no h, lenSolveRow_no h]
    refine (sSolveRow_no u1 u2 u3 u4 lo mi up ri w h1 h2 h3 h4 h).mono ?_
    rintro e w' ⟨rfl, rfl⟩
    exact ⟨⟨_, rfl, fres_none _ _ _⟩, Below.refl _ _⟩

end Go.Proofs.Ytihhlfafglmgnaa
