/-
  The parts of a line from the last one on, as the program goes through them: the iterator's word.
-/
import Derived.RangeFuncNested
import Derived.RangeFuncBound
import Derived.RangeFuncCalls
import Derived.RangeFuncLeaves
import Derived.RangeFuncFrom
import Derived.Shelf.Abstract
import Derived.WalkKit
import Derived.OwnWalkIn
import Derived.TacticsInMore
import Derived.LoopNIn
import Derived.LoopIn
import Derived.Test.YtpnmledanloboaaBkl
namespace Go.Proofs.Ytpnmledanloboaa
open Go.Fl Go.RowKit
open Go.Shelf
set_option linter.unusedSimpArgs false
set_option linter.unusedVariables false
attribute [local go_sem] Oper.semAt_some

/-- The places from the last one on, down to the k-th. -/
def pf (n k : Nat) : List (Fin n) := ((List.finRange n).drop k).reverse
theorem pf_full (n : Nat) : pf n n = [] := by simp [pf]
theorem pf_step {n k : Nat} (h : k < n) : pf n k = pf n (k + 1) ++ [⟨k, h⟩] := by
  unfold pf
  rw [List.drop_eq_getElem_cons (by simpa using h), List.reverse_cons]
  simp
theorem pf_len (n k : Nat) : (pf n k).length = n - k := by simp [pf]
def encP (ts : List El) (x : Fin ts.length) : Array Value := #[.int .i64 ((x.val : Nat) : Int), partV ts[x.val]]

set_option maxRecDepth 100000 in
set_option maxHeartbeats 4000000 in
theorem back_stops (n : Nat) (hn : 1 ≤ n) (p1 : Nat) (ap : Option Addr) (cap n₀ : Nat) (ts : List El) (w : World) (hp1 : p1 < w.heap.size) (hn₀ : n₀ ≤ w.heap.size) (hl : ts.length ≤ 32)
    (h1 : w.cell? ⟨p1, 0, none⟩ = some (.slice ap ts.length cap)) (hP : ∀ j (h : j < ts.length), ∃ g, ap = some ⟨g, 0, none⟩ ∧ g < n₀ ∧ w.cell? ⟨g, j, none⟩ = some (partV ts[j])) :
    SeqStopsK Fence.wide n Try.prog 103 #[.pointer (some ⟨p1, 0, none⟩)] (encP ts) (fun W W' => W'.cell? ⟨p1, 0, none⟩ = W.cell? ⟨p1, 0, none⟩ ∧ Below n₀ W W') (fun xs => xs = pf ts.length 0) (fun _ => True) ts.length w := fun l J Jx W hW _ _ hY h0 => by
  have bW : ∀ W', Below n₀ W W' → Below n₀ w W' := fun W' h => (hW.mono hn₀).trans h
  have a0 := (hW.cell (p := ⟨p1, 0, none⟩) hp1).trans h1
  have HB := Lib.hid bW; have HP := Lib.hid hP
  have hw : wrap64 ((ts.length : Int) - 1) = (ts.length : Int) - 1 := by unfold wrap64; omega
  have H0 := Lib.hid (show J (pf ts.length ts.length) W by rw [pf_full]; exact h0)
  clear h1 hW bW hP
  show CallsIn Fence.wide n Try.prog 103 #[.func (.yield l) #[] #[], .pointer (some ⟨p1, 0, none⟩)] W _
  refine callsIn_of_wp Try.func103 rfl trivial ?_ rfl
  simp only [Try.ntmps103, List.size_toArray, List.length_cons, List.length_nil, Nat.reduceAdd, Nat.reduceSub, Array.replicate_succ, Array.replicate_zero, List.push_toArray, List.append_toArray, List.nil_append, List.cons_append]
  gi_wp2
  gi_loopw [3] (fun i wr => ∃ k : Nat, k ≤ ts.length ∧ i = .int .i64 ((k : Int) - 1) ∧ Hid (J (pf ts.length k) wr) ∧ wr.cell? ⟨p1, 0, none⟩ = some (.slice ap ts.length cap) ∧ Hid (Below n₀ W wr)) (fun i _ => (intOf i + 1).toNat)
  case atStart => exact ⟨ts.length, Nat.le_refl _, rfl, H0, a0, Lib.hid (Below.refl _ _)⟩
  case round =>
    clear a0 H0 hw
    obtain ⟨k, hk, rfl, hJs, hs, hnx⟩ := hrel
    by_cases hlt : 0 < k
    · obtain ⟨j, rfl⟩ : ∃ j, k = j + 1 := ⟨k - 1, by omega⟩
      rw [show (((j + 1 : Nat) : Int) - 1) = (j : Int) by omega] at *
      have hlj : j < ts.length := by omega
      obtain ⟨g, rfl, hb, hpc⟩ := HP.out j hlj
      have c0 := ((HB.out wr hnx.out).cell (p := ⟨g, j, none⟩) hb).trans hpc
      have HST := Lib.hid (pf_step hlj)
      obtain ⟨fn, tmps, assign, body, hy, hR⟩ := hY _ ⟨j, hlj⟩ wr hJs.out (by rw [pf_len]; omega)
      have hy' : (Instr.yield l #[.int .i64 (j : Int), partV ts[j]]).run Try.prog wr = .ok (.round l fn tmps assign body) wr := hy
      clear hy
      have hlt2 : (j : Int) < (ts.length : Int) := by omega
      gi_wp2
      refine hR.mono ?_
      rintro e W3 (⟨rfl, hJ3, hk3⟩ | ⟨rfl, hJx3⟩)
      · have hs3 := hk3.1.trans hs
        have HN := Lib.hid (hnx.out.trans hk3.2)
        have HJ3 := Lib.hid (show J (pf ts.length j) W3 by rw [HST.out]; exact hJ3)
        clear hJ3 hk3
        gi_wp2
        go_roundw
        case rel => exact ⟨j, by omega, by go_num, HJ3, hs3, HN⟩
        case measure => simp [intOf]
      · gi_wp2
        refine bodyPost_ret (results_none rfl _ _ _) rfl ?_
        exact ⟨⟨_, rfl⟩, .inr ⟨_, trivial, hJx3⟩⟩
    · obtain rfl : k = 0 := by omega
      clear hlt
      gi_wp2
      go_end0
      exact ⟨⟨_, rfl⟩, .inl ⟨_, rfl, hJs.out⟩⟩
end Go.Proofs.Ytpnmledanloboaa
