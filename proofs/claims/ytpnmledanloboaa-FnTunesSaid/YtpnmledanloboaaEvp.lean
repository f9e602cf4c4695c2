/-
  Parts of lines, of the program: values behind an interface.
-/
import Derived.Test.YtpnmledanloboaaEv
namespace Go.Proofs.Ytpnmledanloboaa
open Go.Fl Go.RowKit
set_option linter.unusedSimpArgs false
set_option linter.unusedVariables false

/-- The part that an element is. -/
def partV (t : El) : Value :=
  if t.k = 0 then .iface 95 (.float .f32 t.n) else if t.k = 1 then .iface 96 (.float .f32 t.n) else if t.k = 2 then .iface 151 (.float .f32 t.n)
  else if t.k = 3 then .iface 97 (.float .f32 t.n) else .iface 99 (.agg #[.float .f32 t.n, .float .f32 t.p])
abbrev EO (t : El) : Obj := .cells #[.int .i64 t.k, .float .f32 t.n, .float .f32 t.p] 67
abbrev FO2 (x y : Nat) : Obj := .cells #[.float .f32 x, .float .f32 y] 23
def PartRes (w w' : World) (e : Ending) (t : El) (q : Bool) : Prop := (∃ V, e = .returned (.tuple #[V, .bool q]) ∧ (q = true → V = partV t)) ∧ Below w.heap.size w w'

set_option maxHeartbeats 2000000 in
set_option maxRecDepth 100000 in
theorem iPart_any (t : El) (ht : t.ok) (w : World) : Calls Try.prog 102 #[t.val] w fun e w' => PartRes w w' e t (okEl t) := by
  have iN := ht.iN; have iP := ht.iP
  have HB2 := Lib.hid (((Below.refl w.heap.size w).alloc (Nat.le_refl _) (EO t)).alloc (by simp) (FO2 t.n t.p))
  have HN2 := Lib.hid (show ((w.alloc (EO t)).alloc (FO2 t.n t.p)).heap[w.heap.size + 1]? = some (FO2 t.n t.p) from by
    have := heap_alloc_new (w.alloc (EO t)) (FO2 t.n t.p)
    rwa [World.size_alloc] at this)
  have HO2 := Lib.hid (show ((w.alloc (EO t)).alloc (FO2 t.n t.p)).heap[w.heap.size]? = some (EO t) from by
    rw [heap_alloc_old _ _ (by simp), heap_alloc_new])
  have HS2 := Lib.hid (show ((w.alloc (EO t)).alloc (FO2 t.n t.p)).heap.size = w.heap.size + 2 by simp)
  obtain ⟨q, hq⟩ : ∃ q, okEl t = q := ⟨_, rfl⟩
  rw [hq]
  have HQ := Lib.hid hq
  clear hq
  have HT := Lib.hid ht
  obtain ⟨k, n, p⟩ := t
  unfold El.val
  go_enter Try.func102, Try.ntmps102
  go_wp2_with fail
  generalize (w.alloc (EO ⟨k, n, p⟩)).alloc (FO2 n p) = w2 at HB2 HN2 HO2 HS2 ⊢
  have c0 : w2.cell? ⟨w.heap.size, 0, none⟩ = some (.int .i64 k) := by rw [Joins.cell_of_block HO2.out]; rfl
  have c1 : w2.cell? ⟨w.heap.size, 1, none⟩ = some (.float .f32 n) := by rw [Joins.cell_of_block HO2.out]; rfl
  have c2 : w2.cell? ⟨w.heap.size, 2, none⟩ = some (.float .f32 p) := by rw [Joins.cell_of_block HO2.out]; rfl
  cases h1 : (fin .f32 (El.N ⟨k, n, p⟩) && fin .f32 (El.P ⟨k, n, p⟩)) with
  | false =>
    refine (areFin9 n _ p _ (w.heap.size + 1) w2 (by rw [HS2.out]; omega) (by rw [Joins.cell_of_block HN2.out]; rfl) (by rw [Joins.cell_of_block HN2.out]; rfl) iN iP).mono ?_
    rw [h1]; rintro e w' ⟨rfl, m, rfl⟩
    have HF := Lib.hid (show q = false from HQ.out.symm.trans (by rcases Bool.and_eq_false_iff.1 h1 with h | h; exact okEl_false (.inl h); exact okEl_false (.inr (.inl h))))
    go_wp2_with fail
    go_ret2
    rw [HF.out]
    unfold PartRes; exact ⟨⟨_, rfl, fun h => by cases h⟩, below_drewN HB2.out _⟩
  | true =>
    refine (areFin9 n _ p _ (w.heap.size + 1) w2 (by rw [HS2.out]; omega) (by rw [Joins.cell_of_block HN2.out]; rfl) (by rw [Joins.cell_of_block HN2.out]; rfl) iN iP).mono ?_
    rw [h1]; rintro e w' ⟨rfl, m, rfl⟩
    by_cases hk : 0 ≤ k ∧ k ≤ 4
    · have HQ2 := Lib.hid (show q = numOk k (El.N ⟨k, n, p⟩) from HQ.out.symm.trans (by unfold okEl; rw [h1]; simp [hk]))
      have hc : k = 0 ∨ k = 1 ∨ k = 2 ∨ k = 3 ∨ k = 4 := by omega
      rcases hc with rfl | rfl | rfl | rfl | rfl
      · obtain rfl : q = true := HQ2.out
        go_wp2_with fail
        go_ret2
        unfold PartRes
        exact ⟨⟨_, rfl, fun _ => rfl⟩, below_drewN HB2.out _⟩
      · have HQ3 := HQ2.out
        unfold numOk at HQ3
        simp only [reduceIte] at HQ3
        subst HQ3
        go_wp2_with (first | ((with_reducible apply Loose.wp_start); kernel_rfl; kernel_rfl) | ((with_reducible apply Loose.start_cons)) | ((with_reducible apply Loose.start_nil)) | ((with_reducible apply Loose.walk_nil); intro n) | ((with_reducible apply Loose.walk_skip); exact rfl; (go_simp; first | done | exact rfl)) | ((with_reducible apply Loose.step_fc); rfl; rfl; rfl; rfl; (first | with_reducible assumption | exact Is.const rfl); (first | with_reducible assumption | exact Is.const rfl); (first | with_reducible assumption | exact rfl); exact rfl; (go_simp; first | done | exact rfl)) | ((with_reducible apply Loose.step_fa); rfl; rfl; rfl; rfl; (first | with_reducible assumption | exact Is.const rfl); (first | with_reducible assumption | exact Is.const rfl); exact rfl; (intro r; go_simp; first | done | exact rfl); intro r hr) | ((with_reducible apply Loose.step_wid); rfl; rfl; (first | with_reducible assumption | exact Is.const rfl); exact U32; exact U64; exact rfl; (intro r; go_simp; first | done | exact rfl); intro r hr) | ((with_reducible apply Loose.step_nar); rfl; rfl; (first | with_reducible assumption | exact Is.const rfl); exact U64; exact U32; (with_reducible assumption); exact rfl; (intro r; go_simp; first | done | exact rfl); intro r hr) | ((with_reducible apply Loose.step_assign); rfl; rfl; (with_reducible assumption); exact rfl; (intro r; go_simp; first | done | exact rfl); intro r hr) | ((with_reducible apply Loose.step_move); rfl; rfl; (with_reducible assumption); exact rfl; (intro r; go_simp; first | done | exact rfl); intro r hr) | ((with_reducible apply Loose.step_same); rfl; rfl; exact U32; exact U32; (first | with_reducible assumption | exact Is.const rfl); exact rfl; (intro r; go_simp; first | done | exact rfl); intro r hr) | ((with_reducible apply Loose.step_same); rfl; rfl; exact U64; exact U64; (first | with_reducible assumption | exact Is.const rfl); exact rfl; (intro r; go_simp; first | done | exact rfl); intro r hr) | ((with_reducible apply Loose.step_eq); rfl; (intro n; go_simp; first | done | exact rfl); exact rfl; (go_simp; first | done | exact rfl)))
        go_ret2
        unfold PartRes
        exact ⟨⟨_, rfl, fun _ => rfl⟩, below_drewN (below_drewN HB2.out _) _⟩
      · have HQ3 := HQ2.out
        unfold numOk at HQ3
        simp only [reduceIte, (by decide : ¬ ((2 : Int) = 1))] at HQ3
        subst HQ3
        go_wp2_with (first | ((with_reducible apply Loose.wp_start); kernel_rfl; kernel_rfl) | ((with_reducible apply Loose.start_cons)) | ((with_reducible apply Loose.start_nil)) | ((with_reducible apply Loose.walk_nil); intro n) | ((with_reducible apply Loose.walk_skip); exact rfl; (go_simp; first | done | exact rfl)) | ((with_reducible apply Loose.step_fc); rfl; rfl; rfl; rfl; (first | with_reducible assumption | exact Is.const rfl); (first | with_reducible assumption | exact Is.const rfl); (first | with_reducible assumption | exact rfl); exact rfl; (go_simp; first | done | exact rfl)) | ((with_reducible apply Loose.step_fa); rfl; rfl; rfl; rfl; (first | with_reducible assumption | exact Is.const rfl); (first | with_reducible assumption | exact Is.const rfl); exact rfl; (intro r; go_simp; first | done | exact rfl); intro r hr) | ((with_reducible apply Loose.step_wid); rfl; rfl; (first | with_reducible assumption | exact Is.const rfl); exact U32; exact U64; exact rfl; (intro r; go_simp; first | done | exact rfl); intro r hr) | ((with_reducible apply Loose.step_nar); rfl; rfl; (first | with_reducible assumption | exact Is.const rfl); exact U64; exact U32; (with_reducible assumption); exact rfl; (intro r; go_simp; first | done | exact rfl); intro r hr) | ((with_reducible apply Loose.step_assign); rfl; rfl; (with_reducible assumption); exact rfl; (intro r; go_simp; first | done | exact rfl); intro r hr) | ((with_reducible apply Loose.step_move); rfl; rfl; (with_reducible assumption); exact rfl; (intro r; go_simp; first | done | exact rfl); intro r hr) | ((with_reducible apply Loose.step_same); rfl; rfl; exact U32; exact U32; (first | with_reducible assumption | exact Is.const rfl); exact rfl; (intro r; go_simp; first | done | exact rfl); intro r hr) | ((with_reducible apply Loose.step_same); rfl; rfl; exact U64; exact U64; (first | with_reducible assumption | exact Is.const rfl); exact rfl; (intro r; go_simp; first | done | exact rfl); intro r hr) | ((with_reducible apply Loose.step_eq); rfl; (intro n; go_simp; first | done | exact rfl); exact rfl; (go_simp; first | done | exact rfl)))
        go_ret2
        unfold PartRes
        exact ⟨⟨_, rfl, fun _ => rfl⟩, below_drewN (below_drewN HB2.out _) _⟩
      · obtain rfl : q = true := HQ2.out
        go_wp2_with fail
        go_ret2
        unfold PartRes
        exact ⟨⟨_, rfl, fun _ => rfl⟩, below_drewN HB2.out _⟩
      · obtain rfl : q = true := HQ2.out
        go_wp2_with fail
        go_ret2
        unfold PartRes
        exact ⟨⟨_, rfl, fun _ => rfl⟩, below_drewN HB2.out _⟩
    · have HF := Lib.hid (show q = false from HQ.out.symm.trans (okEl_false (.inr (.inr (.inl (by simpa using hk))))))
      have e0 : ¬ k = 0 := by omega
      have e1 : ¬ k = 1 := by omega
      have e2 : ¬ k = 2 := by omega
      have e3 : ¬ k = 3 := by omega
      have e4 : ¬ k = 4 := by omega
      clear hk
      go_wp2_with fail
      go_ret2
      rw [HF.out]
      unfold PartRes; exact ⟨⟨_, rfl, fun h => by cases h⟩, below_drewN HB2.out _⟩
end Go.Proofs.Ytpnmledanloboaa
