/-
  The same particles, of any finite numbers.
-/
import Derived.Test.YtahgnjmdlhidpaaPtS
import Derived.Test.YtahgnjmdlhidpaaPq
namespace Go.Proofs.Ytahgnjmdlhidpaa
open Go.Fl Go.RowKit
set_option linter.unusedSimpArgs false
set_option linter.unusedVariables false

abbrev BitsW (t : Pq) : Value := .agg #[.int .i64 (bits32 t.a : Nat), .int .i64 (bits32 t.b : Nat), .int .i64 (bits32 t.x : Nat), .int .i64 (bits32 t.y : Nat), .int .i64 (bits32 t.c : Nat), .int .i64 (bits32 t.s : Nat)]
abbrev BitsD (t : Pq) : Array Value := #[.int .i64 (bits32 t.a : Nat), .int .i64 (bits32 t.b : Nat), .int .i64 (bits32 t.x : Nat), .int .i64 (bits32 t.y : Nat), .int .i64 (bits32 t.c : Nat), .int .i64 (bits32 t.s : Nat)]

set_option maxHeartbeats 2000000 in
set_option maxRecDepth 100000 in
theorem iBits_pq (t : Pq) (h : t.ok) (w : World) : Calls Try.prog 73 #[t.r4.val] w fun e w' => e = .returned (BitsW t) ∧ Below w.heap.size w w' := by
  have HT := Lib.hid h
  have j1 := h.na.is; have j2 := h.nb.is; have j3 := h.nx.is; have j4 := h.ny.is; have j5 := h.nc.is; have j6 := h.ns.is
  have b1 := bits32_lt j1.lt; have b2 := bits32_lt j2.lt; have b3 := bits32_lt j3.lt; have b4 := bits32_lt j4.lt; have b5 := bits32_lt j5.lt; have b6 := bits32_lt j6.lt
  clear h
  have HB2 := Lib.hid (((Below.refl w.heap.size w).alloc (Nat.le_refl _) (.cells #[.complex .f32 t.a t.b, .complex .f32 t.x t.y, .float .f32 t.c, .float .f32 t.s] 43)).alloc (by simp) Z6)
  have HZ2 := Lib.hid (show ((w.alloc (.cells #[.complex .f32 t.a t.b, .complex .f32 t.x t.y, .float .f32 t.c, .float .f32 t.s] 43)).alloc Z6).heap[w.heap.size + 1]? = some Z6 from heap_alloc2_new w _ _)
  have HP2 := Lib.hid (show ((w.alloc (.cells #[.complex .f32 t.a t.b, .complex .f32 t.x t.y, .float .f32 t.c, .float .f32 t.s] 43)).alloc Z6).heap[w.heap.size]? = some (.cells #[.complex .f32 t.a t.b, .complex .f32 t.x t.y, .float .f32 t.c, .float .f32 t.s] 43) from heap_alloc2_old w _ _)
  unfold R4.val Pq.r4
  go_enter Try.func73, Try.ntmps73
  go_wp2_with fail
  generalize (w.alloc (.cells #[.complex .f32 t.a t.b, .complex .f32 t.x t.y, .float .f32 t.c, .float .f32 t.s] 43)).alloc Z6 = w2 at HB2 HZ2 HP2 ⊢
  have c0 : w2.cell? ⟨w.heap.size, 0, none⟩ = some (.complex .f32 t.a t.b) := by rw [Joins.cell_of_block HP2.out]; rfl
  have c1 : w2.cell? ⟨w.heap.size, 1, none⟩ = some (.complex .f32 t.x t.y) := by rw [Joins.cell_of_block HP2.out]; rfl
  have c2 : w2.cell? ⟨w.heap.size, 2, none⟩ = some (.float .f32 t.c) := by rw [Joins.cell_of_block HP2.out]; rfl
  have c3 : w2.cell? ⟨w.heap.size, 3, none⟩ = some (.float .f32 t.s) := by rw [Joins.cell_of_block HP2.out]; rfl
  refine wp_region_noPanic ?_
  refine wp_region_held_drew (S := fun w' => w'.cell? ⟨w.heap.size, 0, none⟩ = some (.complex .f32 t.a t.b) ∧ w'.cell? ⟨w.heap.size, 1, none⟩ = some (.complex .f32 t.x t.y) ∧ w'.cell? ⟨w.heap.size, 2, none⟩ = some (.float .f32 t.c) ∧ w'.cell? ⟨w.heap.size, 3, none⟩ = some (.float .f32 t.s)) (by kernel_rfl) ⟨c0, c1, c2, c3⟩ (fun hHeld => ?_)
  ((refine wpAnyH_take (i := 0) (v := ?_) rfl (by kernel_rfl) (by kernel_rfl) (by kernel_rfl) (fun _ _ _ h => h) (Or.inl ⟨by rfl, ?_⟩) (by assumption) ?_; rotate_left; (· intro w hSw; (try dsimp only at hSw); go_simp; first | done | with_reducible rfl); (try simp only [List.getElem_toArray, List.getElem_cons_zero, Act.put, List.setIfInBounds_toArray, List.set_cons_zero, List.set_cons_succ])))
  ((refine wpAnyH_take (i := 1) (v := ?_) rfl (by kernel_rfl) (by kernel_rfl) (by kernel_rfl) (fun _ _ _ h => h) (Or.inl ⟨by rfl, ?_⟩) (by assumption) ?_; rotate_left; (· intro w hSw; (try dsimp only at hSw); go_simp; first | done | with_reducible rfl); (try simp only [List.getElem_toArray, List.getElem_cons_zero, List.getElem_cons_succ, Act.put, List.setIfInBounds_toArray, List.set_cons_zero, List.set_cons_succ])); (refine wpAnyH_take (i := 2) (v := ?_) rfl (by kernel_rfl) (by kernel_rfl) (by kernel_rfl) (fun _ _ _ h => h) (Or.inl ⟨by rfl, ?_⟩) (by assumption) ?_; rotate_left; (· intro w hSw; (try dsimp only at hSw); go_simp; first | done | with_reducible rfl); (try simp only [List.getElem_toArray, List.getElem_cons_zero, List.getElem_cons_succ, Act.put, List.setIfInBounds_toArray, List.set_cons_zero, List.set_cons_succ])); (refine wpAnyH_take (i := 4) (v := ?_) rfl (by kernel_rfl) (by kernel_rfl) (by kernel_rfl) (fun _ _ _ h => h) (Or.inl ⟨by rfl, ?_⟩) (by assumption) ?_; rotate_left; (· intro w hSw; (try dsimp only at hSw); go_simp; first | done | with_reducible rfl); (try simp only [List.getElem_toArray, List.getElem_cons_zero, List.getElem_cons_succ, Act.put, List.setIfInBounds_toArray, List.set_cons_zero, List.set_cons_succ])); (refine wpAnyH_take (i := 5) (v := ?_) rfl (by kernel_rfl) (by kernel_rfl) (by kernel_rfl) (fun _ _ _ h => h) (Or.inl ⟨by rfl, ?_⟩) (by assumption) ?_; rotate_left; (· intro w hSw; (try dsimp only at hSw); go_simp; first | done | with_reducible rfl); (try simp only [List.getElem_toArray, List.getElem_cons_zero, List.getElem_cons_succ, Act.put, List.setIfInBounds_toArray, List.set_cons_zero, List.set_cons_succ])); (refine wpAnyH_take (i := 6) (v := ?_) rfl (by kernel_rfl) (by kernel_rfl) (by kernel_rfl) (fun _ _ _ h => h) (Or.inl ⟨by rfl, ?_⟩) (by assumption) ?_; rotate_left; (· intro w hSw; (try dsimp only at hSw); go_simp; first | done | with_reducible rfl); (try simp only [List.getElem_toArray, List.getElem_cons_zero, List.getElem_cons_succ, Act.put, List.setIfInBounds_toArray, List.set_cons_zero, List.set_cons_succ])); (refine wpAnyH_take (i := 8) (v := ?_) rfl (by kernel_rfl) (by kernel_rfl) (by kernel_rfl) (fun _ _ _ h => h) (Or.inl ⟨by rfl, ?_⟩) (by assumption) ?_; rotate_left; (· intro w hSw; (try dsimp only at hSw); go_simp; first | done | with_reducible rfl); (try simp only [List.getElem_toArray, List.getElem_cons_zero, List.getElem_cons_succ, Act.put, List.setIfInBounds_toArray, List.set_cons_zero, List.set_cons_succ])); (refine wpAnyH_take (i := 9) (v := ?_) rfl (by kernel_rfl) (by kernel_rfl) (by kernel_rfl) (fun _ _ _ h => h) (Or.inl ⟨by rfl, ?_⟩) (by assumption) ?_; rotate_left; (· intro w hSw; (try dsimp only at hSw); go_simp; first | done | with_reducible rfl); (try simp only [List.getElem_toArray, List.getElem_cons_zero, List.getElem_cons_succ, Act.put, List.setIfInBounds_toArray, List.set_cons_zero, List.set_cons_succ])); (refine wpAnyH_take (i := 10) (v := ?_) rfl (by kernel_rfl) (by kernel_rfl) (by kernel_rfl) (fun _ _ _ h => h) (Or.inl ⟨by rfl, ?_⟩) (by assumption) ?_; rotate_left; (· intro w hSw; (try dsimp only at hSw); go_simp; first | done | with_reducible rfl); (try simp only [List.getElem_toArray, List.getElem_cons_zero, List.getElem_cons_succ, Act.put, List.setIfInBounds_toArray, List.set_cons_zero, List.set_cons_succ])); (refine wpAnyH_take (i := 12) (v := ?_) rfl (by kernel_rfl) (by kernel_rfl) (by kernel_rfl) (fun _ _ _ h => h) (Or.inl ⟨by rfl, ?_⟩) (by assumption) ?_; rotate_left; (· intro w hSw; (try dsimp only at hSw); go_simp; first | done | with_reducible rfl); (try simp only [List.getElem_toArray, List.getElem_cons_zero, List.getElem_cons_succ, Act.put, List.setIfInBounds_toArray, List.set_cons_zero, List.set_cons_succ])); (refine wpAnyH_take (i := 13) (v := ?_) rfl (by kernel_rfl) (by kernel_rfl) (by kernel_rfl) (fun _ _ _ h => h) (Or.inl ⟨by rfl, ?_⟩) (by assumption) ?_; rotate_left; (· intro w hSw; (try dsimp only at hSw); go_simp; first | done | with_reducible rfl); (try simp only [List.getElem_toArray, List.getElem_cons_zero, List.getElem_cons_succ, Act.put, List.setIfInBounds_toArray, List.set_cons_zero, List.set_cons_succ])); (refine wpAnyH_take (i := 14) (v := ?_) rfl (by kernel_rfl) (by kernel_rfl) (by kernel_rfl) (fun _ _ _ h => h) (Or.inl ⟨by rfl, ?_⟩) (by assumption) ?_; rotate_left; (· intro w hSw; (try dsimp only at hSw); go_simp; first | done | with_reducible rfl); (try simp only [List.getElem_toArray, List.getElem_cons_zero, List.getElem_cons_succ, Act.put, List.setIfInBounds_toArray, List.set_cons_zero, List.set_cons_succ])); (refine wpAnyH_take (i := 16) (v := ?_) rfl (by kernel_rfl) (by kernel_rfl) (by kernel_rfl) (fun _ _ _ h => h) (Or.inl ⟨by rfl, ?_⟩) (by assumption) ?_; rotate_left; (· intro w hSw; (try dsimp only at hSw); go_simp; first | done | with_reducible rfl); (try simp only [List.getElem_toArray, List.getElem_cons_zero, List.getElem_cons_succ, Act.put, List.setIfInBounds_toArray, List.set_cons_zero, List.set_cons_succ])); (refine wpAnyH_take (i := 17) (v := ?_) rfl (by kernel_rfl) (by kernel_rfl) (by kernel_rfl) (fun _ _ _ h => h) (Or.inl ⟨by rfl, ?_⟩) (by assumption) ?_; rotate_left; (· intro w hSw; (try dsimp only at hSw); go_simp; first | done | with_reducible rfl); (try simp only [List.getElem_toArray, List.getElem_cons_zero, List.getElem_cons_succ, Act.put, List.setIfInBounds_toArray, List.set_cons_zero, List.set_cons_succ])); (refine wpAnyH_take (i := 19) (v := ?_) rfl (by kernel_rfl) (by kernel_rfl) (by kernel_rfl) (fun _ _ _ h => h) (Or.inl ⟨by rfl, ?_⟩) (by assumption) ?_; rotate_left; (· intro w hSw; (try dsimp only at hSw); go_simp; first | done | with_reducible rfl); (try simp only [List.getElem_toArray, List.getElem_cons_zero, List.getElem_cons_succ, Act.put, List.setIfInBounds_toArray, List.set_cons_zero, List.set_cons_succ])); (refine wpAnyH_take (i := 20) (v := ?_) rfl (by kernel_rfl) (by kernel_rfl) (by kernel_rfl) (fun _ _ _ h => h) (Or.inl ⟨by rfl, ?_⟩) (by assumption) ?_; rotate_left; (· intro w hSw; (try dsimp only at hSw); go_simp; first | done | with_reducible rfl); (try simp only [List.getElem_toArray, List.getElem_cons_zero, List.getElem_cons_succ, Act.put, List.setIfInBounds_toArray, List.set_cons_zero, List.set_cons_succ])))
  (refine wpAnyH_ready (rs := [3]) (by kernel_rfl) (by simp) ?_; refine AllReadyH.cons (i := 3) rfl (fun K hK => ?_) AllReadyH.nil)
  go_simp
  refine (iBitsOf_any _ _ j1 _).mono ?_; rintro e w5 ⟨rfl, rfl⟩
  go_wp2_with fail
  (refine hK.out _ _ (⟨c0, c1, c2, c3⟩) (fun hHeld => ?_); clear hK K; (try simp only [List.getElem_toArray, List.getElem_cons_zero, List.getElem_cons_succ, Act.put, List.setIfInBounds_toArray, List.set_cons_zero, List.set_cons_succ]))
  (refine wpAnyH_ready (rs := [7]) (by kernel_rfl) (by simp) ?_; refine AllReadyH.cons (i := 7) rfl (fun K hK => ?_) AllReadyH.nil)
  go_simp
  refine (iBitsOf_any _ _ j2 _).mono ?_; rintro e w5 ⟨rfl, rfl⟩
  go_wp2_with fail
  (refine hK.out _ _ (⟨c0, c1, c2, c3⟩) (fun hHeld => ?_); clear hK K; (try simp only [List.getElem_toArray, List.getElem_cons_zero, List.getElem_cons_succ, Act.put, List.setIfInBounds_toArray, List.set_cons_zero, List.set_cons_succ]))
  (refine wpAnyH_ready (rs := [11]) (by kernel_rfl) (by simp) ?_; refine AllReadyH.cons (i := 11) rfl (fun K hK => ?_) AllReadyH.nil)
  go_simp
  refine (iBitsOf_any _ _ j3 _).mono ?_; rintro e w5 ⟨rfl, rfl⟩
  go_wp2_with fail
  (refine hK.out _ _ (⟨c0, c1, c2, c3⟩) (fun hHeld => ?_); clear hK K; (try simp only [List.getElem_toArray, List.getElem_cons_zero, List.getElem_cons_succ, Act.put, List.setIfInBounds_toArray, List.set_cons_zero, List.set_cons_succ]))
  (refine wpAnyH_ready (rs := [15]) (by kernel_rfl) (by simp) ?_; refine AllReadyH.cons (i := 15) rfl (fun K hK => ?_) AllReadyH.nil)
  go_simp
  refine (iBitsOf_any _ _ j4 _).mono ?_; rintro e w5 ⟨rfl, rfl⟩
  go_wp2_with fail
  (refine hK.out _ _ (⟨c0, c1, c2, c3⟩) (fun hHeld => ?_); clear hK K; (try simp only [List.getElem_toArray, List.getElem_cons_zero, List.getElem_cons_succ, Act.put, List.setIfInBounds_toArray, List.set_cons_zero, List.set_cons_succ]))
  (refine wpAnyH_ready (rs := [18]) (by kernel_rfl) (by simp) ?_; refine AllReadyH.cons (i := 18) rfl (fun K hK => ?_) AllReadyH.nil)
  go_simp
  refine (iBitsOf_any _ _ j5 _).mono ?_; rintro e w5 ⟨rfl, rfl⟩
  go_wp2_with fail
  (refine hK.out _ _ (⟨c0, c1, c2, c3⟩) (fun hHeld => ?_); clear hK K; (try simp only [List.getElem_toArray, List.getElem_cons_zero, List.getElem_cons_succ, Act.put, List.setIfInBounds_toArray, List.set_cons_zero, List.set_cons_succ]))
  (refine wpAnyH_ready (rs := [21]) (by kernel_rfl) (by simp) ?_; refine AllReadyH.cons (i := 21) rfl (fun K hK => ?_) AllReadyH.nil)
  go_simp
  refine (iBitsOf_any _ _ j6 _).mono ?_; rintro e w5 ⟨rfl, rfl⟩
  go_wp2_with fail
  (refine hK.out _ _ (⟨c0, c1, c2, c3⟩) (fun hHeld => ?_); clear hK K; (try simp only [List.getElem_toArray, List.getElem_cons_zero, List.getElem_cons_succ, Act.put, List.setIfInBounds_toArray, List.set_cons_zero, List.set_cons_succ]))
  ((refine wpAnyH_take (i := 22) (v := ?_) rfl (by kernel_rfl) (by kernel_rfl) (by kernel_rfl) (fun _ _ _ h => h) (Or.inl ⟨by rfl, ?_⟩) (by assumption) ?_; rotate_left; (· intro w hSw; (try dsimp only at hSw); go_simp; first | done | with_reducible rfl); (try simp only [List.getElem_toArray, List.getElem_cons_zero, List.getElem_cons_succ, Act.put, List.setIfInBounds_toArray, List.set_cons_zero, List.set_cons_succ])))
  (refine wpAnyH_ready (rs := [23]) (by kernel_rfl) (by simp) ?_; refine AllReadyH.cons (i := 23) rfl (fun K hK => ?_) AllReadyH.nil)
  refine hstep_store rfl 110 _ _ rfl (w.heap.size + 1) (BitsD t) rfl rfl 110 _ (show w2.drew.heap[w.heap.size + 1]? = some Z6 from HZ2.out) info_six rfl (one6 _ _ _ _ _ _) ?_
  (refine hK.out _ _ (⟨row_far (by omega) c0, row_far (by omega) c1, row_far (by omega) c2, row_far (by omega) c3⟩) (fun hHeld => ?_); clear hK K; (try simp only [List.getElem_toArray, List.getElem_cons_zero, List.getElem_cons_succ, Act.put, List.setIfInBounds_toArray, List.set_cons_zero, List.set_cons_succ]))
  (refine wpAnyH_done (by kernel_rfl) ?_ _; refine NoPanic.normal ?_)
  clear hHeld
  go_wp2_with fail
  refine bodyPost_ret (v := BitsW t) ?_ rfl ?_
  · rw [results_cell_row rfl _ _ (w.heap.size + 1) 110 (BitsD t) (0, 0) _ rfl (setRow_heap _ _ _ _ _ _ (show w2.drew.heap[w.heap.size + 1]? = some Z6 from HZ2.out)) Try.underlying110 rfl info_six]
  · exact ⟨rfl, below_setRow HB2.out.drew (by omega) _⟩
end Go.Proofs.Ytahgnjmdlhidpaa
