/-
  The same rays.
-/
import Derived.Test.YtpnmledanloboaaPas
import Derived.Test.YtpnmledanloboaaFC
import Derived.Test.YtpnmledanloboaaFn
namespace Go.Proofs.Ytpnmledanloboaa
open Go.Fl Go.RowKit
set_option linter.unusedSimpArgs false
set_option linter.unusedVariables false

abbrev Z4i : Obj := .cells #[.int .i64 0, .int .i64 0, .int .i64 0, .int .i64 0] 116
theorem info_four : (Try.prog.info? 116).map (·.size) = some 4 := by kernel_rfl
theorem one4i (a b c d : Int) : (#[Value.int .i64 a, .int .i64 b, .int .i64 c, .int .i64 d] : Array Value).all (·.oneCell') = true := by first | rfl | (simp [Value.oneCell']; done)
theorem row_far9 {W : World} {k g o : Nat} {ds : Array Value} {u : Value} (h : g ≠ k) (e : W.cell? ⟨g, o, none⟩ = some u) : (W.setRow k ds).cell? ⟨g, o, none⟩ = some u := by
  have := setRow_other W k g ds h
  unfold World.cell? at e ⊢
  rw [this]; exact e
theorem alloc2_new (w : World) (o1 o2 : Obj) : ((w.alloc o1).alloc o2).heap[w.heap.size + 1]? = some o2 := by
  have := heap_alloc_new (w.alloc o1) o2
  rwa [World.size_alloc] at this
theorem alloc2_old (w : World) (o1 o2 : Obj) : ((w.alloc o1).alloc o2).heap[w.heap.size]? = some o1 := by
  rw [heap_alloc_old _ _ (by simp), heap_alloc_new]
abbrev BitsY (M : Ry) : Array Value := #[.int .i64 (bits32 M.x : Nat), .int .i64 (bits32 M.y : Nat), .int .i64 (bits32 M.p : Nat), .int .i64 (bits32 M.e : Nat)]
set_option maxHeartbeats 2000000 in
set_option maxRecDepth 100000 in
theorem iBitsRay_any (t M : Ry) (h : Ry.is t M) (w : World) : Calls Try.prog 92 #[t.val] w fun e w' => e = .returned (.agg (BitsY M)) ∧ Below w.heap.size w w' := by
  obtain ⟨j1, j2, j3, j4⟩ := h
  have HB2 := Lib.hid (((Below.refl w.heap.size w).alloc (Nat.le_refl _) (RO t)).alloc (by simp) Z4i)
  have HZ2 := Lib.hid (alloc2_new w (RO t) Z4i)
  have HP2 := Lib.hid (alloc2_old w (RO t) Z4i)
  unfold Ry.val
  go_enter Try.func92, Try.ntmps92
  go_wp2_with fail
  generalize (w.alloc (RO t)).alloc Z4i = w2 at HB2 HZ2 HP2 ⊢
  have c0 : w2.cell? ⟨w.heap.size, 0, none⟩ = some (.complex .f32 t.x t.y) := by rw [Joins.cell_of_block HP2.out]; rfl
  have c1 : w2.cell? ⟨w.heap.size, 1, none⟩ = some (.float .f32 t.p) := by rw [Joins.cell_of_block HP2.out]; rfl
  have c2 : w2.cell? ⟨w.heap.size, 2, none⟩ = some (.float .f32 t.e) := by rw [Joins.cell_of_block HP2.out]; rfl
  refine wp_region_noPanic ?_
  refine wp_region_held_drew (S := fun w' => w'.cell? ⟨w.heap.size, 0, none⟩ = some (.complex .f32 t.x t.y) ∧ w'.cell? ⟨w.heap.size, 1, none⟩ = some (.float .f32 t.p) ∧ w'.cell? ⟨w.heap.size, 2, none⟩ = some (.float .f32 t.e)) (by kernel_rfl) ⟨c0, c1, c2⟩ (fun hHeld => ?_)
  ((refine wpAnyH_take (i := 0) (v := ?_) rfl (by kernel_rfl) (by kernel_rfl) (by kernel_rfl) (fun _ _ _ h => h) (Or.inl ⟨by rfl, ?_⟩) (by assumption) ?_; rotate_left; (· intro w hSw; (try dsimp only at hSw); go_simp; first | done | with_reducible rfl); (try simp only [List.getElem_toArray, List.getElem_cons_zero, Act.put, List.setIfInBounds_toArray, List.set_cons_zero, List.set_cons_succ])))
  ((refine wpAnyH_take (i := 1) (v := ?_) rfl (by kernel_rfl) (by kernel_rfl) (by kernel_rfl) (fun _ _ _ h => h) (Or.inl ⟨by rfl, ?_⟩) (by assumption) ?_; rotate_left; (· intro w hSw; (try dsimp only at hSw); go_simp; first | done | with_reducible rfl); (try simp only [List.getElem_toArray, List.getElem_cons_zero, List.getElem_cons_succ, Act.put, List.setIfInBounds_toArray, List.set_cons_zero, List.set_cons_succ])); (refine wpAnyH_take (i := 2) (v := ?_) rfl (by kernel_rfl) (by kernel_rfl) (by kernel_rfl) (fun _ _ _ h => h) (Or.inl ⟨by rfl, ?_⟩) (by assumption) ?_; rotate_left; (· intro w hSw; (try dsimp only at hSw); go_simp; first | done | with_reducible rfl); (try simp only [List.getElem_toArray, List.getElem_cons_zero, List.getElem_cons_succ, Act.put, List.setIfInBounds_toArray, List.set_cons_zero, List.set_cons_succ])); (refine wpAnyH_take (i := 4) (v := ?_) rfl (by kernel_rfl) (by kernel_rfl) (by kernel_rfl) (fun _ _ _ h => h) (Or.inl ⟨by rfl, ?_⟩) (by assumption) ?_; rotate_left; (· intro w hSw; (try dsimp only at hSw); go_simp; first | done | with_reducible rfl); (try simp only [List.getElem_toArray, List.getElem_cons_zero, List.getElem_cons_succ, Act.put, List.setIfInBounds_toArray, List.set_cons_zero, List.set_cons_succ])); (refine wpAnyH_take (i := 5) (v := ?_) rfl (by kernel_rfl) (by kernel_rfl) (by kernel_rfl) (fun _ _ _ h => h) (Or.inl ⟨by rfl, ?_⟩) (by assumption) ?_; rotate_left; (· intro w hSw; (try dsimp only at hSw); go_simp; first | done | with_reducible rfl); (try simp only [List.getElem_toArray, List.getElem_cons_zero, List.getElem_cons_succ, Act.put, List.setIfInBounds_toArray, List.set_cons_zero, List.set_cons_succ])); (refine wpAnyH_take (i := 6) (v := ?_) rfl (by kernel_rfl) (by kernel_rfl) (by kernel_rfl) (fun _ _ _ h => h) (Or.inl ⟨by rfl, ?_⟩) (by assumption) ?_; rotate_left; (· intro w hSw; (try dsimp only at hSw); go_simp; first | done | with_reducible rfl); (try simp only [List.getElem_toArray, List.getElem_cons_zero, List.getElem_cons_succ, Act.put, List.setIfInBounds_toArray, List.set_cons_zero, List.set_cons_succ])); (refine wpAnyH_take (i := 8) (v := ?_) rfl (by kernel_rfl) (by kernel_rfl) (by kernel_rfl) (fun _ _ _ h => h) (Or.inl ⟨by rfl, ?_⟩) (by assumption) ?_; rotate_left; (· intro w hSw; (try dsimp only at hSw); go_simp; first | done | with_reducible rfl); (try simp only [List.getElem_toArray, List.getElem_cons_zero, List.getElem_cons_succ, Act.put, List.setIfInBounds_toArray, List.set_cons_zero, List.set_cons_succ])); (refine wpAnyH_take (i := 9) (v := ?_) rfl (by kernel_rfl) (by kernel_rfl) (by kernel_rfl) (fun _ _ _ h => h) (Or.inl ⟨by rfl, ?_⟩) (by assumption) ?_; rotate_left; (· intro w hSw; (try dsimp only at hSw); go_simp; first | done | with_reducible rfl); (try simp only [List.getElem_toArray, List.getElem_cons_zero, List.getElem_cons_succ, Act.put, List.setIfInBounds_toArray, List.set_cons_zero, List.set_cons_succ])); (refine wpAnyH_take (i := 11) (v := ?_) rfl (by kernel_rfl) (by kernel_rfl) (by kernel_rfl) (fun _ _ _ h => h) (Or.inl ⟨by rfl, ?_⟩) (by assumption) ?_; rotate_left; (· intro w hSw; (try dsimp only at hSw); go_simp; first | done | with_reducible rfl); (try simp only [List.getElem_toArray, List.getElem_cons_zero, List.getElem_cons_succ, Act.put, List.setIfInBounds_toArray, List.set_cons_zero, List.set_cons_succ])); (refine wpAnyH_take (i := 12) (v := ?_) rfl (by kernel_rfl) (by kernel_rfl) (by kernel_rfl) (fun _ _ _ h => h) (Or.inl ⟨by rfl, ?_⟩) (by assumption) ?_; rotate_left; (· intro w hSw; (try dsimp only at hSw); go_simp; first | done | with_reducible rfl); (try simp only [List.getElem_toArray, List.getElem_cons_zero, List.getElem_cons_succ, Act.put, List.setIfInBounds_toArray, List.set_cons_zero, List.set_cons_succ])))
  (refine wpAnyH_ready (rs := [3]) (by kernel_rfl) (by simp) ?_; refine AllReadyH.cons (i := 3) rfl (fun K hK => ?_) AllReadyH.nil)
  go_simp
  refine (iBitsOf_any _ _ j1 _).mono ?_; rintro e w5 ⟨rfl, rfl⟩
  go_wp2_with fail
  (refine hK.out _ _ (⟨c0, c1, c2⟩) (fun hHeld => ?_); clear hK K; (try simp only [List.getElem_toArray, List.getElem_cons_zero, List.getElem_cons_succ, Act.put, List.setIfInBounds_toArray, List.set_cons_zero, List.set_cons_succ]))
  (refine wpAnyH_ready (rs := [7]) (by kernel_rfl) (by simp) ?_; refine AllReadyH.cons (i := 7) rfl (fun K hK => ?_) AllReadyH.nil)
  go_simp
  refine (iBitsOf_any _ _ j2 _).mono ?_; rintro e w5 ⟨rfl, rfl⟩
  go_wp2_with fail
  (refine hK.out _ _ (⟨c0, c1, c2⟩) (fun hHeld => ?_); clear hK K; (try simp only [List.getElem_toArray, List.getElem_cons_zero, List.getElem_cons_succ, Act.put, List.setIfInBounds_toArray, List.set_cons_zero, List.set_cons_succ]))
  (refine wpAnyH_ready (rs := [10]) (by kernel_rfl) (by simp) ?_; refine AllReadyH.cons (i := 10) rfl (fun K hK => ?_) AllReadyH.nil)
  go_simp
  refine (iBitsOf_any _ _ j3 _).mono ?_; rintro e w5 ⟨rfl, rfl⟩
  go_wp2_with fail
  (refine hK.out _ _ (⟨c0, c1, c2⟩) (fun hHeld => ?_); clear hK K; (try simp only [List.getElem_toArray, List.getElem_cons_zero, List.getElem_cons_succ, Act.put, List.setIfInBounds_toArray, List.set_cons_zero, List.set_cons_succ]))
  (refine wpAnyH_ready (rs := [13]) (by kernel_rfl) (by simp) ?_; refine AllReadyH.cons (i := 13) rfl (fun K hK => ?_) AllReadyH.nil)
  go_simp
  refine (iBitsOf_any _ _ j4 _).mono ?_; rintro e w5 ⟨rfl, rfl⟩
  go_wp2_with fail
  (refine hK.out _ _ (⟨c0, c1, c2⟩) (fun hHeld => ?_); clear hK K; (try simp only [List.getElem_toArray, List.getElem_cons_zero, List.getElem_cons_succ, Act.put, List.setIfInBounds_toArray, List.set_cons_zero, List.set_cons_succ]))
  ((refine wpAnyH_take (i := 14) (v := ?_) rfl (by kernel_rfl) (by kernel_rfl) (by kernel_rfl) (fun _ _ _ h => h) (Or.inl ⟨by rfl, ?_⟩) (by assumption) ?_; rotate_left; (· intro w hSw; (try dsimp only at hSw); go_simp; first | done | with_reducible rfl); (try simp only [List.getElem_toArray, List.getElem_cons_zero, List.getElem_cons_succ, Act.put, List.setIfInBounds_toArray, List.set_cons_zero, List.set_cons_succ])))
  (refine wpAnyH_ready (rs := [15]) (by kernel_rfl) (by simp) ?_; refine AllReadyH.cons (i := 15) rfl (fun K hK => ?_) AllReadyH.nil)
  refine hstep_storeM rfl 116 _ _ rfl (w.heap.size + 1) (BitsY M) rfl rfl 116 _ (show w2.drew.heap[w.heap.size + 1]? = some Z4i from HZ2.out) info_four rfl (one4i _ _ _ _) ?_
  (refine hK.out _ _ (⟨row_far9 (by omega) c0, row_far9 (by omega) c1, row_far9 (by omega) c2⟩) (fun hHeld => ?_); clear hK K; (try simp only [List.getElem_toArray, List.getElem_cons_zero, List.getElem_cons_succ, Act.put, List.setIfInBounds_toArray, List.set_cons_zero, List.set_cons_succ]))
  (refine wpAnyH_done (by kernel_rfl) ?_ _; refine NoPanic.normal ?_)
  clear hHeld
  go_wp2_with fail
  refine bodyPost_ret (v := .agg (BitsY M)) ?_ rfl ?_
  · have hr := setRow_heap _ _ _ (BitsY M) _ _ (show w2.drew.heap[w.heap.size + 1]? = some Z4i from HZ2.out)
    have z0 : (w2.drew.setRow (w.heap.size + 1) (BitsY M)).cell? ⟨w.heap.size + 1, 0, none⟩ = some (.int .i64 (bits32 M.x : Nat)) := by rw [Joins.cell_of_block hr]; rfl
    have z1 : (w2.drew.setRow (w.heap.size + 1) (BitsY M)).cell? ⟨w.heap.size + 1, 1, none⟩ = some (.int .i64 (bits32 M.y : Nat)) := by rw [Joins.cell_of_block hr]; rfl
    have z2 : (w2.drew.setRow (w.heap.size + 1) (BitsY M)).cell? ⟨w.heap.size + 1, 2, none⟩ = some (.int .i64 (bits32 M.p : Nat)) := by rw [Joins.cell_of_block hr]; rfl
    have z3 : (w2.drew.setRow (w.heap.size + 1) (BitsY M)).cell? ⟨w.heap.size + 1, 3, none⟩ = some (.int .i64 (bits32 M.e : Nat)) := by rw [Joins.cell_of_block hr]; rfl
    have hres : Try.f92.results = #[.cell 2 116] := by kernel_rfl
    simp only [results, hres]; go_simp
  · exact ⟨rfl, below_setRow HB2.out.drew (by omega) _⟩
theorem eq_four (a b c d : Int) (w : World) : (Op.equalIn 10000 116 (.agg #[.int .i64 a, .int .i64 b, .int .i64 c, .int .i64 d]) (.agg #[.int .i64 a, .int .i64 b, .int .i64 c, .int .i64 d])).run Try.prog w = .ok true w := by
  have u3 := Try.underlying2
  have a3 := Try.isAgg2
  have z3 := Try.sizeOf2
  rw [show (10000 : Nat) = 9999 + 1 from rfl, Op.equalIn]
  simp only [Sem.run_bind, run_underlying Try.underlying116, Result.andThen_ok]
  simp only [Std.Legacy.Range.forIn_eq_forIn_range', Std.Legacy.Range.size, Nat.sub_zero, Nat.add_sub_cancel, Nat.div_one, List.range'_succ, List.range'_zero, List.forIn_cons, List.forIn_nil]
  go_simp
set_option maxHeartbeats 2000000 in
set_option maxRecDepth 100000 in
theorem iSameRay_any (t u M : Ry) (h : Ry.is t M) (h' : Ry.is u M) (w : World) : Calls Try.prog 53 #[t.val, u.val] w fun e w' => e = .returned (.bool true) ∧ Below w.heap.size w w' := by
  have H := Lib.hid h; have H' := Lib.hid h'
  have HB2 := Lib.hid (((Below.refl w.heap.size w).alloc (Nat.le_refl _) (RO t)).alloc (by simp) (RO u))
  have HZ2 := Lib.hid (alloc2_new w (RO t) (RO u))
  have HP2 := Lib.hid (alloc2_old w (RO t) (RO u))
  clear h h'
  unfold Ry.val
  go_enter Try.func53, Try.ntmps53
  go_wp2_with fail
  generalize (w.alloc (RO t)).alloc (RO u) = w2 at HB2 HZ2 HP2 ⊢
  have hlt : w.heap.size + 1 < w2.heap.size := (Array.getElem?_eq_some_iff.1 HZ2.out).1
  have HC := Lib.hid (show ∀ W, Below w2.heap.size w2 W → (W.cell? ⟨w.heap.size, 0, none⟩ = some (.complex .f32 t.x t.y) ∧ W.cell? ⟨w.heap.size, 1, none⟩ = some (.float .f32 t.p) ∧ W.cell? ⟨w.heap.size, 2, none⟩ = some (.float .f32 t.e)) ∧
      W.cell? ⟨w.heap.size + 1, 0, none⟩ = some (.complex .f32 u.x u.y) ∧ W.cell? ⟨w.heap.size + 1, 1, none⟩ = some (.float .f32 u.p) ∧ W.cell? ⟨w.heap.size + 1, 2, none⟩ = some (.float .f32 u.e) from fun W hW => by
    have h1 := (hW.block w.heap.size (by omega)).trans HP2.out
    have h2 := (hW.block (w.heap.size + 1) hlt).trans HZ2.out
    refine ⟨⟨?_, ?_, ?_⟩, ?_, ?_, ?_⟩
    · rw [Joins.cell_of_block h1]; rfl
    · rw [Joins.cell_of_block h1]; rfl
    · rw [Joins.cell_of_block h1]; rfl
    · rw [Joins.cell_of_block h2]; rfl
    · rw [Joins.cell_of_block h2]; rfl
    · rw [Joins.cell_of_block h2]; rfl)
  have hd := (Below.refl w2.heap.size w2).drew
  have heq := eq_four (bits32 M.x : Nat) (bits32 M.y : Nat) (bits32 M.p : Nat) (bits32 M.e : Nat)
  refine wp_region_noPanic ?_
  refine wp_region_held_drew (S := fun W => (W.cell? ⟨w.heap.size, 0, none⟩ = some (.complex .f32 t.x t.y) ∧ W.cell? ⟨w.heap.size, 1, none⟩ = some (.float .f32 t.p) ∧ W.cell? ⟨w.heap.size, 2, none⟩ = some (.float .f32 t.e)) ∧
      W.cell? ⟨w.heap.size + 1, 0, none⟩ = some (.complex .f32 u.x u.y) ∧ W.cell? ⟨w.heap.size + 1, 1, none⟩ = some (.float .f32 u.p) ∧ W.cell? ⟨w.heap.size + 1, 2, none⟩ = some (.float .f32 u.e)) (by kernel_rfl) (HC.out _ hd) (fun hHeld => ?_)
  ((refine wpAnyH_take (i := 0) (v := ?_) rfl (by kernel_rfl) (by kernel_rfl) (by kernel_rfl) (fun _ _ _ h => h) (Or.inl ⟨by rfl, ?_⟩) (by assumption) ?_; rotate_left; (· intro w hSw; (try dsimp only at hSw); go_simp; first | done | with_reducible rfl); (try simp only [List.getElem_toArray, List.getElem_cons_zero, List.getElem_cons_succ, Act.put, List.setIfInBounds_toArray, List.set_cons_zero, List.set_cons_succ])); (refine wpAnyH_take (i := 2) (v := ?_) rfl (by kernel_rfl) (by kernel_rfl) (by kernel_rfl) (fun _ _ _ h => h) (Or.inl ⟨by rfl, ?_⟩) (by assumption) ?_; rotate_left; (· intro w hSw; (try dsimp only at hSw); go_simp; first | done | with_reducible rfl); (try simp only [List.getElem_toArray, List.getElem_cons_zero, List.getElem_cons_succ, Act.put, List.setIfInBounds_toArray, List.set_cons_zero, List.set_cons_succ])))
  (refine wpAnyH_ready (rs := [1]) (by kernel_rfl) (by simp) ?_; refine AllReadyH.cons (i := 1) rfl (fun K hK => ?_) AllReadyH.nil)
  go_simp
  refine (iBitsRay_any t M H.out _).mono ?_; rintro e w5 ⟨rfl, hb5⟩
  have HD5 := Lib.hid (hd.trans (hb5.mono hd.size))
  go_wp2_with fail
  (refine hK.out _ _ ((HC.out _ HD5.out)) (fun hHeld => ?_); clear hK K; (try simp only [List.getElem_toArray, List.getElem_cons_zero, List.getElem_cons_succ, Act.put, List.setIfInBounds_toArray, List.set_cons_zero, List.set_cons_succ]))
  (refine wpAnyH_ready (rs := [3]) (by kernel_rfl) (by simp) ?_; refine AllReadyH.cons (i := 3) rfl (fun K hK => ?_) AllReadyH.nil)
  go_simp
  refine (iBitsRay_any u M H'.out _).mono ?_; rintro e w6 ⟨rfl, hb6⟩
  have HD6 := Lib.hid (HD5.out.trans (hb6.mono HD5.out.size))
  go_wp2_with fail
  (refine hK.out _ _ ((HC.out _ HD6.out)) (fun hHeld => ?_); clear hK K; (try simp only [List.getElem_toArray, List.getElem_cons_zero, List.getElem_cons_succ, Act.put, List.setIfInBounds_toArray, List.set_cons_zero, List.set_cons_succ]))
  (refine wpAnyH_ready (rs := [4]) (by kernel_rfl) (by simp) ?_; refine AllReadyH.cons (i := 4) rfl (fun K hK => ?_) AllReadyH.nil)
  go_simp
  (refine hK.out _ _ ((HC.out _ HD6.out)) (fun hHeld => ?_); clear hK K; (try simp only [List.getElem_toArray, List.getElem_cons_zero, List.getElem_cons_succ, Act.put, List.setIfInBounds_toArray, List.set_cons_zero, List.set_cons_succ]))
  (refine wpAnyH_ready (rs := [5]) (by kernel_rfl) (by simp) ?_; refine AllReadyH.cons (i := 5) rfl (fun K hK => ?_) AllReadyH.nil)
  go_simp
  (refine hK.out _ _ ((HC.out _ HD6.out)) (fun hHeld => ?_); clear hK K; (try simp only [List.getElem_toArray, List.getElem_cons_zero, List.getElem_cons_succ, Act.put, List.setIfInBounds_toArray, List.set_cons_zero, List.set_cons_succ]))
  (refine wpAnyH_done (by kernel_rfl) ?_ _; refine NoPanic.normal ?_)
  clear hHeld
  go_wp2_with fail
  go_ret
  exact ⟨rfl, HB2.out.trans (HD6.out.mono HB2.out.size)⟩
end Go.Proofs.Ytpnmledanloboaa
