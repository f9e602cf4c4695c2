/-
  Lists of the same particles.
-/
import Derived.Test.YtnknhfhllifnhaaPtS
namespace Go.Proofs.Ytnknhfhllifnhaa
open Go.Fl Go.RowKit
set_option linter.unusedSimpArgs false
set_option linter.unusedVariables false

theorem eq_six (a b c d e f : Int) (w : World) : (Op.equalIn 10000 158 (.agg #[.int .i64 a, .int .i64 b, .int .i64 c, .int .i64 d, .int .i64 e, .int .i64 f]) (.agg #[.int .i64 a, .int .i64 b, .int .i64 c, .int .i64 d, .int .i64 e, .int .i64 f])).run Try.prog w = .ok true w := by
  have u3 := Try.underlying2
  have a3 := Try.isAgg2
  have z3 := Try.sizeOf2
  rw [show (10000 : Nat) = 9999 + 1 from rfl, Op.equalIn]
  simp only [Sem.run_bind, run_underlying Try.underlying158, Result.andThen_ok]
  simp only [Std.Legacy.Range.forIn_eq_forIn_range', Std.Legacy.Range.size, Nat.sub_zero, Nat.add_sub_cancel, Nat.div_one, List.range'_succ, List.range'_zero, List.forIn_cons, List.forIn_nil]
  go_simp

set_option maxHeartbeats 2000000 in
set_option maxRecDepth 100000 in
theorem iSame_pt (B B' : Nat) (u v : Value) (ts : List Pt) (w : World) (hu : POwn B w u ts) (hv : POwn B' w v ts) (h : oks ts) (hn : ts.length ≤ 64) :
    Calls Try.prog 46 #[u, v] w fun e w' => e = .returned (.bool true) ∧ Below w.heap.size w w' := by
  obtain ⟨a, cap, rfl, hf⟩ := p_form hu
  obtain ⟨a', cap', rfl, hf'⟩ := p_form hv
  have HU := Lib.hid hu; have HV := Lib.hid hv; have HO := Lib.hid h
  clear hu hv h
  go_enter Try.func46, Try.ntmps46
  go_wp2
  go_loopw [14] (fun i wr => ∃ k : Nat, k ≤ ts.length ∧ i = .int .i64 k ∧ Below w.heap.size w wr) (fun i _ => ts.length - (intOf i).toNat)
  case atStart => exact ⟨0, Nat.zero_le _, rfl, Below.refl _ _⟩
  case round =>
    obtain ⟨k, hk, rfl, hb⟩ := hrel
    by_cases hlt : k < ts.length
    · rcases hf with hf | ⟨g, rfl, _, hg⟩
      · subst hf; simp at hlt
      rcases hf' with hf' | ⟨g', rfl, _, hg'⟩
      · subst hf'; simp at hlt
      obtain ⟨c0, c1, c2, c3⟩ := p_cells (r4_below HU.out hb) hlt
      have HT := Lib.hid (oks_at HO.out hlt)
      have HE := Lib.hid (fun w2 (h2 : Below w.heap.size w w2) => p_cells (r4_below HV.out h2) hlt)
      generalize ts[k] = t at c0 c1 c2 c3 HT HE
      have HB1 := Lib.hid (hb.alloc hb.size (.cells #[.complex .f32 (E8 t.n) (E8 t.m), .complex .f32 t.x t.y, .float .f32 (E8 t.c), .float .f32 (E8 t.s)] 57))
      have HP1 := Lib.hid (heap_alloc_new wr (.cells #[.complex .f32 (E8 t.n) (E8 t.m), .complex .f32 t.x t.y, .float .f32 (E8 t.c), .float .f32 (E8 t.s)] 57))
      have HZ1 := Lib.hid (show wr.heap.size < (wr.alloc (.cells #[.complex .f32 (E8 t.n) (E8 t.m), .complex .f32 t.x t.y, .float .f32 (E8 t.c), .float .f32 (E8 t.s)] 57)).heap.size by simp)
      have HZ0 := Lib.hid hb.size
      go_wp2_with fail
      clear c0 c1 c2 c3 hb
      generalize wr.alloc (.cells #[.complex .f32 (E8 t.n) (E8 t.m), .complex .f32 t.x t.y, .float .f32 (E8 t.c), .float .f32 (E8 t.s)] 57) = w1 at HB1 HP1 HZ1 ⊢
      generalize wr.heap.size = b at HP1 HZ1 HZ0 ⊢
      have HC := Lib.hid (show ∀ w2, Below w1.heap.size w1 w2 → (w2.cell? ⟨b, 0, none⟩ = some (.complex .f32 (E8 t.n) (E8 t.m)) ∧ w2.cell? ⟨b, 1, none⟩ = some (.complex .f32 t.x t.y) ∧ w2.cell? ⟨b, 2, none⟩ = some (.float .f32 (E8 t.c)) ∧ w2.cell? ⟨b, 3, none⟩ = some (.float .f32 (E8 t.s))) ∧
          w2.cell? ⟨g', k * 4, none⟩ = some (.complex .f32 (E8 t.n) (E8 t.m)) ∧ w2.cell? ⟨g', k * 4 + 1, none⟩ = some (.complex .f32 t.x t.y) ∧ w2.cell? ⟨g', k * 4 + 2, none⟩ = some (.float .f32 (E8 t.c)) ∧ w2.cell? ⟨g', k * 4 + 3, none⟩ = some (.float .f32 (E8 t.s)) from fun w2 h2 => by
        have hz := (h2.block b HZ1.out).trans HP1.out
        refine ⟨⟨?_, ?_, ?_, ?_⟩, HE.out w2 (HB1.out.trans (h2.mono HB1.out.size))⟩ <;> (rw [Joins.cell_of_block hz]; rfl))
      have hd := (Below.refl w1.heap.size w1).drew
      have heq := eq_six (bits32 (E8 t.n)) (bits32 (E8 t.m)) (bits32 t.x) (bits32 t.y) (bits32 (E8 t.c)) (bits32 (E8 t.s))
      refine wp_region_noPanic ?_
      refine wp_region_held_drew (S := fun w2 => (w2.cell? ⟨b, 0, none⟩ = some (.complex .f32 (E8 t.n) (E8 t.m)) ∧ w2.cell? ⟨b, 1, none⟩ = some (.complex .f32 t.x t.y) ∧ w2.cell? ⟨b, 2, none⟩ = some (.float .f32 (E8 t.c)) ∧ w2.cell? ⟨b, 3, none⟩ = some (.float .f32 (E8 t.s))) ∧
          w2.cell? ⟨g', k * 4, none⟩ = some (.complex .f32 (E8 t.n) (E8 t.m)) ∧ w2.cell? ⟨g', k * 4 + 1, none⟩ = some (.complex .f32 t.x t.y) ∧ w2.cell? ⟨g', k * 4 + 2, none⟩ = some (.float .f32 (E8 t.c)) ∧ w2.cell? ⟨g', k * 4 + 3, none⟩ = some (.float .f32 (E8 t.s))) (by kernel_rfl) (HC.out _ hd) (fun hHeld => ?_)
      ((refine wpAnyH_take (i := 0) (v := ?_) rfl (by kernel_rfl) (by kernel_rfl) (by kernel_rfl) (fun _ _ _ h => h) (Or.inl ⟨by rfl, ?_⟩) (by assumption) ?_; rotate_left; (· intro w hSw; (try dsimp only at hSw); go_simp; first | done | with_reducible rfl); (try simp only [List.getElem_toArray, List.getElem_cons_zero, List.getElem_cons_succ, Act.put, List.setIfInBounds_toArray, List.set_cons_zero, List.set_cons_succ])); (refine wpAnyH_take (i := 2) (v := ?_) rfl (by kernel_rfl) (by kernel_rfl) (by kernel_rfl) (fun _ _ _ h => h) (Or.inl ⟨by rfl, ?_⟩) (by assumption) ?_; rotate_left; (· intro w hSw; (try dsimp only at hSw); go_simp; first | done | with_reducible rfl); (try simp only [List.getElem_toArray, List.getElem_cons_zero, List.getElem_cons_succ, Act.put, List.setIfInBounds_toArray, List.set_cons_zero, List.set_cons_succ])); (refine wpAnyH_take (i := 3) (v := ?_) rfl (by kernel_rfl) (by kernel_rfl) (by kernel_rfl) (fun _ _ _ h => h) (Or.inl ⟨by rfl, ?_⟩) (by assumption) ?_; rotate_left; (· intro w hSw; (try dsimp only at hSw); go_simp; first | done | with_reducible rfl); (try simp only [List.getElem_toArray, List.getElem_cons_zero, List.getElem_cons_succ, Act.put, List.setIfInBounds_toArray, List.set_cons_zero, List.set_cons_succ])); (refine wpAnyH_take (i := 4) (v := ?_) rfl (by kernel_rfl) (by kernel_rfl) (by kernel_rfl) (fun _ _ _ h => h) (Or.inl ⟨by rfl, ?_⟩) (by assumption) ?_; rotate_left; (· intro w hSw; (try dsimp only at hSw); go_simp; first | done | with_reducible rfl); (try simp only [List.getElem_toArray, List.getElem_cons_zero, List.getElem_cons_succ, Act.put, List.setIfInBounds_toArray, List.set_cons_zero, List.set_cons_succ])); (refine wpAnyH_take (i := 5) (v := ?_) rfl (by kernel_rfl) (by kernel_rfl) (by kernel_rfl) (fun _ _ _ h => h) (Or.inl ⟨by rfl, ?_⟩) (by assumption) ?_; rotate_left; (· intro w hSw; (try dsimp only at hSw); go_simp; first | done | with_reducible rfl); (try simp only [List.getElem_toArray, List.getElem_cons_zero, List.getElem_cons_succ, Act.put, List.setIfInBounds_toArray, List.set_cons_zero, List.set_cons_succ])))
      (refine wpAnyH_ready (rs := [1]) (by kernel_rfl) (by simp) ?_; refine AllReadyH.cons (i := 1) rfl (fun K hK => ?_) AllReadyH.nil)
      go_simp
      refine (iBits_pt t HT.out _).mono ?_; rintro e w3 ⟨rfl, h3⟩
      have HD3 := Lib.hid (hd.trans (h3.mono hd.size))
      clear h3 hd
      go_wp2_with fail
      (refine hK.out _ _ (HC.out _ HD3.out) (fun hHeld => ?_); clear hK K; (try simp only [List.getElem_toArray, List.getElem_cons_zero, List.getElem_cons_succ, Act.put, List.setIfInBounds_toArray, List.set_cons_zero, List.set_cons_succ]))
      (refine wpAnyH_ready (rs := [6]) (by kernel_rfl) (by simp) ?_; refine AllReadyH.cons (i := 6) rfl (fun K hK => ?_) AllReadyH.nil)
      go_simp
      refine (iBits_pt t HT.out _).mono ?_; rintro e w4 ⟨rfl, h4⟩
      have HD4 := Lib.hid (HD3.out.trans (h4.mono HD3.out.size))
      clear h4
      go_wp2_with fail
      (refine hK.out _ _ (HC.out _ HD4.out) (fun hHeld => ?_); clear hK K; (try simp only [List.getElem_toArray, List.getElem_cons_zero, List.getElem_cons_succ, Act.put, List.setIfInBounds_toArray, List.set_cons_zero, List.set_cons_succ]))
      ((refine wpAnyH_take (i := 7) (v := ?_) rfl (by kernel_rfl) (by kernel_rfl) (by kernel_rfl) (fun _ _ _ h => h) (Or.inl ⟨by rfl, ?_⟩) (by assumption) ?_; rotate_left; (· intro w hSw; (try dsimp only at hSw); go_simp; first | done | with_reducible rfl); (try simp only [List.getElem_toArray, List.getElem_cons_zero, List.getElem_cons_succ, Act.put, List.setIfInBounds_toArray, List.set_cons_zero, List.set_cons_succ])))
      (refine wpAnyH_done (by kernel_rfl) ?_ _; refine NoPanic.normal ?_)
      clear hHeld
      go_wp2_with fail
      go_roundw
      case rel => exact ⟨k + 1, by omega, by go_num, HB1.out.trans (HD4.out.mono HB1.out.size)⟩
      case measure => simp [intOf]; omega
    · obtain rfl : k = ts.length := by omega
      clear hlt
      go_wp2
      go_ret
      exact ⟨rfl, hb⟩
end Go.Proofs.Ytnknhfhllifnhaa
