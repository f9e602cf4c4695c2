/-
  SharesAt in eighths.
-/
import Derived.Test.YtihhlfafglmgnaaSha
import Derived.Deep.QuietTactic
import Derived.BigQuiet
namespace Go.Proofs.Ytihhlfafglmgnaa
open Go.Fl Go.RowKit

/-- The cells of block g. -/
def FourC (w : World) (g : Nat) (v0 v1 v2 v3 : Value) : Prop := w.cell? ⟨g, 0, none⟩ = some v0 ∧ w.cell? ⟨g, 1, none⟩ = some v1 ∧ w.cell? ⟨g, 2, none⟩ = some v2 ∧ w.cell? ⟨g, 3, none⟩ = some v3

set_option maxHeartbeats 4000000 in
set_option maxRecDepth 100000 in
theorem iSharesAt_e8 (a b : Int) (ha : 4 ≤ a) (ha' : a ≤ 7) (hb : 4 ≤ b) (hb' : b ≤ 7) (n m : Int) (n0 : -112 ≤ n) (n1 : n < 248) (m0 : -112 ≤ m) (m1 : m < 248) (w : World) :
    Calls Try.prog 47 #[GV a b, .complex .f32 (E8 n) (E8 m)] w fun e w' => ∃ p q : Nat, w.heap.size ≤ p ∧ w.heap.size ≤ q ∧ e = .returned (.tuple #[.slice (some ⟨p, 0, none⟩) 4 4, .slice (some ⟨q, 0, none⟩) 4 4, .bool true]) ∧ FourC w' p (.int .i64 (cornIx a b (n % (8 * a) / 8) (m % (8 * b) / 8))) (.int .i64 (cornIx a b (n % (8 * a) / 8 + 1) (m % (8 * b) / 8))) (.int .i64 (cornIx a b (n % (8 * a) / 8) (m % (8 * b) / 8 + 1))) (.int .i64 (cornIx a b (n % (8 * a) / 8 + 1) (m % (8 * b) / 8 + 1))) ∧ FourC w' q (.float .f32 (sh0 (n % 8) (m % 8))) (.float .f32 (sh1 (n % 8) (m % 8))) (.float .f32 (sh2 (n % 8) (m % 8))) (.float .f32 (sh3 (n % 8) (m % 8))) ∧ Below w.heap.size w w' := by
  have HP := Lib.hid (gp_new w a b 28)
  have HB0 := Lib.hid ((Below.refl w.heap.size w).alloc (Nat.le_refl _) (.cells #[.int .i64 a, .int .i64 b] 28))
  go_enter Try.func47, Try.ntmps47
  go_wp2_with fail
  generalize w.alloc (.cells #[.int .i64 a, .int .i64 b] 28) = w1 at HP HB0 ⊢
  refine (iIsPlace_e8 a b (small_grid ha ha' hb hb') n m n0 n1 m0 m1 _).mono ?_
  rintro e w2 ⟨rfl, h2⟩
  have HD0 := Lib.hid h2.drew
  have c0 := (HP.out.ever _ h2).1
  have c1 := (HP.out.ever _ h2).2
  clear h2
  go_wp2_with fail
  refine wp_region_noPanic ?_
  refine wp_region_held_drew (S := fun w' => w'.cell? ⟨w.heap.size, 0, none⟩ = some (.int .i64 a) ∧ w'.cell? ⟨w.heap.size, 1, none⟩ = some (.int .i64 b)) (by kernel_rfl) ⟨c0, c1⟩ (fun hHeld => ?_)
  clear c0 c1
  generalize w2.drew = v0 at HD0 hHeld ⊢
  ((refine wpAnyH_take (i := 0) (v := ?_) rfl (by kernel_rfl) (by kernel_rfl) (by kernel_rfl) (fun _ _ _ h => h) (Or.inl ⟨by rfl, ?_⟩) (by assumption) ?_; rotate_left; (· intro w hSw; (try dsimp only at hSw); go_simp; first | done | with_reducible rfl); (try simp only [List.getElem_toArray, List.getElem_cons_zero, Act.put, List.setIfInBounds_toArray, List.set_cons_zero, List.set_cons_succ])))
  ((refine wpAnyH_take (i := 1) (v := ?_) rfl (by kernel_rfl) (by kernel_rfl) (by kernel_rfl) (fun _ _ _ h => h) (Or.inl ⟨by rfl, ?_⟩) (by assumption) ?_; rotate_left; (· intro w hSw; (try dsimp only at hSw); go_simp; first | done | with_reducible rfl); (try simp only [List.getElem_toArray, List.getElem_cons_zero, List.getElem_cons_succ, Act.put, List.setIfInBounds_toArray, List.set_cons_zero, List.set_cons_succ])); (refine wpAnyH_take (i := 3) (v := ?_) rfl (by kernel_rfl) (by kernel_rfl) (by kernel_rfl) (fun _ _ _ h => h) (Or.inl ⟨by rfl, ?_⟩) (by assumption) ?_; rotate_left; (· intro w hSw; (try dsimp only at hSw); go_simp; first | done | with_reducible rfl); (try simp only [List.getElem_toArray, List.getElem_cons_zero, List.getElem_cons_succ, Act.put, List.setIfInBounds_toArray, List.set_cons_zero, List.set_cons_succ])); (refine wpAnyH_take (i := 4) (v := ?_) rfl (by kernel_rfl) (by kernel_rfl) (by kernel_rfl) (fun _ _ _ h => h) (Or.inl ⟨by rfl, ?_⟩) (by assumption) ?_; rotate_left; (· intro w hSw; (try dsimp only at hSw); go_simp; first | done | with_reducible rfl); (try simp only [List.getElem_toArray, List.getElem_cons_zero, List.getElem_cons_succ, Act.put, List.setIfInBounds_toArray, List.set_cons_zero, List.set_cons_succ])))
  refine wpAnyH_ready (rs := [2, 6, 7]) (by kernel_rfl) (by simp) ?_
  refine (AllReadyH.cons (i := 2) rfl (fun K hK => ?_) (AllReadyH.cons (i := 6) rfl (fun K hK => ?_) (AllReadyH.cons (i := 7) rfl (fun K hK => ?_) AllReadyH.nil)))
  · skip
    go_simp
    refine (iCorners_e8 a b ha ha' hb hb' n m n0 n1 m0 m1 _).mono ?_; rintro e v1 ⟨rfl, hb1⟩
    have HD1 := Lib.hid (HD0.out.trans (hb1.mono HD0.out.size))
    clear hb1
    go_wp2_with fail
    (refine hK.out _ _ (⟨(HP.out.ever _ HD1.out).1, (HP.out.ever _ HD1.out).2⟩) (fun hHeld => ?_); clear hK K; (try simp only [List.getElem_toArray, List.getElem_cons_zero, List.getElem_cons_succ, Act.put, List.setIfInBounds_toArray, List.set_cons_zero, List.set_cons_succ]))
    refine wpAnyH_ready (rs := [5, 6, 7]) (by kernel_rfl) (by simp) ?_
    refine (AllReadyH.cons (i := 5) rfl (fun K hK => ?_) (AllReadyH.cons (i := 6) rfl (fun K hK => ?_) (AllReadyH.cons (i := 7) rfl (fun K hK => ?_) AllReadyH.nil)))
    · skip
      go_simp
      refine (iShares_e8 a b ha ha' hb hb' n m n0 n1 m0 m1 _).mono ?_; rintro e v2 ⟨rfl, hb2⟩
      have HD2 := Lib.hid (HD1.out.trans (hb2.mono HD1.out.size))
      clear hb2
      go_wp2_with fail
      (refine hK.out _ _ (⟨(HP.out.ever _ HD2.out).1, (HP.out.ever _ HD2.out).2⟩) (fun hHeld => ?_); clear hK K; (try simp only [List.getElem_toArray, List.getElem_cons_zero, List.getElem_cons_succ, Act.put, List.setIfInBounds_toArray, List.set_cons_zero, List.set_cons_succ]))
      refine wpAnyH_ready (rs := [6, 7]) (by kernel_rfl) (by simp) ?_
      refine (AllReadyH.cons (i := 6) rfl (fun K hK => ?_) (AllReadyH.cons (i := 7) rfl (fun K hK => ?_) AllReadyH.nil))
      · skip
        go_simp
        go_wp2_with fail
        have hb3 := (Below.refl v2.heap.size v2).alloc (Nat.le_refl _) (.cells #[.int .i64 0, .int .i64 0, .int .i64 0, .int .i64 0] 96)
        have HD3 := Lib.hid (HD2.out.trans (hb3.mono HD2.out.size))
        have HA3 := Lib.hid (And.intro (heap_alloc_new v2 (.cells #[.int .i64 0, .int .i64 0, .int .i64 0, .int .i64 0] 96)) (And.intro HD2.out.size (show v2.heap.size < (v2.alloc (.cells #[.int .i64 0, .int .i64 0, .int .i64 0, .int .i64 0] 96)).heap.size by simp)))
        clear hb3
        generalize v2.alloc (.cells #[.int .i64 0, .int .i64 0, .int .i64 0, .int .i64 0] 96) = v3 at HD3 HA3 ⊢
        generalize v2.heap.size = p at HA3 ⊢
        (refine hK.out _ _ (⟨(HP.out.ever _ HD3.out).1, (HP.out.ever _ HD3.out).2⟩) (fun hHeld => ?_); clear hK K; (try simp only [List.getElem_toArray, List.getElem_cons_zero, List.getElem_cons_succ, Act.put, List.setIfInBounds_toArray, List.set_cons_zero, List.set_cons_succ]))
        refine wpAnyH_ready (rs := [7]) (by kernel_rfl) (by simp) ?_
        refine (AllReadyH.cons (i := 7) rfl (fun K hK => ?_) AllReadyH.nil)
        go_simp
        go_wp2_with fail
        have hb4 := (Below.refl v3.heap.size v3).alloc (Nat.le_refl _) (.cells #[.float .f32 0, .float .f32 0, .float .f32 0, .float .f32 0] 98)
        have HD4 := Lib.hid (HD3.out.trans (hb4.mono HD3.out.size))
        have HA4 := Lib.hid (And.intro ((hb4.block p HA3.out.2.2).trans HA3.out.1) (And.intro HA3.out.2.1 (Nat.lt_of_lt_of_le HA3.out.2.2 hb4.size)))
        have HF4 := Lib.hid (And.intro (heap_alloc_new v3 (.cells #[.float .f32 0, .float .f32 0, .float .f32 0, .float .f32 0] 98)) (And.intro HD3.out.size (show v3.heap.size < (v3.alloc (.cells #[.float .f32 0, .float .f32 0, .float .f32 0, .float .f32 0] 98)).heap.size by simp)))
        have HNE := Lib.hid (Nat.ne_of_lt HA3.out.2.2)
        clear hb4
        generalize v3.alloc (.cells #[.float .f32 0, .float .f32 0, .float .f32 0, .float .f32 0] 98) = v4 at HD4 HF4 HA4 ⊢
        generalize v3.heap.size = q at HF4 HNE ⊢
        (refine hK.out _ _ (⟨(HP.out.ever _ HD4.out).1, (HP.out.ever _ HD4.out).2⟩) (fun hHeld => ?_); clear hK K; (try simp only [List.getElem_toArray, List.getElem_cons_zero, List.getElem_cons_succ, Act.put, List.setIfInBounds_toArray, List.set_cons_zero, List.set_cons_succ]))
        have hne1 : p ≠ q := by first | exact HNE.out | exact Ne.symm HNE.out
        have hne2 : q ≠ p := Ne.symm hne1
        have z0 : v4.cell? ⟨p, 0, none⟩ = some (.int .i64 0) := by rw [Joins.cell_of_block HA4.out.1]; rfl
        have f0 : v4.frozen? ⟨p, 0, none⟩ = false := by simp [World.frozen?, HA4.out.1]
        have z1 : v4.cell? ⟨p, 1, none⟩ = some (.int .i64 0) := by rw [Joins.cell_of_block HA4.out.1]; rfl
        have f1 : v4.frozen? ⟨p, 1, none⟩ = false := by simp [World.frozen?, HA4.out.1]
        have z2 : v4.cell? ⟨p, 2, none⟩ = some (.int .i64 0) := by rw [Joins.cell_of_block HA4.out.1]; rfl
        have f2 : v4.frozen? ⟨p, 2, none⟩ = false := by simp [World.frozen?, HA4.out.1]
        have z3 : v4.cell? ⟨p, 3, none⟩ = some (.int .i64 0) := by rw [Joins.cell_of_block HA4.out.1]; rfl
        have f3 : v4.frozen? ⟨p, 3, none⟩ = false := by simp [World.frozen?, HA4.out.1]
        have y0 : v4.cell? ⟨q, 0, none⟩ = some (.float .f32 0) := by rw [Joins.cell_of_block HF4.out.1]; rfl
        have g0 : v4.frozen? ⟨q, 0, none⟩ = false := by simp [World.frozen?, HF4.out.1]
        have y1 : v4.cell? ⟨q, 1, none⟩ = some (.float .f32 0) := by rw [Joins.cell_of_block HF4.out.1]; rfl
        have g1 : v4.frozen? ⟨q, 1, none⟩ = false := by simp [World.frozen?, HF4.out.1]
        have y2 : v4.cell? ⟨q, 2, none⟩ = some (.float .f32 0) := by rw [Joins.cell_of_block HF4.out.1]; rfl
        have g2 : v4.frozen? ⟨q, 2, none⟩ = false := by simp [World.frozen?, HF4.out.1]
        have y3 : v4.cell? ⟨q, 3, none⟩ = some (.float .f32 0) := by rw [Joins.cell_of_block HF4.out.1]; rfl
        have g3 : v4.frozen? ⟨q, 3, none⟩ = false := by simp [World.frozen?, HF4.out.1]
        (refine wpAnyH_ready (rs := [8]) (by kernel_rfl) (by simp) ?_; refine AllReadyH.cons (i := 8) rfl (fun K hK => ?_) AllReadyH.nil)
        go_simp
        (refine hK.out _ _ (⟨And.left (HP.out.ever _ ((((HD4.out.setCell HA4.out.2.1 _).setCell HA4.out.2.1 _).setCell HA4.out.2.1 _).setCell HA4.out.2.1 _)), And.right (HP.out.ever _ ((((HD4.out.setCell HA4.out.2.1 _).setCell HA4.out.2.1 _).setCell HA4.out.2.1 _).setCell HA4.out.2.1 _))⟩) (fun hHeld => ?_); clear hK K; (try simp only [List.getElem_toArray, List.getElem_cons_zero, List.getElem_cons_succ, Act.put, List.setIfInBounds_toArray, List.set_cons_zero, List.set_cons_succ]))
        (refine wpAnyH_ready (rs := [9]) (by kernel_rfl) (by simp) ?_; refine AllReadyH.cons (i := 9) rfl (fun K hK => ?_) AllReadyH.nil)
        go_simp
        (refine hK.out _ _ (⟨And.left (HP.out.ever _ ((((((((HD4.out.setCell HA4.out.2.1 _).setCell HA4.out.2.1 _).setCell HA4.out.2.1 _).setCell HA4.out.2.1 _).setCell HF4.out.2.1 _).setCell HF4.out.2.1 _).setCell HF4.out.2.1 _).setCell HF4.out.2.1 _)), And.right (HP.out.ever _ ((((((((HD4.out.setCell HA4.out.2.1 _).setCell HA4.out.2.1 _).setCell HA4.out.2.1 _).setCell HA4.out.2.1 _).setCell HF4.out.2.1 _).setCell HF4.out.2.1 _).setCell HF4.out.2.1 _).setCell HF4.out.2.1 _))⟩) (fun hHeld => ?_); clear hK K; (try simp only [List.getElem_toArray, List.getElem_cons_zero, List.getElem_cons_succ, Act.put, List.setIfInBounds_toArray, List.set_cons_zero, List.set_cons_succ]))
        (refine wpAnyH_done (by kernel_rfl) ?_ _; refine NoPanic.normal ?_)
        clear hHeld
        go_wp2_with fail
        go_quiet (fail)
        go_wp2_with fail
        refine bodyPost_ret (v := .tuple #[.slice (some ⟨p, 0, none⟩) 4 4, .slice (some ⟨q, 0, none⟩) 4 4, .bool true]) (by simp [results, Try.results47, go_sem]) rfl ?_
        refine ⟨p, q, Nat.le_trans HB0.out.size HA4.out.2.1, Nat.le_trans HB0.out.size HF4.out.2.1, rfl, ?_, ?_, below_drewN (HB0.out.trans (Below.mono ((((((((HD4.out.setCell HA4.out.2.1 _).setCell HA4.out.2.1 _).setCell HA4.out.2.1 _).setCell HA4.out.2.1 _).setCell HF4.out.2.1 _).setCell HF4.out.2.1 _).setCell HF4.out.2.1 _).setCell HF4.out.2.1 _) HB0.out.size)) _⟩
        · refine ⟨?_, ?_, ?_, ?_⟩ <;> first | (go_simp; done) | (simp [z0, z1, z2, z3, y0, y1, y2, y3, hne1, hne2]; done)
        · refine ⟨?_, ?_, ?_, ?_⟩ <;> first | (go_simp; done) | (simp [z0, z1, z2, z3, y0, y1, y2, y3, hne1, hne2]; done)
      · skip
        go_simp
        go_wp2_with fail
        have hb3 := (Below.refl v2.heap.size v2).alloc (Nat.le_refl _) (.cells #[.float .f32 0, .float .f32 0, .float .f32 0, .float .f32 0] 98)
        have HD3 := Lib.hid (HD2.out.trans (hb3.mono HD2.out.size))
        have HF3 := Lib.hid (And.intro (heap_alloc_new v2 (.cells #[.float .f32 0, .float .f32 0, .float .f32 0, .float .f32 0] 98)) (And.intro HD2.out.size (show v2.heap.size < (v2.alloc (.cells #[.float .f32 0, .float .f32 0, .float .f32 0, .float .f32 0] 98)).heap.size by simp)))
        clear hb3
        generalize v2.alloc (.cells #[.float .f32 0, .float .f32 0, .float .f32 0, .float .f32 0] 98) = v3 at HD3 HF3 ⊢
        generalize v2.heap.size = q at HF3 ⊢
        (refine hK.out _ _ (⟨(HP.out.ever _ HD3.out).1, (HP.out.ever _ HD3.out).2⟩) (fun hHeld => ?_); clear hK K; (try simp only [List.getElem_toArray, List.getElem_cons_zero, List.getElem_cons_succ, Act.put, List.setIfInBounds_toArray, List.set_cons_zero, List.set_cons_succ]))
        refine wpAnyH_ready (rs := [6]) (by kernel_rfl) (by simp) ?_
        refine (AllReadyH.cons (i := 6) rfl (fun K hK => ?_) AllReadyH.nil)
        go_simp
        go_wp2_with fail
        have hb4 := (Below.refl v3.heap.size v3).alloc (Nat.le_refl _) (.cells #[.int .i64 0, .int .i64 0, .int .i64 0, .int .i64 0] 96)
        have HD4 := Lib.hid (HD3.out.trans (hb4.mono HD3.out.size))
        have HF4 := Lib.hid (And.intro ((hb4.block q HF3.out.2.2).trans HF3.out.1) (And.intro HF3.out.2.1 (Nat.lt_of_lt_of_le HF3.out.2.2 hb4.size)))
        have HA4 := Lib.hid (And.intro (heap_alloc_new v3 (.cells #[.int .i64 0, .int .i64 0, .int .i64 0, .int .i64 0] 96)) (And.intro HD3.out.size (show v3.heap.size < (v3.alloc (.cells #[.int .i64 0, .int .i64 0, .int .i64 0, .int .i64 0] 96)).heap.size by simp)))
        have HNE := Lib.hid (Nat.ne_of_lt HF3.out.2.2)
        clear hb4
        generalize v3.alloc (.cells #[.int .i64 0, .int .i64 0, .int .i64 0, .int .i64 0] 96) = v4 at HD4 HA4 HF4 ⊢
        generalize v3.heap.size = p at HA4 HNE ⊢
        (refine hK.out _ _ (⟨(HP.out.ever _ HD4.out).1, (HP.out.ever _ HD4.out).2⟩) (fun hHeld => ?_); clear hK K; (try simp only [List.getElem_toArray, List.getElem_cons_zero, List.getElem_cons_succ, Act.put, List.setIfInBounds_toArray, List.set_cons_zero, List.set_cons_succ]))
        have hne1 : p ≠ q := by first | exact HNE.out | exact Ne.symm HNE.out
        have hne2 : q ≠ p := Ne.symm hne1
        have z0 : v4.cell? ⟨p, 0, none⟩ = some (.int .i64 0) := by rw [Joins.cell_of_block HA4.out.1]; rfl
        have f0 : v4.frozen? ⟨p, 0, none⟩ = false := by simp [World.frozen?, HA4.out.1]
        have z1 : v4.cell? ⟨p, 1, none⟩ = some (.int .i64 0) := by rw [Joins.cell_of_block HA4.out.1]; rfl
        have f1 : v4.frozen? ⟨p, 1, none⟩ = false := by simp [World.frozen?, HA4.out.1]
        have z2 : v4.cell? ⟨p, 2, none⟩ = some (.int .i64 0) := by rw [Joins.cell_of_block HA4.out.1]; rfl
        have f2 : v4.frozen? ⟨p, 2, none⟩ = false := by simp [World.frozen?, HA4.out.1]
        have z3 : v4.cell? ⟨p, 3, none⟩ = some (.int .i64 0) := by rw [Joins.cell_of_block HA4.out.1]; rfl
        have f3 : v4.frozen? ⟨p, 3, none⟩ = false := by simp [World.frozen?, HA4.out.1]
        have y0 : v4.cell? ⟨q, 0, none⟩ = some (.float .f32 0) := by rw [Joins.cell_of_block HF4.out.1]; rfl
        have g0 : v4.frozen? ⟨q, 0, none⟩ = false := by simp [World.frozen?, HF4.out.1]
        have y1 : v4.cell? ⟨q, 1, none⟩ = some (.float .f32 0) := by rw [Joins.cell_of_block HF4.out.1]; rfl
        have g1 : v4.frozen? ⟨q, 1, none⟩ = false := by simp [World.frozen?, HF4.out.1]
        have y2 : v4.cell? ⟨q, 2, none⟩ = some (.float .f32 0) := by rw [Joins.cell_of_block HF4.out.1]; rfl
        have g2 : v4.frozen? ⟨q, 2, none⟩ = false := by simp [World.frozen?, HF4.out.1]
        have y3 : v4.cell? ⟨q, 3, none⟩ = some (.float .f32 0) := by rw [Joins.cell_of_block HF4.out.1]; rfl
        have g3 : v4.frozen? ⟨q, 3, none⟩ = false := by simp [World.frozen?, HF4.out.1]
        (refine wpAnyH_ready (rs := [8]) (by kernel_rfl) (by simp) ?_; refine AllReadyH.cons (i := 8) rfl (fun K hK => ?_) AllReadyH.nil)
        go_simp
        (refine hK.out _ _ (⟨And.left (HP.out.ever _ ((((HD4.out.setCell HA4.out.2.1 _).setCell HA4.out.2.1 _).setCell HA4.out.2.1 _).setCell HA4.out.2.1 _)), And.right (HP.out.ever _ ((((HD4.out.setCell HA4.out.2.1 _).setCell HA4.out.2.1 _).setCell HA4.out.2.1 _).setCell HA4.out.2.1 _))⟩) (fun hHeld => ?_); clear hK K; (try simp only [List.getElem_toArray, List.getElem_cons_zero, List.getElem_cons_succ, Act.put, List.setIfInBounds_toArray, List.set_cons_zero, List.set_cons_succ]))
        (refine wpAnyH_ready (rs := [9]) (by kernel_rfl) (by simp) ?_; refine AllReadyH.cons (i := 9) rfl (fun K hK => ?_) AllReadyH.nil)
        go_simp
        (refine hK.out _ _ (⟨And.left (HP.out.ever _ ((((((((HD4.out.setCell HA4.out.2.1 _).setCell HA4.out.2.1 _).setCell HA4.out.2.1 _).setCell HA4.out.2.1 _).setCell HF4.out.2.1 _).setCell HF4.out.2.1 _).setCell HF4.out.2.1 _).setCell HF4.out.2.1 _)), And.right (HP.out.ever _ ((((((((HD4.out.setCell HA4.out.2.1 _).setCell HA4.out.2.1 _).setCell HA4.out.2.1 _).setCell HA4.out.2.1 _).setCell HF4.out.2.1 _).setCell HF4.out.2.1 _).setCell HF4.out.2.1 _).setCell HF4.out.2.1 _))⟩) (fun hHeld => ?_); clear hK K; (try simp only [List.getElem_toArray, List.getElem_cons_zero, List.getElem_cons_succ, Act.put, List.setIfInBounds_toArray, List.set_cons_zero, List.set_cons_succ]))
        (refine wpAnyH_done (by kernel_rfl) ?_ _; refine NoPanic.normal ?_)
        clear hHeld
        go_wp2_with fail
        go_quiet (fail)
        go_wp2_with fail
        refine bodyPost_ret (v := .tuple #[.slice (some ⟨p, 0, none⟩) 4 4, .slice (some ⟨q, 0, none⟩) 4 4, .bool true]) (by simp [results, Try.results47, go_sem]) rfl ?_
        refine ⟨p, q, Nat.le_trans HB0.out.size HA4.out.2.1, Nat.le_trans HB0.out.size HF4.out.2.1, rfl, ?_, ?_, below_drewN (HB0.out.trans (Below.mono ((((((((HD4.out.setCell HA4.out.2.1 _).setCell HA4.out.2.1 _).setCell HA4.out.2.1 _).setCell HA4.out.2.1 _).setCell HF4.out.2.1 _).setCell HF4.out.2.1 _).setCell HF4.out.2.1 _).setCell HF4.out.2.1 _) HB0.out.size)) _⟩
        · refine ⟨?_, ?_, ?_, ?_⟩ <;> first | (go_simp; done) | (simp [z0, z1, z2, z3, y0, y1, y2, y3, hne1, hne2]; done)
        · refine ⟨?_, ?_, ?_, ?_⟩ <;> first | (go_simp; done) | (simp [z0, z1, z2, z3, y0, y1, y2, y3, hne1, hne2]; done)
    · skip
      go_simp
      go_wp2_with fail
      have hb2 := (Below.refl v1.heap.size v1).alloc (Nat.le_refl _) (.cells #[.int .i64 0, .int .i64 0, .int .i64 0, .int .i64 0] 96)
      have HD2 := Lib.hid (HD1.out.trans (hb2.mono HD1.out.size))
      have HA2 := Lib.hid (And.intro (heap_alloc_new v1 (.cells #[.int .i64 0, .int .i64 0, .int .i64 0, .int .i64 0] 96)) (And.intro HD1.out.size (show v1.heap.size < (v1.alloc (.cells #[.int .i64 0, .int .i64 0, .int .i64 0, .int .i64 0] 96)).heap.size by simp)))
      clear hb2
      generalize v1.alloc (.cells #[.int .i64 0, .int .i64 0, .int .i64 0, .int .i64 0] 96) = v2 at HD2 HA2 ⊢
      generalize v1.heap.size = p at HA2 ⊢
      (refine hK.out _ _ (⟨(HP.out.ever _ HD2.out).1, (HP.out.ever _ HD2.out).2⟩) (fun hHeld => ?_); clear hK K; (try simp only [List.getElem_toArray, List.getElem_cons_zero, List.getElem_cons_succ, Act.put, List.setIfInBounds_toArray, List.set_cons_zero, List.set_cons_succ]))
      refine wpAnyH_ready (rs := [5, 7]) (by kernel_rfl) (by simp) ?_
      refine (AllReadyH.cons (i := 5) rfl (fun K hK => ?_) (AllReadyH.cons (i := 7) rfl (fun K hK => ?_) AllReadyH.nil))
      · skip
        go_simp
        refine (iShares_e8 a b ha ha' hb hb' n m n0 n1 m0 m1 _).mono ?_; rintro e v3 ⟨rfl, hb3⟩
        have HD3 := Lib.hid (HD2.out.trans (hb3.mono HD2.out.size))
        have HA3 := Lib.hid (And.intro ((hb3.block p HA2.out.2.2).trans HA2.out.1) (And.intro HA2.out.2.1 (Nat.lt_of_lt_of_le HA2.out.2.2 hb3.size)))
        clear hb3
        go_wp2_with fail
        (refine hK.out _ _ (⟨(HP.out.ever _ HD3.out).1, (HP.out.ever _ HD3.out).2⟩) (fun hHeld => ?_); clear hK K; (try simp only [List.getElem_toArray, List.getElem_cons_zero, List.getElem_cons_succ, Act.put, List.setIfInBounds_toArray, List.set_cons_zero, List.set_cons_succ]))
        refine wpAnyH_ready (rs := [7]) (by kernel_rfl) (by simp) ?_
        refine (AllReadyH.cons (i := 7) rfl (fun K hK => ?_) AllReadyH.nil)
        go_simp
        go_wp2_with fail
        have hb4 := (Below.refl v3.heap.size v3).alloc (Nat.le_refl _) (.cells #[.float .f32 0, .float .f32 0, .float .f32 0, .float .f32 0] 98)
        have HD4 := Lib.hid (HD3.out.trans (hb4.mono HD3.out.size))
        have HA4 := Lib.hid (And.intro ((hb4.block p HA3.out.2.2).trans HA3.out.1) (And.intro HA3.out.2.1 (Nat.lt_of_lt_of_le HA3.out.2.2 hb4.size)))
        have HF4 := Lib.hid (And.intro (heap_alloc_new v3 (.cells #[.float .f32 0, .float .f32 0, .float .f32 0, .float .f32 0] 98)) (And.intro HD3.out.size (show v3.heap.size < (v3.alloc (.cells #[.float .f32 0, .float .f32 0, .float .f32 0, .float .f32 0] 98)).heap.size by simp)))
        have HNE := Lib.hid (Nat.ne_of_lt HA3.out.2.2)
        clear hb4
        generalize v3.alloc (.cells #[.float .f32 0, .float .f32 0, .float .f32 0, .float .f32 0] 98) = v4 at HD4 HF4 HA4 ⊢
        generalize v3.heap.size = q at HF4 HNE ⊢
        (refine hK.out _ _ (⟨(HP.out.ever _ HD4.out).1, (HP.out.ever _ HD4.out).2⟩) (fun hHeld => ?_); clear hK K; (try simp only [List.getElem_toArray, List.getElem_cons_zero, List.getElem_cons_succ, Act.put, List.setIfInBounds_toArray, List.set_cons_zero, List.set_cons_succ]))
        have hne1 : p ≠ q := by first | exact HNE.out | exact Ne.symm HNE.out
        have hne2 : q ≠ p := Ne.symm hne1
        have z0 : v4.cell? ⟨p, 0, none⟩ = some (.int .i64 0) := by rw [Joins.cell_of_block HA4.out.1]; rfl
        have f0 : v4.frozen? ⟨p, 0, none⟩ = false := by simp [World.frozen?, HA4.out.1]
        have z1 : v4.cell? ⟨p, 1, none⟩ = some (.int .i64 0) := by rw [Joins.cell_of_block HA4.out.1]; rfl
        have f1 : v4.frozen? ⟨p, 1, none⟩ = false := by simp [World.frozen?, HA4.out.1]
        have z2 : v4.cell? ⟨p, 2, none⟩ = some (.int .i64 0) := by rw [Joins.cell_of_block HA4.out.1]; rfl
        have f2 : v4.frozen? ⟨p, 2, none⟩ = false := by simp [World.frozen?, HA4.out.1]
        have z3 : v4.cell? ⟨p, 3, none⟩ = some (.int .i64 0) := by rw [Joins.cell_of_block HA4.out.1]; rfl
        have f3 : v4.frozen? ⟨p, 3, none⟩ = false := by simp [World.frozen?, HA4.out.1]
        have y0 : v4.cell? ⟨q, 0, none⟩ = some (.float .f32 0) := by rw [Joins.cell_of_block HF4.out.1]; rfl
        have g0 : v4.frozen? ⟨q, 0, none⟩ = false := by simp [World.frozen?, HF4.out.1]
        have y1 : v4.cell? ⟨q, 1, none⟩ = some (.float .f32 0) := by rw [Joins.cell_of_block HF4.out.1]; rfl
        have g1 : v4.frozen? ⟨q, 1, none⟩ = false := by simp [World.frozen?, HF4.out.1]
        have y2 : v4.cell? ⟨q, 2, none⟩ = some (.float .f32 0) := by rw [Joins.cell_of_block HF4.out.1]; rfl
        have g2 : v4.frozen? ⟨q, 2, none⟩ = false := by simp [World.frozen?, HF4.out.1]
        have y3 : v4.cell? ⟨q, 3, none⟩ = some (.float .f32 0) := by rw [Joins.cell_of_block HF4.out.1]; rfl
        have g3 : v4.frozen? ⟨q, 3, none⟩ = false := by simp [World.frozen?, HF4.out.1]
        (refine wpAnyH_ready (rs := [8]) (by kernel_rfl) (by simp) ?_; refine AllReadyH.cons (i := 8) rfl (fun K hK => ?_) AllReadyH.nil)
        go_simp
        (refine hK.out _ _ (⟨And.left (HP.out.ever _ ((((HD4.out.setCell HA4.out.2.1 _).setCell HA4.out.2.1 _).setCell HA4.out.2.1 _).setCell HA4.out.2.1 _)), And.right (HP.out.ever _ ((((HD4.out.setCell HA4.out.2.1 _).setCell HA4.out.2.1 _).setCell HA4.out.2.1 _).setCell HA4.out.2.1 _))⟩) (fun hHeld => ?_); clear hK K; (try simp only [List.getElem_toArray, List.getElem_cons_zero, List.getElem_cons_succ, Act.put, List.setIfInBounds_toArray, List.set_cons_zero, List.set_cons_succ]))
        (refine wpAnyH_ready (rs := [9]) (by kernel_rfl) (by simp) ?_; refine AllReadyH.cons (i := 9) rfl (fun K hK => ?_) AllReadyH.nil)
        go_simp
        (refine hK.out _ _ (⟨And.left (HP.out.ever _ ((((((((HD4.out.setCell HA4.out.2.1 _).setCell HA4.out.2.1 _).setCell HA4.out.2.1 _).setCell HA4.out.2.1 _).setCell HF4.out.2.1 _).setCell HF4.out.2.1 _).setCell HF4.out.2.1 _).setCell HF4.out.2.1 _)), And.right (HP.out.ever _ ((((((((HD4.out.setCell HA4.out.2.1 _).setCell HA4.out.2.1 _).setCell HA4.out.2.1 _).setCell HA4.out.2.1 _).setCell HF4.out.2.1 _).setCell HF4.out.2.1 _).setCell HF4.out.2.1 _).setCell HF4.out.2.1 _))⟩) (fun hHeld => ?_); clear hK K; (try simp only [List.getElem_toArray, List.getElem_cons_zero, List.getElem_cons_succ, Act.put, List.setIfInBounds_toArray, List.set_cons_zero, List.set_cons_succ]))
        (refine wpAnyH_done (by kernel_rfl) ?_ _; refine NoPanic.normal ?_)
        clear hHeld
        go_wp2_with fail
        go_quiet (fail)
        go_wp2_with fail
        refine bodyPost_ret (v := .tuple #[.slice (some ⟨p, 0, none⟩) 4 4, .slice (some ⟨q, 0, none⟩) 4 4, .bool true]) (by simp [results, Try.results47, go_sem]) rfl ?_
        refine ⟨p, q, Nat.le_trans HB0.out.size HA4.out.2.1, Nat.le_trans HB0.out.size HF4.out.2.1, rfl, ?_, ?_, below_drewN (HB0.out.trans (Below.mono ((((((((HD4.out.setCell HA4.out.2.1 _).setCell HA4.out.2.1 _).setCell HA4.out.2.1 _).setCell HA4.out.2.1 _).setCell HF4.out.2.1 _).setCell HF4.out.2.1 _).setCell HF4.out.2.1 _).setCell HF4.out.2.1 _) HB0.out.size)) _⟩
        · refine ⟨?_, ?_, ?_, ?_⟩ <;> first | (go_simp; done) | (simp [z0, z1, z2, z3, y0, y1, y2, y3, hne1, hne2]; done)
        · refine ⟨?_, ?_, ?_, ?_⟩ <;> first | (go_simp; done) | (simp [z0, z1, z2, z3, y0, y1, y2, y3, hne1, hne2]; done)
      · skip
        go_simp
        go_wp2_with fail
        have hb3 := (Below.refl v2.heap.size v2).alloc (Nat.le_refl _) (.cells #[.float .f32 0, .float .f32 0, .float .f32 0, .float .f32 0] 98)
        have HD3 := Lib.hid (HD2.out.trans (hb3.mono HD2.out.size))
        have HA3 := Lib.hid (And.intro ((hb3.block p HA2.out.2.2).trans HA2.out.1) (And.intro HA2.out.2.1 (Nat.lt_of_lt_of_le HA2.out.2.2 hb3.size)))
        have HF3 := Lib.hid (And.intro (heap_alloc_new v2 (.cells #[.float .f32 0, .float .f32 0, .float .f32 0, .float .f32 0] 98)) (And.intro HD2.out.size (show v2.heap.size < (v2.alloc (.cells #[.float .f32 0, .float .f32 0, .float .f32 0, .float .f32 0] 98)).heap.size by simp)))
        have HNE := Lib.hid (Nat.ne_of_lt HA2.out.2.2)
        clear hb3
        generalize v2.alloc (.cells #[.float .f32 0, .float .f32 0, .float .f32 0, .float .f32 0] 98) = v3 at HD3 HF3 HA3 ⊢
        generalize v2.heap.size = q at HF3 HNE ⊢
        (refine hK.out _ _ (⟨(HP.out.ever _ HD3.out).1, (HP.out.ever _ HD3.out).2⟩) (fun hHeld => ?_); clear hK K; (try simp only [List.getElem_toArray, List.getElem_cons_zero, List.getElem_cons_succ, Act.put, List.setIfInBounds_toArray, List.set_cons_zero, List.set_cons_succ]))
        refine wpAnyH_ready (rs := [5]) (by kernel_rfl) (by simp) ?_
        refine (AllReadyH.cons (i := 5) rfl (fun K hK => ?_) AllReadyH.nil)
        go_simp
        refine (iShares_e8 a b ha ha' hb hb' n m n0 n1 m0 m1 _).mono ?_; rintro e v4 ⟨rfl, hb4⟩
        have HD4 := Lib.hid (HD3.out.trans (hb4.mono HD3.out.size))
        have HA4 := Lib.hid (And.intro ((hb4.block p HA3.out.2.2).trans HA3.out.1) (And.intro HA3.out.2.1 (Nat.lt_of_lt_of_le HA3.out.2.2 hb4.size)))
        have HF4 := Lib.hid (And.intro ((hb4.block q HF3.out.2.2).trans HF3.out.1) (And.intro HF3.out.2.1 (Nat.lt_of_lt_of_le HF3.out.2.2 hb4.size)))
        clear hb4
        go_wp2_with fail
        (refine hK.out _ _ (⟨(HP.out.ever _ HD4.out).1, (HP.out.ever _ HD4.out).2⟩) (fun hHeld => ?_); clear hK K; (try simp only [List.getElem_toArray, List.getElem_cons_zero, List.getElem_cons_succ, Act.put, List.setIfInBounds_toArray, List.set_cons_zero, List.set_cons_succ]))
        have hne1 : p ≠ q := by first | exact HNE.out | exact Ne.symm HNE.out
        have hne2 : q ≠ p := Ne.symm hne1
        have z0 : v4.cell? ⟨p, 0, none⟩ = some (.int .i64 0) := by rw [Joins.cell_of_block HA4.out.1]; rfl
        have f0 : v4.frozen? ⟨p, 0, none⟩ = false := by simp [World.frozen?, HA4.out.1]
        have z1 : v4.cell? ⟨p, 1, none⟩ = some (.int .i64 0) := by rw [Joins.cell_of_block HA4.out.1]; rfl
        have f1 : v4.frozen? ⟨p, 1, none⟩ = false := by simp [World.frozen?, HA4.out.1]
        have z2 : v4.cell? ⟨p, 2, none⟩ = some (.int .i64 0) := by rw [Joins.cell_of_block HA4.out.1]; rfl
        have f2 : v4.frozen? ⟨p, 2, none⟩ = false := by simp [World.frozen?, HA4.out.1]
        have z3 : v4.cell? ⟨p, 3, none⟩ = some (.int .i64 0) := by rw [Joins.cell_of_block HA4.out.1]; rfl
        have f3 : v4.frozen? ⟨p, 3, none⟩ = false := by simp [World.frozen?, HA4.out.1]
        have y0 : v4.cell? ⟨q, 0, none⟩ = some (.float .f32 0) := by rw [Joins.cell_of_block HF4.out.1]; rfl
        have g0 : v4.frozen? ⟨q, 0, none⟩ = false := by simp [World.frozen?, HF4.out.1]
        have y1 : v4.cell? ⟨q, 1, none⟩ = some (.float .f32 0) := by rw [Joins.cell_of_block HF4.out.1]; rfl
        have g1 : v4.frozen? ⟨q, 1, none⟩ = false := by simp [World.frozen?, HF4.out.1]
        have y2 : v4.cell? ⟨q, 2, none⟩ = some (.float .f32 0) := by rw [Joins.cell_of_block HF4.out.1]; rfl
        have g2 : v4.frozen? ⟨q, 2, none⟩ = false := by simp [World.frozen?, HF4.out.1]
        have y3 : v4.cell? ⟨q, 3, none⟩ = some (.float .f32 0) := by rw [Joins.cell_of_block HF4.out.1]; rfl
        have g3 : v4.frozen? ⟨q, 3, none⟩ = false := by simp [World.frozen?, HF4.out.1]
        (refine wpAnyH_ready (rs := [8]) (by kernel_rfl) (by simp) ?_; refine AllReadyH.cons (i := 8) rfl (fun K hK => ?_) AllReadyH.nil)
        go_simp
        (refine hK.out _ _ (⟨And.left (HP.out.ever _ ((((HD4.out.setCell HA4.out.2.1 _).setCell HA4.out.2.1 _).setCell HA4.out.2.1 _).setCell HA4.out.2.1 _)), And.right (HP.out.ever _ ((((HD4.out.setCell HA4.out.2.1 _).setCell HA4.out.2.1 _).setCell HA4.out.2.1 _).setCell HA4.out.2.1 _))⟩) (fun hHeld => ?_); clear hK K; (try simp only [List.getElem_toArray, List.getElem_cons_zero, List.getElem_cons_succ, Act.put, List.setIfInBounds_toArray, List.set_cons_zero, List.set_cons_succ]))
        (refine wpAnyH_ready (rs := [9]) (by kernel_rfl) (by simp) ?_; refine AllReadyH.cons (i := 9) rfl (fun K hK => ?_) AllReadyH.nil)
        go_simp
        (refine hK.out _ _ (⟨And.left (HP.out.ever _ ((((((((HD4.out.setCell HA4.out.2.1 _).setCell HA4.out.2.1 _).setCell HA4.out.2.1 _).setCell HA4.out.2.1 _).setCell HF4.out.2.1 _).setCell HF4.out.2.1 _).setCell HF4.out.2.1 _).setCell HF4.out.2.1 _)), And.right (HP.out.ever _ ((((((((HD4.out.setCell HA4.out.2.1 _).setCell HA4.out.2.1 _).setCell HA4.out.2.1 _).setCell HA4.out.2.1 _).setCell HF4.out.2.1 _).setCell HF4.out.2.1 _).setCell HF4.out.2.1 _).setCell HF4.out.2.1 _))⟩) (fun hHeld => ?_); clear hK K; (try simp only [List.getElem_toArray, List.getElem_cons_zero, List.getElem_cons_succ, Act.put, List.setIfInBounds_toArray, List.set_cons_zero, List.set_cons_succ]))
        (refine wpAnyH_done (by kernel_rfl) ?_ _; refine NoPanic.normal ?_)
        clear hHeld
        go_wp2_with fail
        go_quiet (fail)
        go_wp2_with fail
        refine bodyPost_ret (v := .tuple #[.slice (some ⟨p, 0, none⟩) 4 4, .slice (some ⟨q, 0, none⟩) 4 4, .bool true]) (by simp [results, Try.results47, go_sem]) rfl ?_
        refine ⟨p, q, Nat.le_trans HB0.out.size HA4.out.2.1, Nat.le_trans HB0.out.size HF4.out.2.1, rfl, ?_, ?_, below_drewN (HB0.out.trans (Below.mono ((((((((HD4.out.setCell HA4.out.2.1 _).setCell HA4.out.2.1 _).setCell HA4.out.2.1 _).setCell HA4.out.2.1 _).setCell HF4.out.2.1 _).setCell HF4.out.2.1 _).setCell HF4.out.2.1 _).setCell HF4.out.2.1 _) HB0.out.size)) _⟩
        · refine ⟨?_, ?_, ?_, ?_⟩ <;> first | (go_simp; done) | (simp [z0, z1, z2, z3, y0, y1, y2, y3, hne1, hne2]; done)
        · refine ⟨?_, ?_, ?_, ?_⟩ <;> first | (go_simp; done) | (simp [z0, z1, z2, z3, y0, y1, y2, y3, hne1, hne2]; done)
    · skip
      go_simp
      go_wp2_with fail
      have hb2 := (Below.refl v1.heap.size v1).alloc (Nat.le_refl _) (.cells #[.float .f32 0, .float .f32 0, .float .f32 0, .float .f32 0] 98)
      have HD2 := Lib.hid (HD1.out.trans (hb2.mono HD1.out.size))
      have HF2 := Lib.hid (And.intro (heap_alloc_new v1 (.cells #[.float .f32 0, .float .f32 0, .float .f32 0, .float .f32 0] 98)) (And.intro HD1.out.size (show v1.heap.size < (v1.alloc (.cells #[.float .f32 0, .float .f32 0, .float .f32 0, .float .f32 0] 98)).heap.size by simp)))
      clear hb2
      generalize v1.alloc (.cells #[.float .f32 0, .float .f32 0, .float .f32 0, .float .f32 0] 98) = v2 at HD2 HF2 ⊢
      generalize v1.heap.size = q at HF2 ⊢
      (refine hK.out _ _ (⟨(HP.out.ever _ HD2.out).1, (HP.out.ever _ HD2.out).2⟩) (fun hHeld => ?_); clear hK K; (try simp only [List.getElem_toArray, List.getElem_cons_zero, List.getElem_cons_succ, Act.put, List.setIfInBounds_toArray, List.set_cons_zero, List.set_cons_succ]))
      refine wpAnyH_ready (rs := [5, 6]) (by kernel_rfl) (by simp) ?_
      refine (AllReadyH.cons (i := 5) rfl (fun K hK => ?_) (AllReadyH.cons (i := 6) rfl (fun K hK => ?_) AllReadyH.nil))
      · skip
        go_simp
        refine (iShares_e8 a b ha ha' hb hb' n m n0 n1 m0 m1 _).mono ?_; rintro e v3 ⟨rfl, hb3⟩
        have HD3 := Lib.hid (HD2.out.trans (hb3.mono HD2.out.size))
        have HF3 := Lib.hid (And.intro ((hb3.block q HF2.out.2.2).trans HF2.out.1) (And.intro HF2.out.2.1 (Nat.lt_of_lt_of_le HF2.out.2.2 hb3.size)))
        clear hb3
        go_wp2_with fail
        (refine hK.out _ _ (⟨(HP.out.ever _ HD3.out).1, (HP.out.ever _ HD3.out).2⟩) (fun hHeld => ?_); clear hK K; (try simp only [List.getElem_toArray, List.getElem_cons_zero, List.getElem_cons_succ, Act.put, List.setIfInBounds_toArray, List.set_cons_zero, List.set_cons_succ]))
        refine wpAnyH_ready (rs := [6]) (by kernel_rfl) (by simp) ?_
        refine (AllReadyH.cons (i := 6) rfl (fun K hK => ?_) AllReadyH.nil)
        go_simp
        go_wp2_with fail
        have hb4 := (Below.refl v3.heap.size v3).alloc (Nat.le_refl _) (.cells #[.int .i64 0, .int .i64 0, .int .i64 0, .int .i64 0] 96)
        have HD4 := Lib.hid (HD3.out.trans (hb4.mono HD3.out.size))
        have HF4 := Lib.hid (And.intro ((hb4.block q HF3.out.2.2).trans HF3.out.1) (And.intro HF3.out.2.1 (Nat.lt_of_lt_of_le HF3.out.2.2 hb4.size)))
        have HA4 := Lib.hid (And.intro (heap_alloc_new v3 (.cells #[.int .i64 0, .int .i64 0, .int .i64 0, .int .i64 0] 96)) (And.intro HD3.out.size (show v3.heap.size < (v3.alloc (.cells #[.int .i64 0, .int .i64 0, .int .i64 0, .int .i64 0] 96)).heap.size by simp)))
        have HNE := Lib.hid (Nat.ne_of_lt HF3.out.2.2)
        clear hb4
        generalize v3.alloc (.cells #[.int .i64 0, .int .i64 0, .int .i64 0, .int .i64 0] 96) = v4 at HD4 HA4 HF4 ⊢
        generalize v3.heap.size = p at HA4 HNE ⊢
        (refine hK.out _ _ (⟨(HP.out.ever _ HD4.out).1, (HP.out.ever _ HD4.out).2⟩) (fun hHeld => ?_); clear hK K; (try simp only [List.getElem_toArray, List.getElem_cons_zero, List.getElem_cons_succ, Act.put, List.setIfInBounds_toArray, List.set_cons_zero, List.set_cons_succ]))
        have hne1 : p ≠ q := by first | exact HNE.out | exact Ne.symm HNE.out
        have hne2 : q ≠ p := Ne.symm hne1
        have z0 : v4.cell? ⟨p, 0, none⟩ = some (.int .i64 0) := by rw [Joins.cell_of_block HA4.out.1]; rfl
        have f0 : v4.frozen? ⟨p, 0, none⟩ = false := by simp [World.frozen?, HA4.out.1]
        have z1 : v4.cell? ⟨p, 1, none⟩ = some (.int .i64 0) := by rw [Joins.cell_of_block HA4.out.1]; rfl
        have f1 : v4.frozen? ⟨p, 1, none⟩ = false := by simp [World.frozen?, HA4.out.1]
        have z2 : v4.cell? ⟨p, 2, none⟩ = some (.int .i64 0) := by rw [Joins.cell_of_block HA4.out.1]; rfl
        have f2 : v4.frozen? ⟨p, 2, none⟩ = false := by simp [World.frozen?, HA4.out.1]
        have z3 : v4.cell? ⟨p, 3, none⟩ = some (.int .i64 0) := by rw [Joins.cell_of_block HA4.out.1]; rfl
        have f3 : v4.frozen? ⟨p, 3, none⟩ = false := by simp [World.frozen?, HA4.out.1]
        have y0 : v4.cell? ⟨q, 0, none⟩ = some (.float .f32 0) := by rw [Joins.cell_of_block HF4.out.1]; rfl
        have g0 : v4.frozen? ⟨q, 0, none⟩ = false := by simp [World.frozen?, HF4.out.1]
        have y1 : v4.cell? ⟨q, 1, none⟩ = some (.float .f32 0) := by rw [Joins.cell_of_block HF4.out.1]; rfl
        have g1 : v4.frozen? ⟨q, 1, none⟩ = false := by simp [World.frozen?, HF4.out.1]
        have y2 : v4.cell? ⟨q, 2, none⟩ = some (.float .f32 0) := by rw [Joins.cell_of_block HF4.out.1]; rfl
        have g2 : v4.frozen? ⟨q, 2, none⟩ = false := by simp [World.frozen?, HF4.out.1]
        have y3 : v4.cell? ⟨q, 3, none⟩ = some (.float .f32 0) := by rw [Joins.cell_of_block HF4.out.1]; rfl
        have g3 : v4.frozen? ⟨q, 3, none⟩ = false := by simp [World.frozen?, HF4.out.1]
        (refine wpAnyH_ready (rs := [8]) (by kernel_rfl) (by simp) ?_; refine AllReadyH.cons (i := 8) rfl (fun K hK => ?_) AllReadyH.nil)
        go_simp
        (refine hK.out _ _ (⟨And.left (HP.out.ever _ ((((HD4.out.setCell HA4.out.2.1 _).setCell HA4.out.2.1 _).setCell HA4.out.2.1 _).setCell HA4.out.2.1 _)), And.right (HP.out.ever _ ((((HD4.out.setCell HA4.out.2.1 _).setCell HA4.out.2.1 _).setCell HA4.out.2.1 _).setCell HA4.out.2.1 _))⟩) (fun hHeld => ?_); clear hK K; (try simp only [List.getElem_toArray, List.getElem_cons_zero, List.getElem_cons_succ, Act.put, List.setIfInBounds_toArray, List.set_cons_zero, List.set_cons_succ]))
        (refine wpAnyH_ready (rs := [9]) (by kernel_rfl) (by simp) ?_; refine AllReadyH.cons (i := 9) rfl (fun K hK => ?_) AllReadyH.nil)
        go_simp
        (refine hK.out _ _ (⟨And.left (HP.out.ever _ ((((((((HD4.out.setCell HA4.out.2.1 _).setCell HA4.out.2.1 _).setCell HA4.out.2.1 _).setCell HA4.out.2.1 _).setCell HF4.out.2.1 _).setCell HF4.out.2.1 _).setCell HF4.out.2.1 _).setCell HF4.out.2.1 _)), And.right (HP.out.ever _ ((((((((HD4.out.setCell HA4.out.2.1 _).setCell HA4.out.2.1 _).setCell HA4.out.2.1 _).setCell HA4.out.2.1 _).setCell HF4.out.2.1 _).setCell HF4.out.2.1 _).setCell HF4.out.2.1 _).setCell HF4.out.2.1 _))⟩) (fun hHeld => ?_); clear hK K; (try simp only [List.getElem_toArray, List.getElem_cons_zero, List.getElem_cons_succ, Act.put, List.setIfInBounds_toArray, List.set_cons_zero, List.set_cons_succ]))
        (refine wpAnyH_done (by kernel_rfl) ?_ _; refine NoPanic.normal ?_)
        clear hHeld
        go_wp2_with fail
        go_quiet (fail)
        go_wp2_with fail
        refine bodyPost_ret (v := .tuple #[.slice (some ⟨p, 0, none⟩) 4 4, .slice (some ⟨q, 0, none⟩) 4 4, .bool true]) (by simp [results, Try.results47, go_sem]) rfl ?_
        refine ⟨p, q, Nat.le_trans HB0.out.size HA4.out.2.1, Nat.le_trans HB0.out.size HF4.out.2.1, rfl, ?_, ?_, below_drewN (HB0.out.trans (Below.mono ((((((((HD4.out.setCell HA4.out.2.1 _).setCell HA4.out.2.1 _).setCell HA4.out.2.1 _).setCell HA4.out.2.1 _).setCell HF4.out.2.1 _).setCell HF4.out.2.1 _).setCell HF4.out.2.1 _).setCell HF4.out.2.1 _) HB0.out.size)) _⟩
        · refine ⟨?_, ?_, ?_, ?_⟩ <;> first | (go_simp; done) | (simp [z0, z1, z2, z3, y0, y1, y2, y3, hne1, hne2]; done)
        · refine ⟨?_, ?_, ?_, ?_⟩ <;> first | (go_simp; done) | (simp [z0, z1, z2, z3, y0, y1, y2, y3, hne1, hne2]; done)
      · skip
        go_simp
        go_wp2_with fail
        have hb3 := (Below.refl v2.heap.size v2).alloc (Nat.le_refl _) (.cells #[.int .i64 0, .int .i64 0, .int .i64 0, .int .i64 0] 96)
        have HD3 := Lib.hid (HD2.out.trans (hb3.mono HD2.out.size))
        have HF3 := Lib.hid (And.intro ((hb3.block q HF2.out.2.2).trans HF2.out.1) (And.intro HF2.out.2.1 (Nat.lt_of_lt_of_le HF2.out.2.2 hb3.size)))
        have HA3 := Lib.hid (And.intro (heap_alloc_new v2 (.cells #[.int .i64 0, .int .i64 0, .int .i64 0, .int .i64 0] 96)) (And.intro HD2.out.size (show v2.heap.size < (v2.alloc (.cells #[.int .i64 0, .int .i64 0, .int .i64 0, .int .i64 0] 96)).heap.size by simp)))
        have HNE := Lib.hid (Nat.ne_of_lt HF2.out.2.2)
        clear hb3
        generalize v2.alloc (.cells #[.int .i64 0, .int .i64 0, .int .i64 0, .int .i64 0] 96) = v3 at HD3 HA3 HF3 ⊢
        generalize v2.heap.size = p at HA3 HNE ⊢
        (refine hK.out _ _ (⟨(HP.out.ever _ HD3.out).1, (HP.out.ever _ HD3.out).2⟩) (fun hHeld => ?_); clear hK K; (try simp only [List.getElem_toArray, List.getElem_cons_zero, List.getElem_cons_succ, Act.put, List.setIfInBounds_toArray, List.set_cons_zero, List.set_cons_succ]))
        refine wpAnyH_ready (rs := [5]) (by kernel_rfl) (by simp) ?_
        refine (AllReadyH.cons (i := 5) rfl (fun K hK => ?_) AllReadyH.nil)
        go_simp
        refine (iShares_e8 a b ha ha' hb hb' n m n0 n1 m0 m1 _).mono ?_; rintro e v4 ⟨rfl, hb4⟩
        have HD4 := Lib.hid (HD3.out.trans (hb4.mono HD3.out.size))
        have HA4 := Lib.hid (And.intro ((hb4.block p HA3.out.2.2).trans HA3.out.1) (And.intro HA3.out.2.1 (Nat.lt_of_lt_of_le HA3.out.2.2 hb4.size)))
        have HF4 := Lib.hid (And.intro ((hb4.block q HF3.out.2.2).trans HF3.out.1) (And.intro HF3.out.2.1 (Nat.lt_of_lt_of_le HF3.out.2.2 hb4.size)))
        clear hb4
        go_wp2_with fail
        (refine hK.out _ _ (⟨(HP.out.ever _ HD4.out).1, (HP.out.ever _ HD4.out).2⟩) (fun hHeld => ?_); clear hK K; (try simp only [List.getElem_toArray, List.getElem_cons_zero, List.getElem_cons_succ, Act.put, List.setIfInBounds_toArray, List.set_cons_zero, List.set_cons_succ]))
        have hne1 : p ≠ q := by first | exact HNE.out | exact Ne.symm HNE.out
        have hne2 : q ≠ p := Ne.symm hne1
        have z0 : v4.cell? ⟨p, 0, none⟩ = some (.int .i64 0) := by rw [Joins.cell_of_block HA4.out.1]; rfl
        have f0 : v4.frozen? ⟨p, 0, none⟩ = false := by simp [World.frozen?, HA4.out.1]
        have z1 : v4.cell? ⟨p, 1, none⟩ = some (.int .i64 0) := by rw [Joins.cell_of_block HA4.out.1]; rfl
        have f1 : v4.frozen? ⟨p, 1, none⟩ = false := by simp [World.frozen?, HA4.out.1]
        have z2 : v4.cell? ⟨p, 2, none⟩ = some (.int .i64 0) := by rw [Joins.cell_of_block HA4.out.1]; rfl
        have f2 : v4.frozen? ⟨p, 2, none⟩ = false := by simp [World.frozen?, HA4.out.1]
        have z3 : v4.cell? ⟨p, 3, none⟩ = some (.int .i64 0) := by rw [Joins.cell_of_block HA4.out.1]; rfl
        have f3 : v4.frozen? ⟨p, 3, none⟩ = false := by simp [World.frozen?, HA4.out.1]
        have y0 : v4.cell? ⟨q, 0, none⟩ = some (.float .f32 0) := by rw [Joins.cell_of_block HF4.out.1]; rfl
        have g0 : v4.frozen? ⟨q, 0, none⟩ = false := by simp [World.frozen?, HF4.out.1]
        have y1 : v4.cell? ⟨q, 1, none⟩ = some (.float .f32 0) := by rw [Joins.cell_of_block HF4.out.1]; rfl
        have g1 : v4.frozen? ⟨q, 1, none⟩ = false := by simp [World.frozen?, HF4.out.1]
        have y2 : v4.cell? ⟨q, 2, none⟩ = some (.float .f32 0) := by rw [Joins.cell_of_block HF4.out.1]; rfl
        have g2 : v4.frozen? ⟨q, 2, none⟩ = false := by simp [World.frozen?, HF4.out.1]
        have y3 : v4.cell? ⟨q, 3, none⟩ = some (.float .f32 0) := by rw [Joins.cell_of_block HF4.out.1]; rfl
        have g3 : v4.frozen? ⟨q, 3, none⟩ = false := by simp [World.frozen?, HF4.out.1]
        (refine wpAnyH_ready (rs := [8]) (by kernel_rfl) (by simp) ?_; refine AllReadyH.cons (i := 8) rfl (fun K hK => ?_) AllReadyH.nil)
        go_simp
        (refine hK.out _ _ (⟨And.left (HP.out.ever _ ((((HD4.out.setCell HA4.out.2.1 _).setCell HA4.out.2.1 _).setCell HA4.out.2.1 _).setCell HA4.out.2.1 _)), And.right (HP.out.ever _ ((((HD4.out.setCell HA4.out.2.1 _).setCell HA4.out.2.1 _).setCell HA4.out.2.1 _).setCell HA4.out.2.1 _))⟩) (fun hHeld => ?_); clear hK K; (try simp only [List.getElem_toArray, List.getElem_cons_zero, List.getElem_cons_succ, Act.put, List.setIfInBounds_toArray, List.set_cons_zero, List.set_cons_succ]))
        (refine wpAnyH_ready (rs := [9]) (by kernel_rfl) (by simp) ?_; refine AllReadyH.cons (i := 9) rfl (fun K hK => ?_) AllReadyH.nil)
        go_simp
        (refine hK.out _ _ (⟨And.left (HP.out.ever _ ((((((((HD4.out.setCell HA4.out.2.1 _).setCell HA4.out.2.1 _).setCell HA4.out.2.1 _).setCell HA4.out.2.1 _).setCell HF4.out.2.1 _).setCell HF4.out.2.1 _).setCell HF4.out.2.1 _).setCell HF4.out.2.1 _)), And.right (HP.out.ever _ ((((((((HD4.out.setCell HA4.out.2.1 _).setCell HA4.out.2.1 _).setCell HA4.out.2.1 _).setCell HA4.out.2.1 _).setCell HF4.out.2.1 _).setCell HF4.out.2.1 _).setCell HF4.out.2.1 _).setCell HF4.out.2.1 _))⟩) (fun hHeld => ?_); clear hK K; (try simp only [List.getElem_toArray, List.getElem_cons_zero, List.getElem_cons_succ, Act.put, List.setIfInBounds_toArray, List.set_cons_zero, List.set_cons_succ]))
        (refine wpAnyH_done (by kernel_rfl) ?_ _; refine NoPanic.normal ?_)
        clear hHeld
        go_wp2_with fail
        go_quiet (fail)
        go_wp2_with fail
        refine bodyPost_ret (v := .tuple #[.slice (some ⟨p, 0, none⟩) 4 4, .slice (some ⟨q, 0, none⟩) 4 4, .bool true]) (by simp [results, Try.results47, go_sem]) rfl ?_
        refine ⟨p, q, Nat.le_trans HB0.out.size HA4.out.2.1, Nat.le_trans HB0.out.size HF4.out.2.1, rfl, ?_, ?_, below_drewN (HB0.out.trans (Below.mono ((((((((HD4.out.setCell HA4.out.2.1 _).setCell HA4.out.2.1 _).setCell HA4.out.2.1 _).setCell HA4.out.2.1 _).setCell HF4.out.2.1 _).setCell HF4.out.2.1 _).setCell HF4.out.2.1 _).setCell HF4.out.2.1 _) HB0.out.size)) _⟩
        · refine ⟨?_, ?_, ?_, ?_⟩ <;> first | (go_simp; done) | (simp [z0, z1, z2, z3, y0, y1, y2, y3, hne1, hne2]; done)
        · refine ⟨?_, ?_, ?_, ?_⟩ <;> first | (go_simp; done) | (simp [z0, z1, z2, z3, y0, y1, y2, y3, hne1, hne2]; done)
  · skip
    go_simp
    go_wp2_with fail
    have hb1 := (Below.refl v0.heap.size v0).alloc (Nat.le_refl _) (.cells #[.int .i64 0, .int .i64 0, .int .i64 0, .int .i64 0] 96)
    have HD1 := Lib.hid (HD0.out.trans (hb1.mono HD0.out.size))
    have HA1 := Lib.hid (And.intro (heap_alloc_new v0 (.cells #[.int .i64 0, .int .i64 0, .int .i64 0, .int .i64 0] 96)) (And.intro HD0.out.size (show v0.heap.size < (v0.alloc (.cells #[.int .i64 0, .int .i64 0, .int .i64 0, .int .i64 0] 96)).heap.size by simp)))
    clear hb1
    generalize v0.alloc (.cells #[.int .i64 0, .int .i64 0, .int .i64 0, .int .i64 0] 96) = v1 at HD1 HA1 ⊢
    generalize v0.heap.size = p at HA1 ⊢
    (refine hK.out _ _ (⟨(HP.out.ever _ HD1.out).1, (HP.out.ever _ HD1.out).2⟩) (fun hHeld => ?_); clear hK K; (try simp only [List.getElem_toArray, List.getElem_cons_zero, List.getElem_cons_succ, Act.put, List.setIfInBounds_toArray, List.set_cons_zero, List.set_cons_succ]))
    refine wpAnyH_ready (rs := [2, 7]) (by kernel_rfl) (by simp) ?_
    refine (AllReadyH.cons (i := 2) rfl (fun K hK => ?_) (AllReadyH.cons (i := 7) rfl (fun K hK => ?_) AllReadyH.nil))
    · skip
      go_simp
      refine (iCorners_e8 a b ha ha' hb hb' n m n0 n1 m0 m1 _).mono ?_; rintro e v2 ⟨rfl, hb2⟩
      have HD2 := Lib.hid (HD1.out.trans (hb2.mono HD1.out.size))
      have HA2 := Lib.hid (And.intro ((hb2.block p HA1.out.2.2).trans HA1.out.1) (And.intro HA1.out.2.1 (Nat.lt_of_lt_of_le HA1.out.2.2 hb2.size)))
      clear hb2
      go_wp2_with fail
      (refine hK.out _ _ (⟨(HP.out.ever _ HD2.out).1, (HP.out.ever _ HD2.out).2⟩) (fun hHeld => ?_); clear hK K; (try simp only [List.getElem_toArray, List.getElem_cons_zero, List.getElem_cons_succ, Act.put, List.setIfInBounds_toArray, List.set_cons_zero, List.set_cons_succ]))
      refine wpAnyH_ready (rs := [5, 7]) (by kernel_rfl) (by simp) ?_
      refine (AllReadyH.cons (i := 5) rfl (fun K hK => ?_) (AllReadyH.cons (i := 7) rfl (fun K hK => ?_) AllReadyH.nil))
      · skip
        go_simp
        refine (iShares_e8 a b ha ha' hb hb' n m n0 n1 m0 m1 _).mono ?_; rintro e v3 ⟨rfl, hb3⟩
        have HD3 := Lib.hid (HD2.out.trans (hb3.mono HD2.out.size))
        have HA3 := Lib.hid (And.intro ((hb3.block p HA2.out.2.2).trans HA2.out.1) (And.intro HA2.out.2.1 (Nat.lt_of_lt_of_le HA2.out.2.2 hb3.size)))
        clear hb3
        go_wp2_with fail
        (refine hK.out _ _ (⟨(HP.out.ever _ HD3.out).1, (HP.out.ever _ HD3.out).2⟩) (fun hHeld => ?_); clear hK K; (try simp only [List.getElem_toArray, List.getElem_cons_zero, List.getElem_cons_succ, Act.put, List.setIfInBounds_toArray, List.set_cons_zero, List.set_cons_succ]))
        refine wpAnyH_ready (rs := [7]) (by kernel_rfl) (by simp) ?_
        refine (AllReadyH.cons (i := 7) rfl (fun K hK => ?_) AllReadyH.nil)
        go_simp
        go_wp2_with fail
        have hb4 := (Below.refl v3.heap.size v3).alloc (Nat.le_refl _) (.cells #[.float .f32 0, .float .f32 0, .float .f32 0, .float .f32 0] 98)
        have HD4 := Lib.hid (HD3.out.trans (hb4.mono HD3.out.size))
        have HA4 := Lib.hid (And.intro ((hb4.block p HA3.out.2.2).trans HA3.out.1) (And.intro HA3.out.2.1 (Nat.lt_of_lt_of_le HA3.out.2.2 hb4.size)))
        have HF4 := Lib.hid (And.intro (heap_alloc_new v3 (.cells #[.float .f32 0, .float .f32 0, .float .f32 0, .float .f32 0] 98)) (And.intro HD3.out.size (show v3.heap.size < (v3.alloc (.cells #[.float .f32 0, .float .f32 0, .float .f32 0, .float .f32 0] 98)).heap.size by simp)))
        have HNE := Lib.hid (Nat.ne_of_lt HA3.out.2.2)
        clear hb4
        generalize v3.alloc (.cells #[.float .f32 0, .float .f32 0, .float .f32 0, .float .f32 0] 98) = v4 at HD4 HF4 HA4 ⊢
        generalize v3.heap.size = q at HF4 HNE ⊢
        (refine hK.out _ _ (⟨(HP.out.ever _ HD4.out).1, (HP.out.ever _ HD4.out).2⟩) (fun hHeld => ?_); clear hK K; (try simp only [List.getElem_toArray, List.getElem_cons_zero, List.getElem_cons_succ, Act.put, List.setIfInBounds_toArray, List.set_cons_zero, List.set_cons_succ]))
        have hne1 : p ≠ q := by first | exact HNE.out | exact Ne.symm HNE.out
        have hne2 : q ≠ p := Ne.symm hne1
        have z0 : v4.cell? ⟨p, 0, none⟩ = some (.int .i64 0) := by rw [Joins.cell_of_block HA4.out.1]; rfl
        have f0 : v4.frozen? ⟨p, 0, none⟩ = false := by simp [World.frozen?, HA4.out.1]
        have z1 : v4.cell? ⟨p, 1, none⟩ = some (.int .i64 0) := by rw [Joins.cell_of_block HA4.out.1]; rfl
        have f1 : v4.frozen? ⟨p, 1, none⟩ = false := by simp [World.frozen?, HA4.out.1]
        have z2 : v4.cell? ⟨p, 2, none⟩ = some (.int .i64 0) := by rw [Joins.cell_of_block HA4.out.1]; rfl
        have f2 : v4.frozen? ⟨p, 2, none⟩ = false := by simp [World.frozen?, HA4.out.1]
        have z3 : v4.cell? ⟨p, 3, none⟩ = some (.int .i64 0) := by rw [Joins.cell_of_block HA4.out.1]; rfl
        have f3 : v4.frozen? ⟨p, 3, none⟩ = false := by simp [World.frozen?, HA4.out.1]
        have y0 : v4.cell? ⟨q, 0, none⟩ = some (.float .f32 0) := by rw [Joins.cell_of_block HF4.out.1]; rfl
        have g0 : v4.frozen? ⟨q, 0, none⟩ = false := by simp [World.frozen?, HF4.out.1]
        have y1 : v4.cell? ⟨q, 1, none⟩ = some (.float .f32 0) := by rw [Joins.cell_of_block HF4.out.1]; rfl
        have g1 : v4.frozen? ⟨q, 1, none⟩ = false := by simp [World.frozen?, HF4.out.1]
        have y2 : v4.cell? ⟨q, 2, none⟩ = some (.float .f32 0) := by rw [Joins.cell_of_block HF4.out.1]; rfl
        have g2 : v4.frozen? ⟨q, 2, none⟩ = false := by simp [World.frozen?, HF4.out.1]
        have y3 : v4.cell? ⟨q, 3, none⟩ = some (.float .f32 0) := by rw [Joins.cell_of_block HF4.out.1]; rfl
        have g3 : v4.frozen? ⟨q, 3, none⟩ = false := by simp [World.frozen?, HF4.out.1]
        (refine wpAnyH_ready (rs := [8]) (by kernel_rfl) (by simp) ?_; refine AllReadyH.cons (i := 8) rfl (fun K hK => ?_) AllReadyH.nil)
        go_simp
        (refine hK.out _ _ (⟨And.left (HP.out.ever _ ((((HD4.out.setCell HA4.out.2.1 _).setCell HA4.out.2.1 _).setCell HA4.out.2.1 _).setCell HA4.out.2.1 _)), And.right (HP.out.ever _ ((((HD4.out.setCell HA4.out.2.1 _).setCell HA4.out.2.1 _).setCell HA4.out.2.1 _).setCell HA4.out.2.1 _))⟩) (fun hHeld => ?_); clear hK K; (try simp only [List.getElem_toArray, List.getElem_cons_zero, List.getElem_cons_succ, Act.put, List.setIfInBounds_toArray, List.set_cons_zero, List.set_cons_succ]))
        (refine wpAnyH_ready (rs := [9]) (by kernel_rfl) (by simp) ?_; refine AllReadyH.cons (i := 9) rfl (fun K hK => ?_) AllReadyH.nil)
        go_simp
        (refine hK.out _ _ (⟨And.left (HP.out.ever _ ((((((((HD4.out.setCell HA4.out.2.1 _).setCell HA4.out.2.1 _).setCell HA4.out.2.1 _).setCell HA4.out.2.1 _).setCell HF4.out.2.1 _).setCell HF4.out.2.1 _).setCell HF4.out.2.1 _).setCell HF4.out.2.1 _)), And.right (HP.out.ever _ ((((((((HD4.out.setCell HA4.out.2.1 _).setCell HA4.out.2.1 _).setCell HA4.out.2.1 _).setCell HA4.out.2.1 _).setCell HF4.out.2.1 _).setCell HF4.out.2.1 _).setCell HF4.out.2.1 _).setCell HF4.out.2.1 _))⟩) (fun hHeld => ?_); clear hK K; (try simp only [List.getElem_toArray, List.getElem_cons_zero, List.getElem_cons_succ, Act.put, List.setIfInBounds_toArray, List.set_cons_zero, List.set_cons_succ]))
        (refine wpAnyH_done (by kernel_rfl) ?_ _; refine NoPanic.normal ?_)
        clear hHeld
        go_wp2_with fail
        go_quiet (fail)
        go_wp2_with fail
        refine bodyPost_ret (v := .tuple #[.slice (some ⟨p, 0, none⟩) 4 4, .slice (some ⟨q, 0, none⟩) 4 4, .bool true]) (by simp [results, Try.results47, go_sem]) rfl ?_
        refine ⟨p, q, Nat.le_trans HB0.out.size HA4.out.2.1, Nat.le_trans HB0.out.size HF4.out.2.1, rfl, ?_, ?_, below_drewN (HB0.out.trans (Below.mono ((((((((HD4.out.setCell HA4.out.2.1 _).setCell HA4.out.2.1 _).setCell HA4.out.2.1 _).setCell HA4.out.2.1 _).setCell HF4.out.2.1 _).setCell HF4.out.2.1 _).setCell HF4.out.2.1 _).setCell HF4.out.2.1 _) HB0.out.size)) _⟩
        · refine ⟨?_, ?_, ?_, ?_⟩ <;> first | (go_simp; done) | (simp [z0, z1, z2, z3, y0, y1, y2, y3, hne1, hne2]; done)
        · refine ⟨?_, ?_, ?_, ?_⟩ <;> first | (go_simp; done) | (simp [z0, z1, z2, z3, y0, y1, y2, y3, hne1, hne2]; done)
      · skip
        go_simp
        go_wp2_with fail
        have hb3 := (Below.refl v2.heap.size v2).alloc (Nat.le_refl _) (.cells #[.float .f32 0, .float .f32 0, .float .f32 0, .float .f32 0] 98)
        have HD3 := Lib.hid (HD2.out.trans (hb3.mono HD2.out.size))
        have HA3 := Lib.hid (And.intro ((hb3.block p HA2.out.2.2).trans HA2.out.1) (And.intro HA2.out.2.1 (Nat.lt_of_lt_of_le HA2.out.2.2 hb3.size)))
        have HF3 := Lib.hid (And.intro (heap_alloc_new v2 (.cells #[.float .f32 0, .float .f32 0, .float .f32 0, .float .f32 0] 98)) (And.intro HD2.out.size (show v2.heap.size < (v2.alloc (.cells #[.float .f32 0, .float .f32 0, .float .f32 0, .float .f32 0] 98)).heap.size by simp)))
        have HNE := Lib.hid (Nat.ne_of_lt HA2.out.2.2)
        clear hb3
        generalize v2.alloc (.cells #[.float .f32 0, .float .f32 0, .float .f32 0, .float .f32 0] 98) = v3 at HD3 HF3 HA3 ⊢
        generalize v2.heap.size = q at HF3 HNE ⊢
        (refine hK.out _ _ (⟨(HP.out.ever _ HD3.out).1, (HP.out.ever _ HD3.out).2⟩) (fun hHeld => ?_); clear hK K; (try simp only [List.getElem_toArray, List.getElem_cons_zero, List.getElem_cons_succ, Act.put, List.setIfInBounds_toArray, List.set_cons_zero, List.set_cons_succ]))
        refine wpAnyH_ready (rs := [5]) (by kernel_rfl) (by simp) ?_
        refine (AllReadyH.cons (i := 5) rfl (fun K hK => ?_) AllReadyH.nil)
        go_simp
        refine (iShares_e8 a b ha ha' hb hb' n m n0 n1 m0 m1 _).mono ?_; rintro e v4 ⟨rfl, hb4⟩
        have HD4 := Lib.hid (HD3.out.trans (hb4.mono HD3.out.size))
        have HA4 := Lib.hid (And.intro ((hb4.block p HA3.out.2.2).trans HA3.out.1) (And.intro HA3.out.2.1 (Nat.lt_of_lt_of_le HA3.out.2.2 hb4.size)))
        have HF4 := Lib.hid (And.intro ((hb4.block q HF3.out.2.2).trans HF3.out.1) (And.intro HF3.out.2.1 (Nat.lt_of_lt_of_le HF3.out.2.2 hb4.size)))
        clear hb4
        go_wp2_with fail
        (refine hK.out _ _ (⟨(HP.out.ever _ HD4.out).1, (HP.out.ever _ HD4.out).2⟩) (fun hHeld => ?_); clear hK K; (try simp only [List.getElem_toArray, List.getElem_cons_zero, List.getElem_cons_succ, Act.put, List.setIfInBounds_toArray, List.set_cons_zero, List.set_cons_succ]))
        have hne1 : p ≠ q := by first | exact HNE.out | exact Ne.symm HNE.out
        have hne2 : q ≠ p := Ne.symm hne1
        have z0 : v4.cell? ⟨p, 0, none⟩ = some (.int .i64 0) := by rw [Joins.cell_of_block HA4.out.1]; rfl
        have f0 : v4.frozen? ⟨p, 0, none⟩ = false := by simp [World.frozen?, HA4.out.1]
        have z1 : v4.cell? ⟨p, 1, none⟩ = some (.int .i64 0) := by rw [Joins.cell_of_block HA4.out.1]; rfl
        have f1 : v4.frozen? ⟨p, 1, none⟩ = false := by simp [World.frozen?, HA4.out.1]
        have z2 : v4.cell? ⟨p, 2, none⟩ = some (.int .i64 0) := by rw [Joins.cell_of_block HA4.out.1]; rfl
        have f2 : v4.frozen? ⟨p, 2, none⟩ = false := by simp [World.frozen?, HA4.out.1]
        have z3 : v4.cell? ⟨p, 3, none⟩ = some (.int .i64 0) := by rw [Joins.cell_of_block HA4.out.1]; rfl
        have f3 : v4.frozen? ⟨p, 3, none⟩ = false := by simp [World.frozen?, HA4.out.1]
        have y0 : v4.cell? ⟨q, 0, none⟩ = some (.float .f32 0) := by rw [Joins.cell_of_block HF4.out.1]; rfl
        have g0 : v4.frozen? ⟨q, 0, none⟩ = false := by simp [World.frozen?, HF4.out.1]
        have y1 : v4.cell? ⟨q, 1, none⟩ = some (.float .f32 0) := by rw [Joins.cell_of_block HF4.out.1]; rfl
        have g1 : v4.frozen? ⟨q, 1, none⟩ = false := by simp [World.frozen?, HF4.out.1]
        have y2 : v4.cell? ⟨q, 2, none⟩ = some (.float .f32 0) := by rw [Joins.cell_of_block HF4.out.1]; rfl
        have g2 : v4.frozen? ⟨q, 2, none⟩ = false := by simp [World.frozen?, HF4.out.1]
        have y3 : v4.cell? ⟨q, 3, none⟩ = some (.float .f32 0) := by rw [Joins.cell_of_block HF4.out.1]; rfl
        have g3 : v4.frozen? ⟨q, 3, none⟩ = false := by simp [World.frozen?, HF4.out.1]
        (refine wpAnyH_ready (rs := [8]) (by kernel_rfl) (by simp) ?_; refine AllReadyH.cons (i := 8) rfl (fun K hK => ?_) AllReadyH.nil)
        go_simp
        (refine hK.out _ _ (⟨And.left (HP.out.ever _ ((((HD4.out.setCell HA4.out.2.1 _).setCell HA4.out.2.1 _).setCell HA4.out.2.1 _).setCell HA4.out.2.1 _)), And.right (HP.out.ever _ ((((HD4.out.setCell HA4.out.2.1 _).setCell HA4.out.2.1 _).setCell HA4.out.2.1 _).setCell HA4.out.2.1 _))⟩) (fun hHeld => ?_); clear hK K; (try simp only [List.getElem_toArray, List.getElem_cons_zero, List.getElem_cons_succ, Act.put, List.setIfInBounds_toArray, List.set_cons_zero, List.set_cons_succ]))
        (refine wpAnyH_ready (rs := [9]) (by kernel_rfl) (by simp) ?_; refine AllReadyH.cons (i := 9) rfl (fun K hK => ?_) AllReadyH.nil)
        go_simp
        (refine hK.out _ _ (⟨And.left (HP.out.ever _ ((((((((HD4.out.setCell HA4.out.2.1 _).setCell HA4.out.2.1 _).setCell HA4.out.2.1 _).setCell HA4.out.2.1 _).setCell HF4.out.2.1 _).setCell HF4.out.2.1 _).setCell HF4.out.2.1 _).setCell HF4.out.2.1 _)), And.right (HP.out.ever _ ((((((((HD4.out.setCell HA4.out.2.1 _).setCell HA4.out.2.1 _).setCell HA4.out.2.1 _).setCell HA4.out.2.1 _).setCell HF4.out.2.1 _).setCell HF4.out.2.1 _).setCell HF4.out.2.1 _).setCell HF4.out.2.1 _))⟩) (fun hHeld => ?_); clear hK K; (try simp only [List.getElem_toArray, List.getElem_cons_zero, List.getElem_cons_succ, Act.put, List.setIfInBounds_toArray, List.set_cons_zero, List.set_cons_succ]))
        (refine wpAnyH_done (by kernel_rfl) ?_ _; refine NoPanic.normal ?_)
        clear hHeld
        go_wp2_with fail
        go_quiet (fail)
        go_wp2_with fail
        refine bodyPost_ret (v := .tuple #[.slice (some ⟨p, 0, none⟩) 4 4, .slice (some ⟨q, 0, none⟩) 4 4, .bool true]) (by simp [results, Try.results47, go_sem]) rfl ?_
        refine ⟨p, q, Nat.le_trans HB0.out.size HA4.out.2.1, Nat.le_trans HB0.out.size HF4.out.2.1, rfl, ?_, ?_, below_drewN (HB0.out.trans (Below.mono ((((((((HD4.out.setCell HA4.out.2.1 _).setCell HA4.out.2.1 _).setCell HA4.out.2.1 _).setCell HA4.out.2.1 _).setCell HF4.out.2.1 _).setCell HF4.out.2.1 _).setCell HF4.out.2.1 _).setCell HF4.out.2.1 _) HB0.out.size)) _⟩
        · refine ⟨?_, ?_, ?_, ?_⟩ <;> first | (go_simp; done) | (simp [z0, z1, z2, z3, y0, y1, y2, y3, hne1, hne2]; done)
        · refine ⟨?_, ?_, ?_, ?_⟩ <;> first | (go_simp; done) | (simp [z0, z1, z2, z3, y0, y1, y2, y3, hne1, hne2]; done)
    · skip
      go_simp
      go_wp2_with fail
      have hb2 := (Below.refl v1.heap.size v1).alloc (Nat.le_refl _) (.cells #[.float .f32 0, .float .f32 0, .float .f32 0, .float .f32 0] 98)
      have HD2 := Lib.hid (HD1.out.trans (hb2.mono HD1.out.size))
      have HA2 := Lib.hid (And.intro ((hb2.block p HA1.out.2.2).trans HA1.out.1) (And.intro HA1.out.2.1 (Nat.lt_of_lt_of_le HA1.out.2.2 hb2.size)))
      have HF2 := Lib.hid (And.intro (heap_alloc_new v1 (.cells #[.float .f32 0, .float .f32 0, .float .f32 0, .float .f32 0] 98)) (And.intro HD1.out.size (show v1.heap.size < (v1.alloc (.cells #[.float .f32 0, .float .f32 0, .float .f32 0, .float .f32 0] 98)).heap.size by simp)))
      have HNE := Lib.hid (Nat.ne_of_lt HA1.out.2.2)
      clear hb2
      generalize v1.alloc (.cells #[.float .f32 0, .float .f32 0, .float .f32 0, .float .f32 0] 98) = v2 at HD2 HF2 HA2 ⊢
      generalize v1.heap.size = q at HF2 HNE ⊢
      (refine hK.out _ _ (⟨(HP.out.ever _ HD2.out).1, (HP.out.ever _ HD2.out).2⟩) (fun hHeld => ?_); clear hK K; (try simp only [List.getElem_toArray, List.getElem_cons_zero, List.getElem_cons_succ, Act.put, List.setIfInBounds_toArray, List.set_cons_zero, List.set_cons_succ]))
      refine wpAnyH_ready (rs := [2]) (by kernel_rfl) (by simp) ?_
      refine (AllReadyH.cons (i := 2) rfl (fun K hK => ?_) AllReadyH.nil)
      go_simp
      refine (iCorners_e8 a b ha ha' hb hb' n m n0 n1 m0 m1 _).mono ?_; rintro e v3 ⟨rfl, hb3⟩
      have HD3 := Lib.hid (HD2.out.trans (hb3.mono HD2.out.size))
      have HA3 := Lib.hid (And.intro ((hb3.block p HA2.out.2.2).trans HA2.out.1) (And.intro HA2.out.2.1 (Nat.lt_of_lt_of_le HA2.out.2.2 hb3.size)))
      have HF3 := Lib.hid (And.intro ((hb3.block q HF2.out.2.2).trans HF2.out.1) (And.intro HF2.out.2.1 (Nat.lt_of_lt_of_le HF2.out.2.2 hb3.size)))
      clear hb3
      go_wp2_with fail
      (refine hK.out _ _ (⟨(HP.out.ever _ HD3.out).1, (HP.out.ever _ HD3.out).2⟩) (fun hHeld => ?_); clear hK K; (try simp only [List.getElem_toArray, List.getElem_cons_zero, List.getElem_cons_succ, Act.put, List.setIfInBounds_toArray, List.set_cons_zero, List.set_cons_succ]))
      refine wpAnyH_ready (rs := [5]) (by kernel_rfl) (by simp) ?_
      refine (AllReadyH.cons (i := 5) rfl (fun K hK => ?_) AllReadyH.nil)
      go_simp
      refine (iShares_e8 a b ha ha' hb hb' n m n0 n1 m0 m1 _).mono ?_; rintro e v4 ⟨rfl, hb4⟩
      have HD4 := Lib.hid (HD3.out.trans (hb4.mono HD3.out.size))
      have HA4 := Lib.hid (And.intro ((hb4.block p HA3.out.2.2).trans HA3.out.1) (And.intro HA3.out.2.1 (Nat.lt_of_lt_of_le HA3.out.2.2 hb4.size)))
      have HF4 := Lib.hid (And.intro ((hb4.block q HF3.out.2.2).trans HF3.out.1) (And.intro HF3.out.2.1 (Nat.lt_of_lt_of_le HF3.out.2.2 hb4.size)))
      clear hb4
      go_wp2_with fail
      (refine hK.out _ _ (⟨(HP.out.ever _ HD4.out).1, (HP.out.ever _ HD4.out).2⟩) (fun hHeld => ?_); clear hK K; (try simp only [List.getElem_toArray, List.getElem_cons_zero, List.getElem_cons_succ, Act.put, List.setIfInBounds_toArray, List.set_cons_zero, List.set_cons_succ]))
      have hne1 : p ≠ q := by first | exact HNE.out | exact Ne.symm HNE.out
      have hne2 : q ≠ p := Ne.symm hne1
      have z0 : v4.cell? ⟨p, 0, none⟩ = some (.int .i64 0) := by rw [Joins.cell_of_block HA4.out.1]; rfl
      have f0 : v4.frozen? ⟨p, 0, none⟩ = false := by simp [World.frozen?, HA4.out.1]
      have z1 : v4.cell? ⟨p, 1, none⟩ = some (.int .i64 0) := by rw [Joins.cell_of_block HA4.out.1]; rfl
      have f1 : v4.frozen? ⟨p, 1, none⟩ = false := by simp [World.frozen?, HA4.out.1]
      have z2 : v4.cell? ⟨p, 2, none⟩ = some (.int .i64 0) := by rw [Joins.cell_of_block HA4.out.1]; rfl
      have f2 : v4.frozen? ⟨p, 2, none⟩ = false := by simp [World.frozen?, HA4.out.1]
      have z3 : v4.cell? ⟨p, 3, none⟩ = some (.int .i64 0) := by rw [Joins.cell_of_block HA4.out.1]; rfl
      have f3 : v4.frozen? ⟨p, 3, none⟩ = false := by simp [World.frozen?, HA4.out.1]
      have y0 : v4.cell? ⟨q, 0, none⟩ = some (.float .f32 0) := by rw [Joins.cell_of_block HF4.out.1]; rfl
      have g0 : v4.frozen? ⟨q, 0, none⟩ = false := by simp [World.frozen?, HF4.out.1]
      have y1 : v4.cell? ⟨q, 1, none⟩ = some (.float .f32 0) := by rw [Joins.cell_of_block HF4.out.1]; rfl
      have g1 : v4.frozen? ⟨q, 1, none⟩ = false := by simp [World.frozen?, HF4.out.1]
      have y2 : v4.cell? ⟨q, 2, none⟩ = some (.float .f32 0) := by rw [Joins.cell_of_block HF4.out.1]; rfl
      have g2 : v4.frozen? ⟨q, 2, none⟩ = false := by simp [World.frozen?, HF4.out.1]
      have y3 : v4.cell? ⟨q, 3, none⟩ = some (.float .f32 0) := by rw [Joins.cell_of_block HF4.out.1]; rfl
      have g3 : v4.frozen? ⟨q, 3, none⟩ = false := by simp [World.frozen?, HF4.out.1]
      (refine wpAnyH_ready (rs := [8]) (by kernel_rfl) (by simp) ?_; refine AllReadyH.cons (i := 8) rfl (fun K hK => ?_) AllReadyH.nil)
      go_simp
      (refine hK.out _ _ (⟨And.left (HP.out.ever _ ((((HD4.out.setCell HA4.out.2.1 _).setCell HA4.out.2.1 _).setCell HA4.out.2.1 _).setCell HA4.out.2.1 _)), And.right (HP.out.ever _ ((((HD4.out.setCell HA4.out.2.1 _).setCell HA4.out.2.1 _).setCell HA4.out.2.1 _).setCell HA4.out.2.1 _))⟩) (fun hHeld => ?_); clear hK K; (try simp only [List.getElem_toArray, List.getElem_cons_zero, List.getElem_cons_succ, Act.put, List.setIfInBounds_toArray, List.set_cons_zero, List.set_cons_succ]))
      (refine wpAnyH_ready (rs := [9]) (by kernel_rfl) (by simp) ?_; refine AllReadyH.cons (i := 9) rfl (fun K hK => ?_) AllReadyH.nil)
      go_simp
      (refine hK.out _ _ (⟨And.left (HP.out.ever _ ((((((((HD4.out.setCell HA4.out.2.1 _).setCell HA4.out.2.1 _).setCell HA4.out.2.1 _).setCell HA4.out.2.1 _).setCell HF4.out.2.1 _).setCell HF4.out.2.1 _).setCell HF4.out.2.1 _).setCell HF4.out.2.1 _)), And.right (HP.out.ever _ ((((((((HD4.out.setCell HA4.out.2.1 _).setCell HA4.out.2.1 _).setCell HA4.out.2.1 _).setCell HA4.out.2.1 _).setCell HF4.out.2.1 _).setCell HF4.out.2.1 _).setCell HF4.out.2.1 _).setCell HF4.out.2.1 _))⟩) (fun hHeld => ?_); clear hK K; (try simp only [List.getElem_toArray, List.getElem_cons_zero, List.getElem_cons_succ, Act.put, List.setIfInBounds_toArray, List.set_cons_zero, List.set_cons_succ]))
      (refine wpAnyH_done (by kernel_rfl) ?_ _; refine NoPanic.normal ?_)
      clear hHeld
      go_wp2_with fail
      go_quiet (fail)
      go_wp2_with fail
      refine bodyPost_ret (v := .tuple #[.slice (some ⟨p, 0, none⟩) 4 4, .slice (some ⟨q, 0, none⟩) 4 4, .bool true]) (by simp [results, Try.results47, go_sem]) rfl ?_
      refine ⟨p, q, Nat.le_trans HB0.out.size HA4.out.2.1, Nat.le_trans HB0.out.size HF4.out.2.1, rfl, ?_, ?_, below_drewN (HB0.out.trans (Below.mono ((((((((HD4.out.setCell HA4.out.2.1 _).setCell HA4.out.2.1 _).setCell HA4.out.2.1 _).setCell HA4.out.2.1 _).setCell HF4.out.2.1 _).setCell HF4.out.2.1 _).setCell HF4.out.2.1 _).setCell HF4.out.2.1 _) HB0.out.size)) _⟩
      · refine ⟨?_, ?_, ?_, ?_⟩ <;> first | (go_simp; done) | (simp [z0, z1, z2, z3, y0, y1, y2, y3, hne1, hne2]; done)
      · refine ⟨?_, ?_, ?_, ?_⟩ <;> first | (go_simp; done) | (simp [z0, z1, z2, z3, y0, y1, y2, y3, hne1, hne2]; done)
  · skip
    go_simp
    go_wp2_with fail
    have hb1 := (Below.refl v0.heap.size v0).alloc (Nat.le_refl _) (.cells #[.float .f32 0, .float .f32 0, .float .f32 0, .float .f32 0] 98)
    have HD1 := Lib.hid (HD0.out.trans (hb1.mono HD0.out.size))
    have HF1 := Lib.hid (And.intro (heap_alloc_new v0 (.cells #[.float .f32 0, .float .f32 0, .float .f32 0, .float .f32 0] 98)) (And.intro HD0.out.size (show v0.heap.size < (v0.alloc (.cells #[.float .f32 0, .float .f32 0, .float .f32 0, .float .f32 0] 98)).heap.size by simp)))
    clear hb1
    generalize v0.alloc (.cells #[.float .f32 0, .float .f32 0, .float .f32 0, .float .f32 0] 98) = v1 at HD1 HF1 ⊢
    generalize v0.heap.size = q at HF1 ⊢
    (refine hK.out _ _ (⟨(HP.out.ever _ HD1.out).1, (HP.out.ever _ HD1.out).2⟩) (fun hHeld => ?_); clear hK K; (try simp only [List.getElem_toArray, List.getElem_cons_zero, List.getElem_cons_succ, Act.put, List.setIfInBounds_toArray, List.set_cons_zero, List.set_cons_succ]))
    refine wpAnyH_ready (rs := [2, 6]) (by kernel_rfl) (by simp) ?_
    refine (AllReadyH.cons (i := 2) rfl (fun K hK => ?_) (AllReadyH.cons (i := 6) rfl (fun K hK => ?_) AllReadyH.nil))
    · skip
      go_simp
      refine (iCorners_e8 a b ha ha' hb hb' n m n0 n1 m0 m1 _).mono ?_; rintro e v2 ⟨rfl, hb2⟩
      have HD2 := Lib.hid (HD1.out.trans (hb2.mono HD1.out.size))
      have HF2 := Lib.hid (And.intro ((hb2.block q HF1.out.2.2).trans HF1.out.1) (And.intro HF1.out.2.1 (Nat.lt_of_lt_of_le HF1.out.2.2 hb2.size)))
      clear hb2
      go_wp2_with fail
      (refine hK.out _ _ (⟨(HP.out.ever _ HD2.out).1, (HP.out.ever _ HD2.out).2⟩) (fun hHeld => ?_); clear hK K; (try simp only [List.getElem_toArray, List.getElem_cons_zero, List.getElem_cons_succ, Act.put, List.setIfInBounds_toArray, List.set_cons_zero, List.set_cons_succ]))
      refine wpAnyH_ready (rs := [5, 6]) (by kernel_rfl) (by simp) ?_
      refine (AllReadyH.cons (i := 5) rfl (fun K hK => ?_) (AllReadyH.cons (i := 6) rfl (fun K hK => ?_) AllReadyH.nil))
      · skip
        go_simp
        refine (iShares_e8 a b ha ha' hb hb' n m n0 n1 m0 m1 _).mono ?_; rintro e v3 ⟨rfl, hb3⟩
        have HD3 := Lib.hid (HD2.out.trans (hb3.mono HD2.out.size))
        have HF3 := Lib.hid (And.intro ((hb3.block q HF2.out.2.2).trans HF2.out.1) (And.intro HF2.out.2.1 (Nat.lt_of_lt_of_le HF2.out.2.2 hb3.size)))
        clear hb3
        go_wp2_with fail
        (refine hK.out _ _ (⟨(HP.out.ever _ HD3.out).1, (HP.out.ever _ HD3.out).2⟩) (fun hHeld => ?_); clear hK K; (try simp only [List.getElem_toArray, List.getElem_cons_zero, List.getElem_cons_succ, Act.put, List.setIfInBounds_toArray, List.set_cons_zero, List.set_cons_succ]))
        refine wpAnyH_ready (rs := [6]) (by kernel_rfl) (by simp) ?_
        refine (AllReadyH.cons (i := 6) rfl (fun K hK => ?_) AllReadyH.nil)
        go_simp
        go_wp2_with fail
        have hb4 := (Below.refl v3.heap.size v3).alloc (Nat.le_refl _) (.cells #[.int .i64 0, .int .i64 0, .int .i64 0, .int .i64 0] 96)
        have HD4 := Lib.hid (HD3.out.trans (hb4.mono HD3.out.size))
        have HF4 := Lib.hid (And.intro ((hb4.block q HF3.out.2.2).trans HF3.out.1) (And.intro HF3.out.2.1 (Nat.lt_of_lt_of_le HF3.out.2.2 hb4.size)))
        have HA4 := Lib.hid (And.intro (heap_alloc_new v3 (.cells #[.int .i64 0, .int .i64 0, .int .i64 0, .int .i64 0] 96)) (And.intro HD3.out.size (show v3.heap.size < (v3.alloc (.cells #[.int .i64 0, .int .i64 0, .int .i64 0, .int .i64 0] 96)).heap.size by simp)))
        have HNE := Lib.hid (Nat.ne_of_lt HF3.out.2.2)
        clear hb4
        generalize v3.alloc (.cells #[.int .i64 0, .int .i64 0, .int .i64 0, .int .i64 0] 96) = v4 at HD4 HA4 HF4 ⊢
        generalize v3.heap.size = p at HA4 HNE ⊢
        (refine hK.out _ _ (⟨(HP.out.ever _ HD4.out).1, (HP.out.ever _ HD4.out).2⟩) (fun hHeld => ?_); clear hK K; (try simp only [List.getElem_toArray, List.getElem_cons_zero, List.getElem_cons_succ, Act.put, List.setIfInBounds_toArray, List.set_cons_zero, List.set_cons_succ]))
        have hne1 : p ≠ q := by first | exact HNE.out | exact Ne.symm HNE.out
        have hne2 : q ≠ p := Ne.symm hne1
        have z0 : v4.cell? ⟨p, 0, none⟩ = some (.int .i64 0) := by rw [Joins.cell_of_block HA4.out.1]; rfl
        have f0 : v4.frozen? ⟨p, 0, none⟩ = false := by simp [World.frozen?, HA4.out.1]
        have z1 : v4.cell? ⟨p, 1, none⟩ = some (.int .i64 0) := by rw [Joins.cell_of_block HA4.out.1]; rfl
        have f1 : v4.frozen? ⟨p, 1, none⟩ = false := by simp [World.frozen?, HA4.out.1]
        have z2 : v4.cell? ⟨p, 2, none⟩ = some (.int .i64 0) := by rw [Joins.cell_of_block HA4.out.1]; rfl
        have f2 : v4.frozen? ⟨p, 2, none⟩ = false := by simp [World.frozen?, HA4.out.1]
        have z3 : v4.cell? ⟨p, 3, none⟩ = some (.int .i64 0) := by rw [Joins.cell_of_block HA4.out.1]; rfl
        have f3 : v4.frozen? ⟨p, 3, none⟩ = false := by simp [World.frozen?, HA4.out.1]
        have y0 : v4.cell? ⟨q, 0, none⟩ = some (.float .f32 0) := by rw [Joins.cell_of_block HF4.out.1]; rfl
        have g0 : v4.frozen? ⟨q, 0, none⟩ = false := by simp [World.frozen?, HF4.out.1]
        have y1 : v4.cell? ⟨q, 1, none⟩ = some (.float .f32 0) := by rw [Joins.cell_of_block HF4.out.1]; rfl
        have g1 : v4.frozen? ⟨q, 1, none⟩ = false := by simp [World.frozen?, HF4.out.1]
        have y2 : v4.cell? ⟨q, 2, none⟩ = some (.float .f32 0) := by rw [Joins.cell_of_block HF4.out.1]; rfl
        have g2 : v4.frozen? ⟨q, 2, none⟩ = false := by simp [World.frozen?, HF4.out.1]
        have y3 : v4.cell? ⟨q, 3, none⟩ = some (.float .f32 0) := by rw [Joins.cell_of_block HF4.out.1]; rfl
        have g3 : v4.frozen? ⟨q, 3, none⟩ = false := by simp [World.frozen?, HF4.out.1]
        (refine wpAnyH_ready (rs := [8]) (by kernel_rfl) (by simp) ?_; refine AllReadyH.cons (i := 8) rfl (fun K hK => ?_) AllReadyH.nil)
        go_simp
        (refine hK.out _ _ (⟨And.left (HP.out.ever _ ((((HD4.out.setCell HA4.out.2.1 _).setCell HA4.out.2.1 _).setCell HA4.out.2.1 _).setCell HA4.out.2.1 _)), And.right (HP.out.ever _ ((((HD4.out.setCell HA4.out.2.1 _).setCell HA4.out.2.1 _).setCell HA4.out.2.1 _).setCell HA4.out.2.1 _))⟩) (fun hHeld => ?_); clear hK K; (try simp only [List.getElem_toArray, List.getElem_cons_zero, List.getElem_cons_succ, Act.put, List.setIfInBounds_toArray, List.set_cons_zero, List.set_cons_succ]))
        (refine wpAnyH_ready (rs := [9]) (by kernel_rfl) (by simp) ?_; refine AllReadyH.cons (i := 9) rfl (fun K hK => ?_) AllReadyH.nil)
        go_simp
        (refine hK.out _ _ (⟨And.left (HP.out.ever _ ((((((((HD4.out.setCell HA4.out.2.1 _).setCell HA4.out.2.1 _).setCell HA4.out.2.1 _).setCell HA4.out.2.1 _).setCell HF4.out.2.1 _).setCell HF4.out.2.1 _).setCell HF4.out.2.1 _).setCell HF4.out.2.1 _)), And.right (HP.out.ever _ ((((((((HD4.out.setCell HA4.out.2.1 _).setCell HA4.out.2.1 _).setCell HA4.out.2.1 _).setCell HA4.out.2.1 _).setCell HF4.out.2.1 _).setCell HF4.out.2.1 _).setCell HF4.out.2.1 _).setCell HF4.out.2.1 _))⟩) (fun hHeld => ?_); clear hK K; (try simp only [List.getElem_toArray, List.getElem_cons_zero, List.getElem_cons_succ, Act.put, List.setIfInBounds_toArray, List.set_cons_zero, List.set_cons_succ]))
        (refine wpAnyH_done (by kernel_rfl) ?_ _; refine NoPanic.normal ?_)
        clear hHeld
        go_wp2_with fail
        go_quiet (fail)
        go_wp2_with fail
        refine bodyPost_ret (v := .tuple #[.slice (some ⟨p, 0, none⟩) 4 4, .slice (some ⟨q, 0, none⟩) 4 4, .bool true]) (by simp [results, Try.results47, go_sem]) rfl ?_
        refine ⟨p, q, Nat.le_trans HB0.out.size HA4.out.2.1, Nat.le_trans HB0.out.size HF4.out.2.1, rfl, ?_, ?_, below_drewN (HB0.out.trans (Below.mono ((((((((HD4.out.setCell HA4.out.2.1 _).setCell HA4.out.2.1 _).setCell HA4.out.2.1 _).setCell HA4.out.2.1 _).setCell HF4.out.2.1 _).setCell HF4.out.2.1 _).setCell HF4.out.2.1 _).setCell HF4.out.2.1 _) HB0.out.size)) _⟩
        · refine ⟨?_, ?_, ?_, ?_⟩ <;> first | (go_simp; done) | (simp [z0, z1, z2, z3, y0, y1, y2, y3, hne1, hne2]; done)
        · refine ⟨?_, ?_, ?_, ?_⟩ <;> first | (go_simp; done) | (simp [z0, z1, z2, z3, y0, y1, y2, y3, hne1, hne2]; done)
      · skip
        go_simp
        go_wp2_with fail
        have hb3 := (Below.refl v2.heap.size v2).alloc (Nat.le_refl _) (.cells #[.int .i64 0, .int .i64 0, .int .i64 0, .int .i64 0] 96)
        have HD3 := Lib.hid (HD2.out.trans (hb3.mono HD2.out.size))
        have HF3 := Lib.hid (And.intro ((hb3.block q HF2.out.2.2).trans HF2.out.1) (And.intro HF2.out.2.1 (Nat.lt_of_lt_of_le HF2.out.2.2 hb3.size)))
        have HA3 := Lib.hid (And.intro (heap_alloc_new v2 (.cells #[.int .i64 0, .int .i64 0, .int .i64 0, .int .i64 0] 96)) (And.intro HD2.out.size (show v2.heap.size < (v2.alloc (.cells #[.int .i64 0, .int .i64 0, .int .i64 0, .int .i64 0] 96)).heap.size by simp)))
        have HNE := Lib.hid (Nat.ne_of_lt HF2.out.2.2)
        clear hb3
        generalize v2.alloc (.cells #[.int .i64 0, .int .i64 0, .int .i64 0, .int .i64 0] 96) = v3 at HD3 HA3 HF3 ⊢
        generalize v2.heap.size = p at HA3 HNE ⊢
        (refine hK.out _ _ (⟨(HP.out.ever _ HD3.out).1, (HP.out.ever _ HD3.out).2⟩) (fun hHeld => ?_); clear hK K; (try simp only [List.getElem_toArray, List.getElem_cons_zero, List.getElem_cons_succ, Act.put, List.setIfInBounds_toArray, List.set_cons_zero, List.set_cons_succ]))
        refine wpAnyH_ready (rs := [5]) (by kernel_rfl) (by simp) ?_
        refine (AllReadyH.cons (i := 5) rfl (fun K hK => ?_) AllReadyH.nil)
        go_simp
        refine (iShares_e8 a b ha ha' hb hb' n m n0 n1 m0 m1 _).mono ?_; rintro e v4 ⟨rfl, hb4⟩
        have HD4 := Lib.hid (HD3.out.trans (hb4.mono HD3.out.size))
        have HA4 := Lib.hid (And.intro ((hb4.block p HA3.out.2.2).trans HA3.out.1) (And.intro HA3.out.2.1 (Nat.lt_of_lt_of_le HA3.out.2.2 hb4.size)))
        have HF4 := Lib.hid (And.intro ((hb4.block q HF3.out.2.2).trans HF3.out.1) (And.intro HF3.out.2.1 (Nat.lt_of_lt_of_le HF3.out.2.2 hb4.size)))
        clear hb4
        go_wp2_with fail
        (refine hK.out _ _ (⟨(HP.out.ever _ HD4.out).1, (HP.out.ever _ HD4.out).2⟩) (fun hHeld => ?_); clear hK K; (try simp only [List.getElem_toArray, List.getElem_cons_zero, List.getElem_cons_succ, Act.put, List.setIfInBounds_toArray, List.set_cons_zero, List.set_cons_succ]))
        have hne1 : p ≠ q := by first | exact HNE.out | exact Ne.symm HNE.out
        have hne2 : q ≠ p := Ne.symm hne1
        have z0 : v4.cell? ⟨p, 0, none⟩ = some (.int .i64 0) := by rw [Joins.cell_of_block HA4.out.1]; rfl
        have f0 : v4.frozen? ⟨p, 0, none⟩ = false := by simp [World.frozen?, HA4.out.1]
        have z1 : v4.cell? ⟨p, 1, none⟩ = some (.int .i64 0) := by rw [Joins.cell_of_block HA4.out.1]; rfl
        have f1 : v4.frozen? ⟨p, 1, none⟩ = false := by simp [World.frozen?, HA4.out.1]
        have z2 : v4.cell? ⟨p, 2, none⟩ = some (.int .i64 0) := by rw [Joins.cell_of_block HA4.out.1]; rfl
        have f2 : v4.frozen? ⟨p, 2, none⟩ = false := by simp [World.frozen?, HA4.out.1]
        have z3 : v4.cell? ⟨p, 3, none⟩ = some (.int .i64 0) := by rw [Joins.cell_of_block HA4.out.1]; rfl
        have f3 : v4.frozen? ⟨p, 3, none⟩ = false := by simp [World.frozen?, HA4.out.1]
        have y0 : v4.cell? ⟨q, 0, none⟩ = some (.float .f32 0) := by rw [Joins.cell_of_block HF4.out.1]; rfl
        have g0 : v4.frozen? ⟨q, 0, none⟩ = false := by simp [World.frozen?, HF4.out.1]
        have y1 : v4.cell? ⟨q, 1, none⟩ = some (.float .f32 0) := by rw [Joins.cell_of_block HF4.out.1]; rfl
        have g1 : v4.frozen? ⟨q, 1, none⟩ = false := by simp [World.frozen?, HF4.out.1]
        have y2 : v4.cell? ⟨q, 2, none⟩ = some (.float .f32 0) := by rw [Joins.cell_of_block HF4.out.1]; rfl
        have g2 : v4.frozen? ⟨q, 2, none⟩ = false := by simp [World.frozen?, HF4.out.1]
        have y3 : v4.cell? ⟨q, 3, none⟩ = some (.float .f32 0) := by rw [Joins.cell_of_block HF4.out.1]; rfl
        have g3 : v4.frozen? ⟨q, 3, none⟩ = false := by simp [World.frozen?, HF4.out.1]
        (refine wpAnyH_ready (rs := [8]) (by kernel_rfl) (by simp) ?_; refine AllReadyH.cons (i := 8) rfl (fun K hK => ?_) AllReadyH.nil)
        go_simp
        (refine hK.out _ _ (⟨And.left (HP.out.ever _ ((((HD4.out.setCell HA4.out.2.1 _).setCell HA4.out.2.1 _).setCell HA4.out.2.1 _).setCell HA4.out.2.1 _)), And.right (HP.out.ever _ ((((HD4.out.setCell HA4.out.2.1 _).setCell HA4.out.2.1 _).setCell HA4.out.2.1 _).setCell HA4.out.2.1 _))⟩) (fun hHeld => ?_); clear hK K; (try simp only [List.getElem_toArray, List.getElem_cons_zero, List.getElem_cons_succ, Act.put, List.setIfInBounds_toArray, List.set_cons_zero, List.set_cons_succ]))
        (refine wpAnyH_ready (rs := [9]) (by kernel_rfl) (by simp) ?_; refine AllReadyH.cons (i := 9) rfl (fun K hK => ?_) AllReadyH.nil)
        go_simp
        (refine hK.out _ _ (⟨And.left (HP.out.ever _ ((((((((HD4.out.setCell HA4.out.2.1 _).setCell HA4.out.2.1 _).setCell HA4.out.2.1 _).setCell HA4.out.2.1 _).setCell HF4.out.2.1 _).setCell HF4.out.2.1 _).setCell HF4.out.2.1 _).setCell HF4.out.2.1 _)), And.right (HP.out.ever _ ((((((((HD4.out.setCell HA4.out.2.1 _).setCell HA4.out.2.1 _).setCell HA4.out.2.1 _).setCell HA4.out.2.1 _).setCell HF4.out.2.1 _).setCell HF4.out.2.1 _).setCell HF4.out.2.1 _).setCell HF4.out.2.1 _))⟩) (fun hHeld => ?_); clear hK K; (try simp only [List.getElem_toArray, List.getElem_cons_zero, List.getElem_cons_succ, Act.put, List.setIfInBounds_toArray, List.set_cons_zero, List.set_cons_succ]))
        (refine wpAnyH_done (by kernel_rfl) ?_ _; refine NoPanic.normal ?_)
        clear hHeld
        go_wp2_with fail
        go_quiet (fail)
        go_wp2_with fail
        refine bodyPost_ret (v := .tuple #[.slice (some ⟨p, 0, none⟩) 4 4, .slice (some ⟨q, 0, none⟩) 4 4, .bool true]) (by simp [results, Try.results47, go_sem]) rfl ?_
        refine ⟨p, q, Nat.le_trans HB0.out.size HA4.out.2.1, Nat.le_trans HB0.out.size HF4.out.2.1, rfl, ?_, ?_, below_drewN (HB0.out.trans (Below.mono ((((((((HD4.out.setCell HA4.out.2.1 _).setCell HA4.out.2.1 _).setCell HA4.out.2.1 _).setCell HA4.out.2.1 _).setCell HF4.out.2.1 _).setCell HF4.out.2.1 _).setCell HF4.out.2.1 _).setCell HF4.out.2.1 _) HB0.out.size)) _⟩
        · refine ⟨?_, ?_, ?_, ?_⟩ <;> first | (go_simp; done) | (simp [z0, z1, z2, z3, y0, y1, y2, y3, hne1, hne2]; done)
        · refine ⟨?_, ?_, ?_, ?_⟩ <;> first | (go_simp; done) | (simp [z0, z1, z2, z3, y0, y1, y2, y3, hne1, hne2]; done)
    · skip
      go_simp
      go_wp2_with fail
      have hb2 := (Below.refl v1.heap.size v1).alloc (Nat.le_refl _) (.cells #[.int .i64 0, .int .i64 0, .int .i64 0, .int .i64 0] 96)
      have HD2 := Lib.hid (HD1.out.trans (hb2.mono HD1.out.size))
      have HF2 := Lib.hid (And.intro ((hb2.block q HF1.out.2.2).trans HF1.out.1) (And.intro HF1.out.2.1 (Nat.lt_of_lt_of_le HF1.out.2.2 hb2.size)))
      have HA2 := Lib.hid (And.intro (heap_alloc_new v1 (.cells #[.int .i64 0, .int .i64 0, .int .i64 0, .int .i64 0] 96)) (And.intro HD1.out.size (show v1.heap.size < (v1.alloc (.cells #[.int .i64 0, .int .i64 0, .int .i64 0, .int .i64 0] 96)).heap.size by simp)))
      have HNE := Lib.hid (Nat.ne_of_lt HF1.out.2.2)
      clear hb2
      generalize v1.alloc (.cells #[.int .i64 0, .int .i64 0, .int .i64 0, .int .i64 0] 96) = v2 at HD2 HA2 HF2 ⊢
      generalize v1.heap.size = p at HA2 HNE ⊢
      (refine hK.out _ _ (⟨(HP.out.ever _ HD2.out).1, (HP.out.ever _ HD2.out).2⟩) (fun hHeld => ?_); clear hK K; (try simp only [List.getElem_toArray, List.getElem_cons_zero, List.getElem_cons_succ, Act.put, List.setIfInBounds_toArray, List.set_cons_zero, List.set_cons_succ]))
      refine wpAnyH_ready (rs := [2]) (by kernel_rfl) (by simp) ?_
      refine (AllReadyH.cons (i := 2) rfl (fun K hK => ?_) AllReadyH.nil)
      go_simp
      refine (iCorners_e8 a b ha ha' hb hb' n m n0 n1 m0 m1 _).mono ?_; rintro e v3 ⟨rfl, hb3⟩
      have HD3 := Lib.hid (HD2.out.trans (hb3.mono HD2.out.size))
      have HA3 := Lib.hid (And.intro ((hb3.block p HA2.out.2.2).trans HA2.out.1) (And.intro HA2.out.2.1 (Nat.lt_of_lt_of_le HA2.out.2.2 hb3.size)))
      have HF3 := Lib.hid (And.intro ((hb3.block q HF2.out.2.2).trans HF2.out.1) (And.intro HF2.out.2.1 (Nat.lt_of_lt_of_le HF2.out.2.2 hb3.size)))
      clear hb3
      go_wp2_with fail
      (refine hK.out _ _ (⟨(HP.out.ever _ HD3.out).1, (HP.out.ever _ HD3.out).2⟩) (fun hHeld => ?_); clear hK K; (try simp only [List.getElem_toArray, List.getElem_cons_zero, List.getElem_cons_succ, Act.put, List.setIfInBounds_toArray, List.set_cons_zero, List.set_cons_succ]))
      refine wpAnyH_ready (rs := [5]) (by kernel_rfl) (by simp) ?_
      refine (AllReadyH.cons (i := 5) rfl (fun K hK => ?_) AllReadyH.nil)
      go_simp
      refine (iShares_e8 a b ha ha' hb hb' n m n0 n1 m0 m1 _).mono ?_; rintro e v4 ⟨rfl, hb4⟩
      have HD4 := Lib.hid (HD3.out.trans (hb4.mono HD3.out.size))
      have HA4 := Lib.hid (And.intro ((hb4.block p HA3.out.2.2).trans HA3.out.1) (And.intro HA3.out.2.1 (Nat.lt_of_lt_of_le HA3.out.2.2 hb4.size)))
      have HF4 := Lib.hid (And.intro ((hb4.block q HF3.out.2.2).trans HF3.out.1) (And.intro HF3.out.2.1 (Nat.lt_of_lt_of_le HF3.out.2.2 hb4.size)))
      clear hb4
      go_wp2_with fail
      (refine hK.out _ _ (⟨(HP.out.ever _ HD4.out).1, (HP.out.ever _ HD4.out).2⟩) (fun hHeld => ?_); clear hK K; (try simp only [List.getElem_toArray, List.getElem_cons_zero, List.getElem_cons_succ, Act.put, List.setIfInBounds_toArray, List.set_cons_zero, List.set_cons_succ]))
      have hne1 : p ≠ q := by first | exact HNE.out | exact Ne.symm HNE.out
      have hne2 : q ≠ p := Ne.symm hne1
      have z0 : v4.cell? ⟨p, 0, none⟩ = some (.int .i64 0) := by rw [Joins.cell_of_block HA4.out.1]; rfl
      have f0 : v4.frozen? ⟨p, 0, none⟩ = false := by simp [World.frozen?, HA4.out.1]
      have z1 : v4.cell? ⟨p, 1, none⟩ = some (.int .i64 0) := by rw [Joins.cell_of_block HA4.out.1]; rfl
      have f1 : v4.frozen? ⟨p, 1, none⟩ = false := by simp [World.frozen?, HA4.out.1]
      have z2 : v4.cell? ⟨p, 2, none⟩ = some (.int .i64 0) := by rw [Joins.cell_of_block HA4.out.1]; rfl
      have f2 : v4.frozen? ⟨p, 2, none⟩ = false := by simp [World.frozen?, HA4.out.1]
      have z3 : v4.cell? ⟨p, 3, none⟩ = some (.int .i64 0) := by rw [Joins.cell_of_block HA4.out.1]; rfl
      have f3 : v4.frozen? ⟨p, 3, none⟩ = false := by simp [World.frozen?, HA4.out.1]
      have y0 : v4.cell? ⟨q, 0, none⟩ = some (.float .f32 0) := by rw [Joins.cell_of_block HF4.out.1]; rfl
      have g0 : v4.frozen? ⟨q, 0, none⟩ = false := by simp [World.frozen?, HF4.out.1]
      have y1 : v4.cell? ⟨q, 1, none⟩ = some (.float .f32 0) := by rw [Joins.cell_of_block HF4.out.1]; rfl
      have g1 : v4.frozen? ⟨q, 1, none⟩ = false := by simp [World.frozen?, HF4.out.1]
      have y2 : v4.cell? ⟨q, 2, none⟩ = some (.float .f32 0) := by rw [Joins.cell_of_block HF4.out.1]; rfl
      have g2 : v4.frozen? ⟨q, 2, none⟩ = false := by simp [World.frozen?, HF4.out.1]
      have y3 : v4.cell? ⟨q, 3, none⟩ = some (.float .f32 0) := by rw [Joins.cell_of_block HF4.out.1]; rfl
      have g3 : v4.frozen? ⟨q, 3, none⟩ = false := by simp [World.frozen?, HF4.out.1]
      (refine wpAnyH_ready (rs := [8]) (by kernel_rfl) (by simp) ?_; refine AllReadyH.cons (i := 8) rfl (fun K hK => ?_) AllReadyH.nil)
      go_simp
      (refine hK.out _ _ (⟨And.left (HP.out.ever _ ((((HD4.out.setCell HA4.out.2.1 _).setCell HA4.out.2.1 _).setCell HA4.out.2.1 _).setCell HA4.out.2.1 _)), And.right (HP.out.ever _ ((((HD4.out.setCell HA4.out.2.1 _).setCell HA4.out.2.1 _).setCell HA4.out.2.1 _).setCell HA4.out.2.1 _))⟩) (fun hHeld => ?_); clear hK K; (try simp only [List.getElem_toArray, List.getElem_cons_zero, List.getElem_cons_succ, Act.put, List.setIfInBounds_toArray, List.set_cons_zero, List.set_cons_succ]))
      (refine wpAnyH_ready (rs := [9]) (by kernel_rfl) (by simp) ?_; refine AllReadyH.cons (i := 9) rfl (fun K hK => ?_) AllReadyH.nil)
      go_simp
      (refine hK.out _ _ (⟨And.left (HP.out.ever _ ((((((((HD4.out.setCell HA4.out.2.1 _).setCell HA4.out.2.1 _).setCell HA4.out.2.1 _).setCell HA4.out.2.1 _).setCell HF4.out.2.1 _).setCell HF4.out.2.1 _).setCell HF4.out.2.1 _).setCell HF4.out.2.1 _)), And.right (HP.out.ever _ ((((((((HD4.out.setCell HA4.out.2.1 _).setCell HA4.out.2.1 _).setCell HA4.out.2.1 _).setCell HA4.out.2.1 _).setCell HF4.out.2.1 _).setCell HF4.out.2.1 _).setCell HF4.out.2.1 _).setCell HF4.out.2.1 _))⟩) (fun hHeld => ?_); clear hK K; (try simp only [List.getElem_toArray, List.getElem_cons_zero, List.getElem_cons_succ, Act.put, List.setIfInBounds_toArray, List.set_cons_zero, List.set_cons_succ]))
      (refine wpAnyH_done (by kernel_rfl) ?_ _; refine NoPanic.normal ?_)
      clear hHeld
      go_wp2_with fail
      go_quiet (fail)
      go_wp2_with fail
      refine bodyPost_ret (v := .tuple #[.slice (some ⟨p, 0, none⟩) 4 4, .slice (some ⟨q, 0, none⟩) 4 4, .bool true]) (by simp [results, Try.results47, go_sem]) rfl ?_
      refine ⟨p, q, Nat.le_trans HB0.out.size HA4.out.2.1, Nat.le_trans HB0.out.size HF4.out.2.1, rfl, ?_, ?_, below_drewN (HB0.out.trans (Below.mono ((((((((HD4.out.setCell HA4.out.2.1 _).setCell HA4.out.2.1 _).setCell HA4.out.2.1 _).setCell HA4.out.2.1 _).setCell HF4.out.2.1 _).setCell HF4.out.2.1 _).setCell HF4.out.2.1 _).setCell HF4.out.2.1 _) HB0.out.size)) _⟩
      · refine ⟨?_, ?_, ?_, ?_⟩ <;> first | (go_simp; done) | (simp [z0, z1, z2, z3, y0, y1, y2, y3, hne1, hne2]; done)
      · refine ⟨?_, ?_, ?_, ?_⟩ <;> first | (go_simp; done) | (simp [z0, z1, z2, z3, y0, y1, y2, y3, hne1, hne2]; done)
end Go.Proofs.Ytihhlfafglmgnaa
