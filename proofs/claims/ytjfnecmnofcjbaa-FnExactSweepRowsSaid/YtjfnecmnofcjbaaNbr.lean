/-
  The neighbours of a point, as the program goes through them: what neighboursOf makes.
-/
import Derived.Test.YtjfnecmnofcjbaaNear
namespace Go.Proofs.Ytjfnecmnofcjbaa
open Go.Fl Go.RowKit
open Go.Joins (ownsRow_le)
set_option linter.unusedSimpArgs false
set_option linter.unusedVariables false

/-- The cells of block g. -/
def Four (w : World) (g : Nat) (v0 v1 v2 v3 : Value) : Prop := w.cell? ⟨g, 0, none⟩ = some v0 ∧ w.cell? ⟨g, 1, none⟩ = some v1 ∧ w.cell? ⟨g, 2, none⟩ = some v2 ∧ w.cell? ⟨g, 3, none⟩ = some v3

set_option maxHeartbeats 2000000 in
set_option maxRecDepth 100000 in
theorem neighbours_any (a b : Int) (s : Option Addr) (n c : Nat) (u v : Nat) (w : World) (hg : gridOk a b = true) (hu : (u : Int) < a) (hv : (v : Int) < b) :
    Calls Try.prog 209 #[GV a b, .slice s n c, .int .i64 u, .int .i64 v] w fun e w' => ∃ k1 k2, e = .returned (.func (.func 238) #[] #[.pointer (some ⟨k1, 0, none⟩), .pointer (some ⟨k2, 0, none⟩)]) ∧ w.heap.size ≤ k1 ∧ w.heap.size ≤ k2 ∧
      Four w' k1 (.int .i64 (nbI a b (-1) 0 u v)) (.int .i64 (nbI a b 1 0 u v)) (.int .i64 (nbI a b 0 (-1) u v)) (.int .i64 (nbI a b 0 1 u v)) ∧ w'.cell? ⟨k2, 0, none⟩ = some (.slice s n c) ∧ Below w.heap.size w w' := by
  have hA := gridOk_true hg
  have e0 := (nbI_facts (-1) 0 u v hA.1 hA.2.2.1).1
  have e1 := (nbI_facts 1 0 u v hA.1 hA.2.2.1).1
  have e2 := (nbI_facts 0 (-1) u v hA.1 hA.2.2.1).1
  have e3 := (nbI_facts 0 1 u v hA.1 hA.2.2.1).1
  generalize nbI a b (-1) 0 u v = n0 at e0 ⊢
  generalize nbI a b 1 0 u v = n1 at e1 ⊢
  generalize nbI a b 0 (-1) u v = n2 at e2 ⊢
  generalize nbI a b 0 1 u v = n3 at e3 ⊢
  have E0 := Lib.hid (show (n0 : Int) = ((u : Int) - 1) % a + a * ((v : Int) % b) by rw [e0]; simp [Int.sub_eq_add_neg])
  have E1 := Lib.hid (show (n1 : Int) = ((u : Int) + 1) % a + a * ((v : Int) % b) by rw [e1]; simp)
  have E2 := Lib.hid (show (n2 : Int) = (u : Int) % a + a * (((v : Int) - 1) % b) by rw [e2]; simp [Int.sub_eq_add_neg])
  have E3 := Lib.hid (show (n3 : Int) = (u : Int) % a + a * (((v : Int) + 1) % b) by rw [e3]; simp)
  have hq1 : IntKind.i64.wrap ((u : Int) - 1) = (u : Int) - 1 := by rw [wrap_i64]; exact wrap64_of (by omega) (by omega)
  have hq2 : IntKind.i64.wrap ((u : Int) + 1) = (u : Int) + 1 := by rw [wrap_i64]; exact wrap64_of (by omega) (by omega)
  have hq3 : IntKind.i64.wrap ((v : Int) - 1) = (v : Int) - 1 := by rw [wrap_i64]; exact wrap64_of (by omega) (by omega)
  have hq4 : IntKind.i64.wrap ((v : Int) + 1) = (v : Int) + 1 := by rw [wrap_i64]; exact wrap64_of (by omega) (by omega)
  have HA := Lib.hid hA
  clear hA hg e0 e1 e2 e3
  go_enter Try.func209, Try.ntmps209
  go_wp2_with fail
  have T := two_new w (.cells #[.int .i64 a, .int .i64 b] 27) (.cells #[.slice s n c] 24)
  have HP := Lib.hid (gp_of T.1)
  have HX := Lib.hid (And.intro (bx_of T.2.1).cell (show w.heap.size + 1 < ((w.alloc (.cells #[.int .i64 a, .int .i64 b] 27)).alloc (.cells #[.slice s n c] 24)).heap.size by rw [T.2.2.2]; omega))
  have HB0 := Lib.hid T.2.2.1
  have c0 := HP.out.cells.1
  have c1 := HP.out.cells.2
  clear T
  generalize (w.alloc (.cells #[.int .i64 a, .int .i64 b] 27)).alloc (.cells #[.slice s n c] 24) = w1 at HP HX HB0 c0 c1 ⊢
  refine wp_region_noPanic ?_
  refine wp_region_held_drew (S := fun w' => w'.cell? ⟨w.heap.size, 0, none⟩ = some (.int .i64 a) ∧ w'.cell? ⟨w.heap.size, 1, none⟩ = some (.int .i64 b)) (by kernel_rfl) ⟨c0, c1⟩ (fun hHeld => ?_)
  have HD0 := Lib.hid (Below.refl w1.heap.size w1).drew
  clear c0 c1
  generalize w1.drew = v0 at HD0 hHeld ⊢
  ((refine wpAnyH_take (i := 0) (v := ?_) rfl (by kernel_rfl) (by kernel_rfl) (by kernel_rfl) (fun _ _ _ h => h) (Or.inl ⟨by rfl, ?_⟩) (by assumption) ?_; rotate_left; (· intro w hSw; (try dsimp only at hSw); go_simp; first | done | with_reducible rfl); (try simp only [List.getElem_toArray, List.getElem_cons_zero, List.getElem_cons_succ, Act.put, List.setIfInBounds_toArray, List.set_cons_zero, List.set_cons_succ])); (refine wpAnyH_take (i := 1) (v := ?_) rfl (by kernel_rfl) (by kernel_rfl) (by kernel_rfl) (fun _ _ _ h => h) (Or.inl ⟨by rfl, ?_⟩) (by assumption) ?_; rotate_left; (· intro w hSw; (try dsimp only at hSw); go_simp; first | done | with_reducible rfl); (try simp only [List.getElem_toArray, List.getElem_cons_zero, List.getElem_cons_succ, Act.put, List.setIfInBounds_toArray, List.set_cons_zero, List.set_cons_succ])); (refine wpAnyH_take (i := 2) (v := ?_) rfl (by kernel_rfl) (by kernel_rfl) (by kernel_rfl) (fun _ _ _ h => h) (Or.inl ⟨by rfl, ?_⟩) (by assumption) ?_; rotate_left; (· intro w hSw; (try dsimp only at hSw); go_simp; first | done | with_reducible rfl); (try simp only [List.getElem_toArray, List.getElem_cons_zero, List.getElem_cons_succ, Act.put, List.setIfInBounds_toArray, List.set_cons_zero, List.set_cons_succ])); (refine wpAnyH_take (i := 3) (v := ?_) rfl (by kernel_rfl) (by kernel_rfl) (by kernel_rfl) (fun _ _ _ h => h) (Or.inl ⟨by rfl, ?_⟩) (by assumption) ?_; rotate_left; (· intro w hSw; (try dsimp only at hSw); go_simp; first | done | with_reducible rfl); (try simp only [List.getElem_toArray, List.getElem_cons_zero, List.getElem_cons_succ, Act.put, List.setIfInBounds_toArray, List.set_cons_zero, List.set_cons_succ])); (refine wpAnyH_take (i := 5) (v := ?_) rfl (by kernel_rfl) (by kernel_rfl) (by kernel_rfl) (fun _ _ _ h => h) (Or.inl ⟨by rfl, ?_⟩) (by assumption) ?_; rotate_left; (· intro w hSw; (try dsimp only at hSw); go_simp; first | done | with_reducible rfl); (try simp only [List.getElem_toArray, List.getElem_cons_zero, List.getElem_cons_succ, Act.put, List.setIfInBounds_toArray, List.set_cons_zero, List.set_cons_succ])); (refine wpAnyH_take (i := 6) (v := ?_) rfl (by kernel_rfl) (by kernel_rfl) (by kernel_rfl) (fun _ _ _ h => h) (Or.inl ⟨by rfl, ?_⟩) (by assumption) ?_; rotate_left; (· intro w hSw; (try dsimp only at hSw); go_simp; first | done | with_reducible rfl); (try simp only [List.getElem_toArray, List.getElem_cons_zero, List.getElem_cons_succ, Act.put, List.setIfInBounds_toArray, List.set_cons_zero, List.set_cons_succ])); (refine wpAnyH_take (i := 7) (v := ?_) rfl (by kernel_rfl) (by kernel_rfl) (by kernel_rfl) (fun _ _ _ h => h) (Or.inl ⟨by rfl, ?_⟩) (by assumption) ?_; rotate_left; (· intro w hSw; (try dsimp only at hSw); go_simp; first | done | with_reducible rfl); (try simp only [List.getElem_toArray, List.getElem_cons_zero, List.getElem_cons_succ, Act.put, List.setIfInBounds_toArray, List.set_cons_zero, List.set_cons_succ])); (refine wpAnyH_take (i := 8) (v := ?_) rfl (by kernel_rfl) (by kernel_rfl) (by kernel_rfl) (fun _ _ _ h => h) (Or.inl ⟨by rfl, ?_⟩) (by assumption) ?_; rotate_left; (· intro w hSw; (try dsimp only at hSw); go_simp; first | done | with_reducible rfl); (try simp only [List.getElem_toArray, List.getElem_cons_zero, List.getElem_cons_succ, Act.put, List.setIfInBounds_toArray, List.set_cons_zero, List.set_cons_succ])); (refine wpAnyH_take (i := 10) (v := ?_) rfl (by kernel_rfl) (by kernel_rfl) (by kernel_rfl) (fun _ _ _ h => h) (Or.inl ⟨by rfl, ?_⟩) (by assumption) ?_; rotate_left; (· intro w hSw; (try dsimp only at hSw); go_simp; first | done | with_reducible rfl); (try simp only [List.getElem_toArray, List.getElem_cons_zero, List.getElem_cons_succ, Act.put, List.setIfInBounds_toArray, List.set_cons_zero, List.set_cons_succ])); (refine wpAnyH_take (i := 11) (v := ?_) rfl (by kernel_rfl) (by kernel_rfl) (by kernel_rfl) (fun _ _ _ h => h) (Or.inl ⟨by rfl, ?_⟩) (by assumption) ?_; rotate_left; (· intro w hSw; (try dsimp only at hSw); go_simp; first | done | with_reducible rfl); (try simp only [List.getElem_toArray, List.getElem_cons_zero, List.getElem_cons_succ, Act.put, List.setIfInBounds_toArray, List.set_cons_zero, List.set_cons_succ])); (refine wpAnyH_take (i := 12) (v := ?_) rfl (by kernel_rfl) (by kernel_rfl) (by kernel_rfl) (fun _ _ _ h => h) (Or.inl ⟨by rfl, ?_⟩) (by assumption) ?_; rotate_left; (· intro w hSw; (try dsimp only at hSw); go_simp; first | done | with_reducible rfl); (try simp only [List.getElem_toArray, List.getElem_cons_zero, List.getElem_cons_succ, Act.put, List.setIfInBounds_toArray, List.set_cons_zero, List.set_cons_succ])); (refine wpAnyH_take (i := 13) (v := ?_) rfl (by kernel_rfl) (by kernel_rfl) (by kernel_rfl) (fun _ _ _ h => h) (Or.inl ⟨by rfl, ?_⟩) (by assumption) ?_; rotate_left; (· intro w hSw; (try dsimp only at hSw); go_simp; first | done | with_reducible rfl); (try simp only [List.getElem_toArray, List.getElem_cons_zero, List.getElem_cons_succ, Act.put, List.setIfInBounds_toArray, List.set_cons_zero, List.set_cons_succ])); (refine wpAnyH_take (i := 15) (v := ?_) rfl (by kernel_rfl) (by kernel_rfl) (by kernel_rfl) (fun _ _ _ h => h) (Or.inl ⟨by rfl, ?_⟩) (by assumption) ?_; rotate_left; (· intro w hSw; (try dsimp only at hSw); go_simp; first | done | with_reducible rfl); (try simp only [List.getElem_toArray, List.getElem_cons_zero, List.getElem_cons_succ, Act.put, List.setIfInBounds_toArray, List.set_cons_zero, List.set_cons_succ])); (refine wpAnyH_take (i := 16) (v := ?_) rfl (by kernel_rfl) (by kernel_rfl) (by kernel_rfl) (fun _ _ _ h => h) (Or.inl ⟨by rfl, ?_⟩) (by assumption) ?_; rotate_left; (· intro w hSw; (try dsimp only at hSw); go_simp; first | done | with_reducible rfl); (try simp only [List.getElem_toArray, List.getElem_cons_zero, List.getElem_cons_succ, Act.put, List.setIfInBounds_toArray, List.set_cons_zero, List.set_cons_succ])); (refine wpAnyH_take (i := 17) (v := ?_) rfl (by kernel_rfl) (by kernel_rfl) (by kernel_rfl) (fun _ _ _ h => h) (Or.inl ⟨by rfl, ?_⟩) (by assumption) ?_; rotate_left; (· intro w hSw; (try dsimp only at hSw); go_simp; first | done | with_reducible rfl); (try simp only [List.getElem_toArray, List.getElem_cons_zero, List.getElem_cons_succ, Act.put, List.setIfInBounds_toArray, List.set_cons_zero, List.set_cons_succ])); (refine wpAnyH_take (i := 18) (v := ?_) rfl (by kernel_rfl) (by kernel_rfl) (by kernel_rfl) (fun _ _ _ h => h) (Or.inl ⟨by rfl, ?_⟩) (by assumption) ?_; rotate_left; (· intro w hSw; (try dsimp only at hSw); go_simp; first | done | with_reducible rfl); (try simp only [List.getElem_toArray, List.getElem_cons_zero, List.getElem_cons_succ, Act.put, List.setIfInBounds_toArray, List.set_cons_zero, List.set_cons_succ])))
  refine wpAnyH_ready (rs := [4, 21]) (by kernel_rfl) (by simp) ?_
  refine (AllReadyH.cons (i := 4) rfl (fun K hK => ?_) (AllReadyH.cons (i := 21) rfl (fun K hK => ?_) AllReadyH.nil))
  · skip
    go_simp
    refine (indexOf_any a b ((u : Int) - 1) (v : Int) n0 _ ⟨HA.out.1, HA.out.2.1⟩ ⟨HA.out.2.2.1, HA.out.2.2.2⟩ E0.out).mono ?_; rintro e v1 ⟨rfl, hb1⟩
    have HD1 := Lib.hid (HD0.out.trans (hb1.mono HD0.out.size))
    clear hb1
    go_wp2_with fail
    (refine hK.out _ _ (⟨And.left (HP.out.ever _ HD1.out), And.right (HP.out.ever _ HD1.out)⟩) (fun hHeld => ?_); clear hK K; (try simp only [List.getElem_toArray, List.getElem_cons_zero, List.getElem_cons_succ, Act.put, List.setIfInBounds_toArray, List.set_cons_zero, List.set_cons_succ]))
    refine wpAnyH_ready (rs := [9, 21]) (by kernel_rfl) (by simp) ?_
    refine (AllReadyH.cons (i := 9) rfl (fun K hK => ?_) (AllReadyH.cons (i := 21) rfl (fun K hK => ?_) AllReadyH.nil))
    · skip
      go_simp
      refine (indexOf_any a b ((u : Int) + 1) (v : Int) n1 _ ⟨HA.out.1, HA.out.2.1⟩ ⟨HA.out.2.2.1, HA.out.2.2.2⟩ E1.out).mono ?_; rintro e v2 ⟨rfl, hb2⟩
      have HD2 := Lib.hid (HD1.out.trans (hb2.mono HD1.out.size))
      clear hb2
      go_wp2_with fail
      (refine hK.out _ _ (⟨And.left (HP.out.ever _ HD2.out), And.right (HP.out.ever _ HD2.out)⟩) (fun hHeld => ?_); clear hK K; (try simp only [List.getElem_toArray, List.getElem_cons_zero, List.getElem_cons_succ, Act.put, List.setIfInBounds_toArray, List.set_cons_zero, List.set_cons_succ]))
      refine wpAnyH_ready (rs := [14, 21]) (by kernel_rfl) (by simp) ?_
      refine (AllReadyH.cons (i := 14) rfl (fun K hK => ?_) (AllReadyH.cons (i := 21) rfl (fun K hK => ?_) AllReadyH.nil))
      · skip
        go_simp
        refine (indexOf_any a b (u : Int) ((v : Int) - 1) n2 _ ⟨HA.out.1, HA.out.2.1⟩ ⟨HA.out.2.2.1, HA.out.2.2.2⟩ E2.out).mono ?_; rintro e v3 ⟨rfl, hb3⟩
        have HD3 := Lib.hid (HD2.out.trans (hb3.mono HD2.out.size))
        clear hb3
        go_wp2_with fail
        (refine hK.out _ _ (⟨And.left (HP.out.ever _ HD3.out), And.right (HP.out.ever _ HD3.out)⟩) (fun hHeld => ?_); clear hK K; (try simp only [List.getElem_toArray, List.getElem_cons_zero, List.getElem_cons_succ, Act.put, List.setIfInBounds_toArray, List.set_cons_zero, List.set_cons_succ]))
        refine wpAnyH_ready (rs := [19, 21]) (by kernel_rfl) (by simp) ?_
        refine (AllReadyH.cons (i := 19) rfl (fun K hK => ?_) (AllReadyH.cons (i := 21) rfl (fun K hK => ?_) AllReadyH.nil))
        · skip
          go_simp
          refine (indexOf_any a b (u : Int) ((v : Int) + 1) n3 _ ⟨HA.out.1, HA.out.2.1⟩ ⟨HA.out.2.2.1, HA.out.2.2.2⟩ E3.out).mono ?_; rintro e v4 ⟨rfl, hb4⟩
          have HD4 := Lib.hid (HD3.out.trans (hb4.mono HD3.out.size))
          clear hb4
          go_wp2_with fail
          (refine hK.out _ _ (⟨And.left (HP.out.ever _ HD4.out), And.right (HP.out.ever _ HD4.out)⟩) (fun hHeld => ?_); clear hK K; (try simp only [List.getElem_toArray, List.getElem_cons_zero, List.getElem_cons_succ, Act.put, List.setIfInBounds_toArray, List.set_cons_zero, List.set_cons_succ]))
          ((refine wpAnyH_take (i := 20) (v := ?_) rfl (by kernel_rfl) (by kernel_rfl) (by kernel_rfl) (fun _ _ _ h => h) (Or.inl ⟨by rfl, ?_⟩) (by assumption) ?_; rotate_left; (· intro w hSw; (try dsimp only at hSw); go_simp; first | done | with_reducible rfl); (try simp only [List.getElem_toArray, List.getElem_cons_zero, List.getElem_cons_succ, Act.put, List.setIfInBounds_toArray, List.set_cons_zero, List.set_cons_succ])))
          refine wpAnyH_ready (rs := [21]) (by kernel_rfl) (by simp) ?_
          refine (AllReadyH.cons (i := 21) rfl (fun K hK => ?_) AllReadyH.nil)
          go_simp
          go_wp2_with fail
          have hb5 := (Below.refl v4.heap.size v4).alloc (Nat.le_refl _) (.cells #[.int .i64 0, .int .i64 0, .int .i64 0, .int .i64 0] 147)
          have HD5 := Lib.hid (HD4.out.trans (hb5.mono HD4.out.size))
          have HA5 := Lib.hid (And.intro (heap_alloc_new v4 (.cells #[.int .i64 0, .int .i64 0, .int .i64 0, .int .i64 0] 147)) (And.intro HD4.out.size (show v4.heap.size < (v4.alloc (.cells #[.int .i64 0, .int .i64 0, .int .i64 0, .int .i64 0] 147)).heap.size by simp)))
          clear hb5
          generalize v4.alloc (.cells #[.int .i64 0, .int .i64 0, .int .i64 0, .int .i64 0] 147) = v5 at HD5 HA5 ⊢
          generalize v4.heap.size = p at HA5 ⊢
          (refine hK.out _ _ (⟨And.left (HP.out.ever _ HD5.out), And.right (HP.out.ever _ HD5.out)⟩) (fun hHeld => ?_); clear hK K; (try simp only [List.getElem_toArray, List.getElem_cons_zero, List.getElem_cons_succ, Act.put, List.setIfInBounds_toArray, List.set_cons_zero, List.set_cons_succ]))
          have z0 : v5.cell? ⟨p, 0, none⟩ = some (.int .i64 0) := by rw [Joins.cell_of_block HA5.out.1]; rfl
          have z1 : v5.cell? ⟨p, 1, none⟩ = some (.int .i64 0) := by rw [Joins.cell_of_block HA5.out.1]; rfl
          have z2 : v5.cell? ⟨p, 2, none⟩ = some (.int .i64 0) := by rw [Joins.cell_of_block HA5.out.1]; rfl
          have z3 : v5.cell? ⟨p, 3, none⟩ = some (.int .i64 0) := by rw [Joins.cell_of_block HA5.out.1]; rfl
          have f0 : v5.frozen? ⟨p, 0, none⟩ = false := by simp [World.frozen?, HA5.out.1]
          have f1 : v5.frozen? ⟨p, 1, none⟩ = false := by simp [World.frozen?, HA5.out.1]
          have f2 : v5.frozen? ⟨p, 2, none⟩ = false := by simp [World.frozen?, HA5.out.1]
          have f3 : v5.frozen? ⟨p, 3, none⟩ = false := by simp [World.frozen?, HA5.out.1]
          have HD9 := Lib.hid ((((HD5.out.setCell (p := ⟨p, 0, none⟩) HA5.out.2.1 (.int .i64 n0)).setCell (p := ⟨p, 1, none⟩) HA5.out.2.1 (.int .i64 n1)).setCell (p := ⟨p, 2, none⟩) HA5.out.2.1 (.int .i64 n2)).setCell (p := ⟨p, 3, none⟩) HA5.out.2.1 (.int .i64 n3))
          (refine wpAnyH_ready (rs := [22]) (by kernel_rfl) (by simp) ?_; refine AllReadyH.cons (i := 22) rfl (fun K hK => ?_) AllReadyH.nil)
          go_simp
          (refine hK.out _ _ (⟨And.left (HP.out.ever _ HD9.out), And.right (HP.out.ever _ HD9.out)⟩) (fun hHeld => ?_); clear hK K; (try simp only [List.getElem_toArray, List.getElem_cons_zero, List.getElem_cons_succ, Act.put, List.setIfInBounds_toArray, List.set_cons_zero, List.set_cons_succ]))
          (refine wpAnyH_done (by kernel_rfl) ?_ _; refine NoPanic.normal ?_)
          clear hHeld
          go_wp2_with fail
          go_ret
          refine ⟨p, w.heap.size + 1, rfl, Nat.le_trans HB0.out.size HA5.out.2.1, by omega, ?_, by rw [HD9.out.cell (p := ⟨w.heap.size + 1, 0, none⟩) HX.out.2]; exact HX.out.1, HB0.out.trans (HD9.out.mono HB0.out.size)⟩
          refine ⟨?_, ?_, ?_, ?_⟩ <;> first | (go_simp; done) | (simp [z0, z1, z2, z3]; done)
        · skip
          go_simp
          go_wp2_with fail
          have hb4 := (Below.refl v3.heap.size v3).alloc (Nat.le_refl _) (.cells #[.int .i64 0, .int .i64 0, .int .i64 0, .int .i64 0] 147)
          have HD4 := Lib.hid (HD3.out.trans (hb4.mono HD3.out.size))
          have HA4 := Lib.hid (And.intro (heap_alloc_new v3 (.cells #[.int .i64 0, .int .i64 0, .int .i64 0, .int .i64 0] 147)) (And.intro HD3.out.size (show v3.heap.size < (v3.alloc (.cells #[.int .i64 0, .int .i64 0, .int .i64 0, .int .i64 0] 147)).heap.size by simp)))
          clear hb4
          generalize v3.alloc (.cells #[.int .i64 0, .int .i64 0, .int .i64 0, .int .i64 0] 147) = v4 at HD4 HA4 ⊢
          generalize v3.heap.size = p at HA4 ⊢
          (refine hK.out _ _ (⟨And.left (HP.out.ever _ HD4.out), And.right (HP.out.ever _ HD4.out)⟩) (fun hHeld => ?_); clear hK K; (try simp only [List.getElem_toArray, List.getElem_cons_zero, List.getElem_cons_succ, Act.put, List.setIfInBounds_toArray, List.set_cons_zero, List.set_cons_succ]))
          refine wpAnyH_ready (rs := [19]) (by kernel_rfl) (by simp) ?_
          refine (AllReadyH.cons (i := 19) rfl (fun K hK => ?_) AllReadyH.nil)
          go_simp
          refine (indexOf_any a b (u : Int) ((v : Int) + 1) n3 _ ⟨HA.out.1, HA.out.2.1⟩ ⟨HA.out.2.2.1, HA.out.2.2.2⟩ E3.out).mono ?_; rintro e v5 ⟨rfl, hb5⟩
          have HD5 := Lib.hid (HD4.out.trans (hb5.mono HD4.out.size))
          have HA5 := Lib.hid (And.intro ((hb5.block p HA4.out.2.2).trans HA4.out.1) (And.intro HA4.out.2.1 (Nat.lt_of_lt_of_le HA4.out.2.2 hb5.size)))
          clear hb5
          go_wp2_with fail
          (refine hK.out _ _ (⟨And.left (HP.out.ever _ HD5.out), And.right (HP.out.ever _ HD5.out)⟩) (fun hHeld => ?_); clear hK K; (try simp only [List.getElem_toArray, List.getElem_cons_zero, List.getElem_cons_succ, Act.put, List.setIfInBounds_toArray, List.set_cons_zero, List.set_cons_succ]))
          have z0 : v5.cell? ⟨p, 0, none⟩ = some (.int .i64 0) := by rw [Joins.cell_of_block HA5.out.1]; rfl
          have z1 : v5.cell? ⟨p, 1, none⟩ = some (.int .i64 0) := by rw [Joins.cell_of_block HA5.out.1]; rfl
          have z2 : v5.cell? ⟨p, 2, none⟩ = some (.int .i64 0) := by rw [Joins.cell_of_block HA5.out.1]; rfl
          have z3 : v5.cell? ⟨p, 3, none⟩ = some (.int .i64 0) := by rw [Joins.cell_of_block HA5.out.1]; rfl
          have f0 : v5.frozen? ⟨p, 0, none⟩ = false := by simp [World.frozen?, HA5.out.1]
          have f1 : v5.frozen? ⟨p, 1, none⟩ = false := by simp [World.frozen?, HA5.out.1]
          have f2 : v5.frozen? ⟨p, 2, none⟩ = false := by simp [World.frozen?, HA5.out.1]
          have f3 : v5.frozen? ⟨p, 3, none⟩ = false := by simp [World.frozen?, HA5.out.1]
          have HD9 := Lib.hid ((((HD5.out.setCell (p := ⟨p, 0, none⟩) HA5.out.2.1 (.int .i64 n0)).setCell (p := ⟨p, 1, none⟩) HA5.out.2.1 (.int .i64 n1)).setCell (p := ⟨p, 2, none⟩) HA5.out.2.1 (.int .i64 n2)).setCell (p := ⟨p, 3, none⟩) HA5.out.2.1 (.int .i64 n3))
          ((refine wpAnyH_take (i := 20) (v := ?_) rfl (by kernel_rfl) (by kernel_rfl) (by kernel_rfl) (fun _ _ _ h => h) (Or.inl ⟨by rfl, ?_⟩) (by assumption) ?_; rotate_left; (· intro w hSw; (try dsimp only at hSw); go_simp; first | done | with_reducible rfl); (try simp only [List.getElem_toArray, List.getElem_cons_zero, List.getElem_cons_succ, Act.put, List.setIfInBounds_toArray, List.set_cons_zero, List.set_cons_succ])))
          (refine wpAnyH_ready (rs := [22]) (by kernel_rfl) (by simp) ?_; refine AllReadyH.cons (i := 22) rfl (fun K hK => ?_) AllReadyH.nil)
          go_simp
          (refine hK.out _ _ (⟨And.left (HP.out.ever _ HD9.out), And.right (HP.out.ever _ HD9.out)⟩) (fun hHeld => ?_); clear hK K; (try simp only [List.getElem_toArray, List.getElem_cons_zero, List.getElem_cons_succ, Act.put, List.setIfInBounds_toArray, List.set_cons_zero, List.set_cons_succ]))
          (refine wpAnyH_done (by kernel_rfl) ?_ _; refine NoPanic.normal ?_)
          clear hHeld
          go_wp2_with fail
          go_ret
          refine ⟨p, w.heap.size + 1, rfl, Nat.le_trans HB0.out.size HA5.out.2.1, by omega, ?_, by rw [HD9.out.cell (p := ⟨w.heap.size + 1, 0, none⟩) HX.out.2]; exact HX.out.1, HB0.out.trans (HD9.out.mono HB0.out.size)⟩
          refine ⟨?_, ?_, ?_, ?_⟩ <;> first | (go_simp; done) | (simp [z0, z1, z2, z3]; done)
      · skip
        go_simp
        go_wp2_with fail
        have hb3 := (Below.refl v2.heap.size v2).alloc (Nat.le_refl _) (.cells #[.int .i64 0, .int .i64 0, .int .i64 0, .int .i64 0] 147)
        have HD3 := Lib.hid (HD2.out.trans (hb3.mono HD2.out.size))
        have HA3 := Lib.hid (And.intro (heap_alloc_new v2 (.cells #[.int .i64 0, .int .i64 0, .int .i64 0, .int .i64 0] 147)) (And.intro HD2.out.size (show v2.heap.size < (v2.alloc (.cells #[.int .i64 0, .int .i64 0, .int .i64 0, .int .i64 0] 147)).heap.size by simp)))
        clear hb3
        generalize v2.alloc (.cells #[.int .i64 0, .int .i64 0, .int .i64 0, .int .i64 0] 147) = v3 at HD3 HA3 ⊢
        generalize v2.heap.size = p at HA3 ⊢
        (refine hK.out _ _ (⟨And.left (HP.out.ever _ HD3.out), And.right (HP.out.ever _ HD3.out)⟩) (fun hHeld => ?_); clear hK K; (try simp only [List.getElem_toArray, List.getElem_cons_zero, List.getElem_cons_succ, Act.put, List.setIfInBounds_toArray, List.set_cons_zero, List.set_cons_succ]))
        refine wpAnyH_ready (rs := [14]) (by kernel_rfl) (by simp) ?_
        refine (AllReadyH.cons (i := 14) rfl (fun K hK => ?_) AllReadyH.nil)
        go_simp
        refine (indexOf_any a b (u : Int) ((v : Int) - 1) n2 _ ⟨HA.out.1, HA.out.2.1⟩ ⟨HA.out.2.2.1, HA.out.2.2.2⟩ E2.out).mono ?_; rintro e v4 ⟨rfl, hb4⟩
        have HD4 := Lib.hid (HD3.out.trans (hb4.mono HD3.out.size))
        have HA4 := Lib.hid (And.intro ((hb4.block p HA3.out.2.2).trans HA3.out.1) (And.intro HA3.out.2.1 (Nat.lt_of_lt_of_le HA3.out.2.2 hb4.size)))
        clear hb4
        go_wp2_with fail
        (refine hK.out _ _ (⟨And.left (HP.out.ever _ HD4.out), And.right (HP.out.ever _ HD4.out)⟩) (fun hHeld => ?_); clear hK K; (try simp only [List.getElem_toArray, List.getElem_cons_zero, List.getElem_cons_succ, Act.put, List.setIfInBounds_toArray, List.set_cons_zero, List.set_cons_succ]))
        refine wpAnyH_ready (rs := [19]) (by kernel_rfl) (by simp) ?_
        refine (AllReadyH.cons (i := 19) rfl (fun K hK => ?_) AllReadyH.nil)
        go_simp
        refine (indexOf_any a b (u : Int) ((v : Int) + 1) n3 _ ⟨HA.out.1, HA.out.2.1⟩ ⟨HA.out.2.2.1, HA.out.2.2.2⟩ E3.out).mono ?_; rintro e v5 ⟨rfl, hb5⟩
        have HD5 := Lib.hid (HD4.out.trans (hb5.mono HD4.out.size))
        have HA5 := Lib.hid (And.intro ((hb5.block p HA4.out.2.2).trans HA4.out.1) (And.intro HA4.out.2.1 (Nat.lt_of_lt_of_le HA4.out.2.2 hb5.size)))
        clear hb5
        go_wp2_with fail
        (refine hK.out _ _ (⟨And.left (HP.out.ever _ HD5.out), And.right (HP.out.ever _ HD5.out)⟩) (fun hHeld => ?_); clear hK K; (try simp only [List.getElem_toArray, List.getElem_cons_zero, List.getElem_cons_succ, Act.put, List.setIfInBounds_toArray, List.set_cons_zero, List.set_cons_succ]))
        have z0 : v5.cell? ⟨p, 0, none⟩ = some (.int .i64 0) := by rw [Joins.cell_of_block HA5.out.1]; rfl
        have z1 : v5.cell? ⟨p, 1, none⟩ = some (.int .i64 0) := by rw [Joins.cell_of_block HA5.out.1]; rfl
        have z2 : v5.cell? ⟨p, 2, none⟩ = some (.int .i64 0) := by rw [Joins.cell_of_block HA5.out.1]; rfl
        have z3 : v5.cell? ⟨p, 3, none⟩ = some (.int .i64 0) := by rw [Joins.cell_of_block HA5.out.1]; rfl
        have f0 : v5.frozen? ⟨p, 0, none⟩ = false := by simp [World.frozen?, HA5.out.1]
        have f1 : v5.frozen? ⟨p, 1, none⟩ = false := by simp [World.frozen?, HA5.out.1]
        have f2 : v5.frozen? ⟨p, 2, none⟩ = false := by simp [World.frozen?, HA5.out.1]
        have f3 : v5.frozen? ⟨p, 3, none⟩ = false := by simp [World.frozen?, HA5.out.1]
        have HD9 := Lib.hid ((((HD5.out.setCell (p := ⟨p, 0, none⟩) HA5.out.2.1 (.int .i64 n0)).setCell (p := ⟨p, 1, none⟩) HA5.out.2.1 (.int .i64 n1)).setCell (p := ⟨p, 2, none⟩) HA5.out.2.1 (.int .i64 n2)).setCell (p := ⟨p, 3, none⟩) HA5.out.2.1 (.int .i64 n3))
        ((refine wpAnyH_take (i := 20) (v := ?_) rfl (by kernel_rfl) (by kernel_rfl) (by kernel_rfl) (fun _ _ _ h => h) (Or.inl ⟨by rfl, ?_⟩) (by assumption) ?_; rotate_left; (· intro w hSw; (try dsimp only at hSw); go_simp; first | done | with_reducible rfl); (try simp only [List.getElem_toArray, List.getElem_cons_zero, List.getElem_cons_succ, Act.put, List.setIfInBounds_toArray, List.set_cons_zero, List.set_cons_succ])))
        (refine wpAnyH_ready (rs := [22]) (by kernel_rfl) (by simp) ?_; refine AllReadyH.cons (i := 22) rfl (fun K hK => ?_) AllReadyH.nil)
        go_simp
        (refine hK.out _ _ (⟨And.left (HP.out.ever _ HD9.out), And.right (HP.out.ever _ HD9.out)⟩) (fun hHeld => ?_); clear hK K; (try simp only [List.getElem_toArray, List.getElem_cons_zero, List.getElem_cons_succ, Act.put, List.setIfInBounds_toArray, List.set_cons_zero, List.set_cons_succ]))
        (refine wpAnyH_done (by kernel_rfl) ?_ _; refine NoPanic.normal ?_)
        clear hHeld
        go_wp2_with fail
        go_ret
        refine ⟨p, w.heap.size + 1, rfl, Nat.le_trans HB0.out.size HA5.out.2.1, by omega, ?_, by rw [HD9.out.cell (p := ⟨w.heap.size + 1, 0, none⟩) HX.out.2]; exact HX.out.1, HB0.out.trans (HD9.out.mono HB0.out.size)⟩
        refine ⟨?_, ?_, ?_, ?_⟩ <;> first | (go_simp; done) | (simp [z0, z1, z2, z3]; done)
    · skip
      go_simp
      go_wp2_with fail
      have hb2 := (Below.refl v1.heap.size v1).alloc (Nat.le_refl _) (.cells #[.int .i64 0, .int .i64 0, .int .i64 0, .int .i64 0] 147)
      have HD2 := Lib.hid (HD1.out.trans (hb2.mono HD1.out.size))
      have HA2 := Lib.hid (And.intro (heap_alloc_new v1 (.cells #[.int .i64 0, .int .i64 0, .int .i64 0, .int .i64 0] 147)) (And.intro HD1.out.size (show v1.heap.size < (v1.alloc (.cells #[.int .i64 0, .int .i64 0, .int .i64 0, .int .i64 0] 147)).heap.size by simp)))
      clear hb2
      generalize v1.alloc (.cells #[.int .i64 0, .int .i64 0, .int .i64 0, .int .i64 0] 147) = v2 at HD2 HA2 ⊢
      generalize v1.heap.size = p at HA2 ⊢
      (refine hK.out _ _ (⟨And.left (HP.out.ever _ HD2.out), And.right (HP.out.ever _ HD2.out)⟩) (fun hHeld => ?_); clear hK K; (try simp only [List.getElem_toArray, List.getElem_cons_zero, List.getElem_cons_succ, Act.put, List.setIfInBounds_toArray, List.set_cons_zero, List.set_cons_succ]))
      refine wpAnyH_ready (rs := [9]) (by kernel_rfl) (by simp) ?_
      refine (AllReadyH.cons (i := 9) rfl (fun K hK => ?_) AllReadyH.nil)
      go_simp
      refine (indexOf_any a b ((u : Int) + 1) (v : Int) n1 _ ⟨HA.out.1, HA.out.2.1⟩ ⟨HA.out.2.2.1, HA.out.2.2.2⟩ E1.out).mono ?_; rintro e v3 ⟨rfl, hb3⟩
      have HD3 := Lib.hid (HD2.out.trans (hb3.mono HD2.out.size))
      have HA3 := Lib.hid (And.intro ((hb3.block p HA2.out.2.2).trans HA2.out.1) (And.intro HA2.out.2.1 (Nat.lt_of_lt_of_le HA2.out.2.2 hb3.size)))
      clear hb3
      go_wp2_with fail
      (refine hK.out _ _ (⟨And.left (HP.out.ever _ HD3.out), And.right (HP.out.ever _ HD3.out)⟩) (fun hHeld => ?_); clear hK K; (try simp only [List.getElem_toArray, List.getElem_cons_zero, List.getElem_cons_succ, Act.put, List.setIfInBounds_toArray, List.set_cons_zero, List.set_cons_succ]))
      refine wpAnyH_ready (rs := [14]) (by kernel_rfl) (by simp) ?_
      refine (AllReadyH.cons (i := 14) rfl (fun K hK => ?_) AllReadyH.nil)
      go_simp
      refine (indexOf_any a b (u : Int) ((v : Int) - 1) n2 _ ⟨HA.out.1, HA.out.2.1⟩ ⟨HA.out.2.2.1, HA.out.2.2.2⟩ E2.out).mono ?_; rintro e v4 ⟨rfl, hb4⟩
      have HD4 := Lib.hid (HD3.out.trans (hb4.mono HD3.out.size))
      have HA4 := Lib.hid (And.intro ((hb4.block p HA3.out.2.2).trans HA3.out.1) (And.intro HA3.out.2.1 (Nat.lt_of_lt_of_le HA3.out.2.2 hb4.size)))
      clear hb4
      go_wp2_with fail
      (refine hK.out _ _ (⟨And.left (HP.out.ever _ HD4.out), And.right (HP.out.ever _ HD4.out)⟩) (fun hHeld => ?_); clear hK K; (try simp only [List.getElem_toArray, List.getElem_cons_zero, List.getElem_cons_succ, Act.put, List.setIfInBounds_toArray, List.set_cons_zero, List.set_cons_succ]))
      refine wpAnyH_ready (rs := [19]) (by kernel_rfl) (by simp) ?_
      refine (AllReadyH.cons (i := 19) rfl (fun K hK => ?_) AllReadyH.nil)
      go_simp
      refine (indexOf_any a b (u : Int) ((v : Int) + 1) n3 _ ⟨HA.out.1, HA.out.2.1⟩ ⟨HA.out.2.2.1, HA.out.2.2.2⟩ E3.out).mono ?_; rintro e v5 ⟨rfl, hb5⟩
      have HD5 := Lib.hid (HD4.out.trans (hb5.mono HD4.out.size))
      have HA5 := Lib.hid (And.intro ((hb5.block p HA4.out.2.2).trans HA4.out.1) (And.intro HA4.out.2.1 (Nat.lt_of_lt_of_le HA4.out.2.2 hb5.size)))
      clear hb5
      go_wp2_with fail
      (refine hK.out _ _ (⟨And.left (HP.out.ever _ HD5.out), And.right (HP.out.ever _ HD5.out)⟩) (fun hHeld => ?_); clear hK K; (try simp only [List.getElem_toArray, List.getElem_cons_zero, List.getElem_cons_succ, Act.put, List.setIfInBounds_toArray, List.set_cons_zero, List.set_cons_succ]))
      have z0 : v5.cell? ⟨p, 0, none⟩ = some (.int .i64 0) := by rw [Joins.cell_of_block HA5.out.1]; rfl
      have z1 : v5.cell? ⟨p, 1, none⟩ = some (.int .i64 0) := by rw [Joins.cell_of_block HA5.out.1]; rfl
      have z2 : v5.cell? ⟨p, 2, none⟩ = some (.int .i64 0) := by rw [Joins.cell_of_block HA5.out.1]; rfl
      have z3 : v5.cell? ⟨p, 3, none⟩ = some (.int .i64 0) := by rw [Joins.cell_of_block HA5.out.1]; rfl
      have f0 : v5.frozen? ⟨p, 0, none⟩ = false := by simp [World.frozen?, HA5.out.1]
      have f1 : v5.frozen? ⟨p, 1, none⟩ = false := by simp [World.frozen?, HA5.out.1]
      have f2 : v5.frozen? ⟨p, 2, none⟩ = false := by simp [World.frozen?, HA5.out.1]
      have f3 : v5.frozen? ⟨p, 3, none⟩ = false := by simp [World.frozen?, HA5.out.1]
      have HD9 := Lib.hid ((((HD5.out.setCell (p := ⟨p, 0, none⟩) HA5.out.2.1 (.int .i64 n0)).setCell (p := ⟨p, 1, none⟩) HA5.out.2.1 (.int .i64 n1)).setCell (p := ⟨p, 2, none⟩) HA5.out.2.1 (.int .i64 n2)).setCell (p := ⟨p, 3, none⟩) HA5.out.2.1 (.int .i64 n3))
      ((refine wpAnyH_take (i := 20) (v := ?_) rfl (by kernel_rfl) (by kernel_rfl) (by kernel_rfl) (fun _ _ _ h => h) (Or.inl ⟨by rfl, ?_⟩) (by assumption) ?_; rotate_left; (· intro w hSw; (try dsimp only at hSw); go_simp; first | done | with_reducible rfl); (try simp only [List.getElem_toArray, List.getElem_cons_zero, List.getElem_cons_succ, Act.put, List.setIfInBounds_toArray, List.set_cons_zero, List.set_cons_succ])))
      (refine wpAnyH_ready (rs := [22]) (by kernel_rfl) (by simp) ?_; refine AllReadyH.cons (i := 22) rfl (fun K hK => ?_) AllReadyH.nil)
      go_simp
      (refine hK.out _ _ (⟨And.left (HP.out.ever _ HD9.out), And.right (HP.out.ever _ HD9.out)⟩) (fun hHeld => ?_); clear hK K; (try simp only [List.getElem_toArray, List.getElem_cons_zero, List.getElem_cons_succ, Act.put, List.setIfInBounds_toArray, List.set_cons_zero, List.set_cons_succ]))
      (refine wpAnyH_done (by kernel_rfl) ?_ _; refine NoPanic.normal ?_)
      clear hHeld
      go_wp2_with fail
      go_ret
      refine ⟨p, w.heap.size + 1, rfl, Nat.le_trans HB0.out.size HA5.out.2.1, by omega, ?_, by rw [HD9.out.cell (p := ⟨w.heap.size + 1, 0, none⟩) HX.out.2]; exact HX.out.1, HB0.out.trans (HD9.out.mono HB0.out.size)⟩
      refine ⟨?_, ?_, ?_, ?_⟩ <;> first | (go_simp; done) | (simp [z0, z1, z2, z3]; done)
  · skip
    go_simp
    go_wp2_with fail
    have hb1 := (Below.refl v0.heap.size v0).alloc (Nat.le_refl _) (.cells #[.int .i64 0, .int .i64 0, .int .i64 0, .int .i64 0] 147)
    have HD1 := Lib.hid (HD0.out.trans (hb1.mono HD0.out.size))
    have HA1 := Lib.hid (And.intro (heap_alloc_new v0 (.cells #[.int .i64 0, .int .i64 0, .int .i64 0, .int .i64 0] 147)) (And.intro HD0.out.size (show v0.heap.size < (v0.alloc (.cells #[.int .i64 0, .int .i64 0, .int .i64 0, .int .i64 0] 147)).heap.size by simp)))
    clear hb1
    generalize v0.alloc (.cells #[.int .i64 0, .int .i64 0, .int .i64 0, .int .i64 0] 147) = v1 at HD1 HA1 ⊢
    generalize v0.heap.size = p at HA1 ⊢
    (refine hK.out _ _ (⟨And.left (HP.out.ever _ HD1.out), And.right (HP.out.ever _ HD1.out)⟩) (fun hHeld => ?_); clear hK K; (try simp only [List.getElem_toArray, List.getElem_cons_zero, List.getElem_cons_succ, Act.put, List.setIfInBounds_toArray, List.set_cons_zero, List.set_cons_succ]))
    refine wpAnyH_ready (rs := [4]) (by kernel_rfl) (by simp) ?_
    refine (AllReadyH.cons (i := 4) rfl (fun K hK => ?_) AllReadyH.nil)
    go_simp
    refine (indexOf_any a b ((u : Int) - 1) (v : Int) n0 _ ⟨HA.out.1, HA.out.2.1⟩ ⟨HA.out.2.2.1, HA.out.2.2.2⟩ E0.out).mono ?_; rintro e v2 ⟨rfl, hb2⟩
    have HD2 := Lib.hid (HD1.out.trans (hb2.mono HD1.out.size))
    have HA2 := Lib.hid (And.intro ((hb2.block p HA1.out.2.2).trans HA1.out.1) (And.intro HA1.out.2.1 (Nat.lt_of_lt_of_le HA1.out.2.2 hb2.size)))
    clear hb2
    go_wp2_with fail
    (refine hK.out _ _ (⟨And.left (HP.out.ever _ HD2.out), And.right (HP.out.ever _ HD2.out)⟩) (fun hHeld => ?_); clear hK K; (try simp only [List.getElem_toArray, List.getElem_cons_zero, List.getElem_cons_succ, Act.put, List.setIfInBounds_toArray, List.set_cons_zero, List.set_cons_succ]))
    refine wpAnyH_ready (rs := [9]) (by kernel_rfl) (by simp) ?_
    refine (AllReadyH.cons (i := 9) rfl (fun K hK => ?_) AllReadyH.nil)
    go_simp
    refine (indexOf_any a b ((u : Int) + 1) (v : Int) n1 _ ⟨HA.out.1, HA.out.2.1⟩ ⟨HA.out.2.2.1, HA.out.2.2.2⟩ E1.out).mono ?_; rintro e v3 ⟨rfl, hb3⟩
    have HD3 := Lib.hid (HD2.out.trans (hb3.mono HD2.out.size))
    have HA3 := Lib.hid (And.intro ((hb3.block p HA2.out.2.2).trans HA2.out.1) (And.intro HA2.out.2.1 (Nat.lt_of_lt_of_le HA2.out.2.2 hb3.size)))
    clear hb3
    go_wp2_with fail
    (refine hK.out _ _ (⟨And.left (HP.out.ever _ HD3.out), And.right (HP.out.ever _ HD3.out)⟩) (fun hHeld => ?_); clear hK K; (try simp only [List.getElem_toArray, List.getElem_cons_zero, List.getElem_cons_succ, Act.put, List.setIfInBounds_toArray, List.set_cons_zero, List.set_cons_succ]))
    refine wpAnyH_ready (rs := [14]) (by kernel_rfl) (by simp) ?_
    refine (AllReadyH.cons (i := 14) rfl (fun K hK => ?_) AllReadyH.nil)
    go_simp
    refine (indexOf_any a b (u : Int) ((v : Int) - 1) n2 _ ⟨HA.out.1, HA.out.2.1⟩ ⟨HA.out.2.2.1, HA.out.2.2.2⟩ E2.out).mono ?_; rintro e v4 ⟨rfl, hb4⟩
    have HD4 := Lib.hid (HD3.out.trans (hb4.mono HD3.out.size))
    have HA4 := Lib.hid (And.intro ((hb4.block p HA3.out.2.2).trans HA3.out.1) (And.intro HA3.out.2.1 (Nat.lt_of_lt_of_le HA3.out.2.2 hb4.size)))
    clear hb4
    go_wp2_with fail
    (refine hK.out _ _ (⟨And.left (HP.out.ever _ HD4.out), And.right (HP.out.ever _ HD4.out)⟩) (fun hHeld => ?_); clear hK K; (try simp only [List.getElem_toArray, List.getElem_cons_zero, List.getElem_cons_succ, Act.put, List.setIfInBounds_toArray, List.set_cons_zero, List.set_cons_succ]))
    refine wpAnyH_ready (rs := [19]) (by kernel_rfl) (by simp) ?_
    refine (AllReadyH.cons (i := 19) rfl (fun K hK => ?_) AllReadyH.nil)
    go_simp
    refine (indexOf_any a b (u : Int) ((v : Int) + 1) n3 _ ⟨HA.out.1, HA.out.2.1⟩ ⟨HA.out.2.2.1, HA.out.2.2.2⟩ E3.out).mono ?_; rintro e v5 ⟨rfl, hb5⟩
    have HD5 := Lib.hid (HD4.out.trans (hb5.mono HD4.out.size))
    have HA5 := Lib.hid (And.intro ((hb5.block p HA4.out.2.2).trans HA4.out.1) (And.intro HA4.out.2.1 (Nat.lt_of_lt_of_le HA4.out.2.2 hb5.size)))
    clear hb5
    go_wp2_with fail
    (refine hK.out _ _ (⟨And.left (HP.out.ever _ HD5.out), And.right (HP.out.ever _ HD5.out)⟩) (fun hHeld => ?_); clear hK K; (try simp only [List.getElem_toArray, List.getElem_cons_zero, List.getElem_cons_succ, Act.put, List.setIfInBounds_toArray, List.set_cons_zero, List.set_cons_succ]))
    have z0 : v5.cell? ⟨p, 0, none⟩ = some (.int .i64 0) := by rw [Joins.cell_of_block HA5.out.1]; rfl
    have z1 : v5.cell? ⟨p, 1, none⟩ = some (.int .i64 0) := by rw [Joins.cell_of_block HA5.out.1]; rfl
    have z2 : v5.cell? ⟨p, 2, none⟩ = some (.int .i64 0) := by rw [Joins.cell_of_block HA5.out.1]; rfl
    have z3 : v5.cell? ⟨p, 3, none⟩ = some (.int .i64 0) := by rw [Joins.cell_of_block HA5.out.1]; rfl
    have f0 : v5.frozen? ⟨p, 0, none⟩ = false := by simp [World.frozen?, HA5.out.1]
    have f1 : v5.frozen? ⟨p, 1, none⟩ = false := by simp [World.frozen?, HA5.out.1]
    have f2 : v5.frozen? ⟨p, 2, none⟩ = false := by simp [World.frozen?, HA5.out.1]
    have f3 : v5.frozen? ⟨p, 3, none⟩ = false := by simp [World.frozen?, HA5.out.1]
    have HD9 := Lib.hid ((((HD5.out.setCell (p := ⟨p, 0, none⟩) HA5.out.2.1 (.int .i64 n0)).setCell (p := ⟨p, 1, none⟩) HA5.out.2.1 (.int .i64 n1)).setCell (p := ⟨p, 2, none⟩) HA5.out.2.1 (.int .i64 n2)).setCell (p := ⟨p, 3, none⟩) HA5.out.2.1 (.int .i64 n3))
    ((refine wpAnyH_take (i := 20) (v := ?_) rfl (by kernel_rfl) (by kernel_rfl) (by kernel_rfl) (fun _ _ _ h => h) (Or.inl ⟨by rfl, ?_⟩) (by assumption) ?_; rotate_left; (· intro w hSw; (try dsimp only at hSw); go_simp; first | done | with_reducible rfl); (try simp only [List.getElem_toArray, List.getElem_cons_zero, List.getElem_cons_succ, Act.put, List.setIfInBounds_toArray, List.set_cons_zero, List.set_cons_succ])))
    (refine wpAnyH_ready (rs := [22]) (by kernel_rfl) (by simp) ?_; refine AllReadyH.cons (i := 22) rfl (fun K hK => ?_) AllReadyH.nil)
    go_simp
    (refine hK.out _ _ (⟨And.left (HP.out.ever _ HD9.out), And.right (HP.out.ever _ HD9.out)⟩) (fun hHeld => ?_); clear hK K; (try simp only [List.getElem_toArray, List.getElem_cons_zero, List.getElem_cons_succ, Act.put, List.setIfInBounds_toArray, List.set_cons_zero, List.set_cons_succ]))
    (refine wpAnyH_done (by kernel_rfl) ?_ _; refine NoPanic.normal ?_)
    clear hHeld
    go_wp2_with fail
    go_ret
    refine ⟨p, w.heap.size + 1, rfl, Nat.le_trans HB0.out.size HA5.out.2.1, by omega, ?_, by rw [HD9.out.cell (p := ⟨w.heap.size + 1, 0, none⟩) HX.out.2]; exact HX.out.1, HB0.out.trans (HD9.out.mono HB0.out.size)⟩
    refine ⟨?_, ?_, ?_, ?_⟩ <;> first | (go_simp; done) | (simp [z0, z1, z2, z3]; done)
end Go.Proofs.Ytjfnecmnofcjbaa
