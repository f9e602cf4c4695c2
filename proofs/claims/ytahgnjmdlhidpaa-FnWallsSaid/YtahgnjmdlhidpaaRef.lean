/-
  Particles that walls throw back.
-/
import Derived.Test.YtahgnjmdlhidpaaWal
import Derived.Test.YtahgnjmdlhidpaaRegB
import Derived.Deep.QuietTactic
import Derived.BigQuiet
namespace Go.Proofs.Ytahgnjmdlhidpaa
open Go.Fl Go.RowKit
set_option linter.unusedSimpArgs false
set_option linter.unusedVariables false

set_option maxHeartbeats 1000000 in
set_option maxRecDepth 100000 in
theorem iThrow_no (w0 : World) (B g n cap wa kb cb lo hi keep : Nat) (c : Int) (rs : List Pq) (k : Nat) (t : Pq) (w : World) (h : Push w0 B (some ⟨g, 0, none⟩) n cap wa kb cb lo hi keep c rs w) (hkt : rs[k]? = some t)
    (n0 : Num lo) (n1 : Num hi) (nk : Num keep) (h1 : t.ok) (h2 : (reflF lo hi keep t).ok) (ho : outB lo hi t = false) (c0 : 0 ≤ c) (c1 : c ≤ 1000) :
    Calls Try.prog 69 #[.pointer (some ⟨g, k * 4, none⟩), .pointer (some ⟨wa, 0, none⟩), .pointer (some ⟨kb, 0, none⟩), .pointer (some ⟨cb, 0, none⟩)] w fun e w' => e = .returned (.bool true) ∧
      Push w0 B (some ⟨g, 0, none⟩) n cap wa kb cb lo hi keep c (rs.set k (reflF lo hi keep t)) w' := by
  have HH := Lib.hid h; have HK := Lib.hid hkt; have HT := Lib.hid h1; have HT2 := Lib.hid h2; have HO := Lib.hid ho
  obtain ⟨hk, ht⟩ := List.getElem?_eq_some_iff.1 hkt
  obtain ⟨⟨b0, b1, b2, b3⟩, ⟨t0, t1, t2, t3⟩, ⟨f0, f1, f2⟩⟩ := h.cells hk
  rw [ht] at t0 t1 t2 t3
  clear ht
  clear h hk h1 h2 hkt ho
  go_enter Try.func69, Try.ntmps69
  go_wp2_with fail
  refine wp_region_noPanic ?_
  refine wp_region_held_drew (S := fun w' => (w'.cell? ⟨wa, 0, none⟩ = some (.float .f32 lo) ∧ w'.cell? ⟨wa, 1, none⟩ = some (.float .f32 hi)) ∧ w'.cell? ⟨g, k * 4, none⟩ = some (.complex .f32 t.a t.b) ∧ w'.cell? ⟨g, k * 4 + 1, none⟩ = some (.complex .f32 t.x t.y) ∧ w'.cell? ⟨g, k * 4 + 2, none⟩ = some (.float .f32 t.c) ∧ w'.cell? ⟨g, k * 4 + 3, none⟩ = some (.float .f32 t.s)) (by kernel_rfl) ⟨⟨b0, b1⟩, t0, t1, t2, t3⟩ (fun hHeld => ?_)
  ((refine wpAnyH_take (i := 0) (v := ?_) rfl (by kernel_rfl) (by kernel_rfl) (by kernel_rfl) (fun _ _ _ h => h) (Or.inl ⟨by rfl, ?_⟩) (by assumption) ?_; rotate_left; (· intro w hSw; (try dsimp only at hSw); go_simp; first | done | with_reducible rfl); (try simp only [List.getElem_toArray, List.getElem_cons_zero, List.getElem_cons_succ, Act.put, List.setIfInBounds_toArray, List.set_cons_zero, List.set_cons_succ])); (refine wpAnyH_take (i := 1) (v := ?_) rfl (by kernel_rfl) (by kernel_rfl) (by kernel_rfl) (fun _ _ _ h => h) (Or.inl ⟨by rfl, ?_⟩) (by assumption) ?_; rotate_left; (· intro w hSw; (try dsimp only at hSw); go_simp; first | done | with_reducible rfl); (try simp only [List.getElem_toArray, List.getElem_cons_zero, List.getElem_cons_succ, Act.put, List.setIfInBounds_toArray, List.set_cons_zero, List.set_cons_succ])); (refine wpAnyH_take (i := 2) (v := ?_) rfl (by kernel_rfl) (by kernel_rfl) (by kernel_rfl) (fun _ _ _ h => h) (Or.inl ⟨by rfl, ?_⟩) (by assumption) ?_; rotate_left; (· intro w hSw; (try dsimp only at hSw); go_simp; first | done | with_reducible rfl); (try simp only [List.getElem_toArray, List.getElem_cons_zero, List.getElem_cons_succ, Act.put, List.setIfInBounds_toArray, List.set_cons_zero, List.set_cons_succ])); (refine wpAnyH_take (i := 3) (v := ?_) rfl (by kernel_rfl) (by kernel_rfl) (by kernel_rfl) (fun _ _ _ h => h) (Or.inl ⟨by rfl, ?_⟩) (by assumption) ?_; rotate_left; (· intro w hSw; (try dsimp only at hSw); go_simp; first | done | with_reducible rfl); (try simp only [List.getElem_toArray, List.getElem_cons_zero, List.getElem_cons_succ, Act.put, List.setIfInBounds_toArray, List.set_cons_zero, List.set_cons_succ])))
  (refine wpAnyH_ready (rs := [4]) (by kernel_rfl) (by simp) ?_; refine AllReadyH.cons (i := 4) rfl (fun K hK => ?_) AllReadyH.nil)
  go_simp
  refine (iBeyond_no lo hi n0 n1 t HT.out HO.out _).mono ?_
  rintro e w1 ⟨rfl, hb1⟩
  have HP1 := Lib.hid (HH.out.step ((below_drewN (Below.refl w.heap.size w) 1).trans hb1))
  clear hb1 b0 b1 b2 b3 t0 t1 t2 t3 f0 f1 f2 HH
  obtain ⟨⟨b0, b1, b2, b3⟩, ⟨t0, t1, t2, t3⟩, ⟨f0, f1, f2⟩⟩ := HP1.out.cells (List.getElem?_eq_some_iff.1 HK.out).1
  rw [(List.getElem?_eq_some_iff.1 HK.out).2] at t0 t1 t2 t3
  go_wp2_with fail
  (refine hK.out _ _ (⟨⟨b0, b1⟩, t0, t1, t2, t3⟩) (fun hHeld => ?_); clear hK K; (try simp only [List.getElem_toArray, List.getElem_cons_zero, List.getElem_cons_succ, Act.put, List.setIfInBounds_toArray, List.set_cons_zero, List.set_cons_succ]))
  ((refine wpAnyH_take (i := 5) (v := ?_) rfl (by kernel_rfl) (by kernel_rfl) (by kernel_rfl) (fun _ _ _ h => h) (Or.inl ⟨by rfl, ?_⟩) (by assumption) ?_; rotate_left; (· intro w hSw; (try dsimp only at hSw); go_simp; first | done | with_reducible rfl); (try simp only [List.getElem_toArray, List.getElem_cons_zero, List.getElem_cons_succ, Act.put, List.setIfInBounds_toArray, List.set_cons_zero, List.set_cons_succ])); (refine wpAnyH_take (i := 6) (v := ?_) rfl (by kernel_rfl) (by kernel_rfl) (by kernel_rfl) (fun _ _ _ h => h) (Or.inl ⟨by rfl, ?_⟩) (by assumption) ?_; rotate_left; (· intro w hSw; (try dsimp only at hSw); go_simp; first | done | with_reducible rfl); (try simp only [List.getElem_toArray, List.getElem_cons_zero, List.getElem_cons_succ, Act.put, List.setIfInBounds_toArray, List.set_cons_zero, List.set_cons_succ])); (refine wpAnyH_take (i := 7) (v := ?_) rfl (by kernel_rfl) (by kernel_rfl) (by kernel_rfl) (fun _ _ _ h => h) (Or.inl ⟨by rfl, ?_⟩) (by assumption) ?_; rotate_left; (· intro w hSw; (try dsimp only at hSw); go_simp; first | done | with_reducible rfl); (try simp only [List.getElem_toArray, List.getElem_cons_zero, List.getElem_cons_succ, Act.put, List.setIfInBounds_toArray, List.set_cons_zero, List.set_cons_succ])); (refine wpAnyH_take (i := 8) (v := ?_) rfl (by kernel_rfl) (by kernel_rfl) (by kernel_rfl) (fun _ _ _ h => h) (Or.inl ⟨by rfl, ?_⟩) (by assumption) ?_; rotate_left; (· intro w hSw; (try dsimp only at hSw); go_simp; first | done | with_reducible rfl); (try simp only [List.getElem_toArray, List.getElem_cons_zero, List.getElem_cons_succ, Act.put, List.setIfInBounds_toArray, List.set_cons_zero, List.set_cons_succ])); (refine wpAnyH_take (i := 9) (v := ?_) rfl (by kernel_rfl) (by kernel_rfl) (by kernel_rfl) (fun _ _ _ h => h) (Or.inl ⟨by rfl, ?_⟩) (by assumption) ?_; rotate_left; (· intro w hSw; (try dsimp only at hSw); go_simp; first | done | with_reducible rfl); (try simp only [List.getElem_toArray, List.getElem_cons_zero, List.getElem_cons_succ, Act.put, List.setIfInBounds_toArray, List.set_cons_zero, List.set_cons_succ])))
  (refine wpAnyH_done (by kernel_rfl) ?_ _; refine NoPanic.normal ?_)
  clear hHeld
  have HR := Lib.hid (show reflF lo hi keep t = t by unfold reflF; rw [HO.out]; rfl)
  go_wp2_with fail
  refine (iValid_pq t HT.out _).mono ?_
  rintro e w2 ⟨rfl, hb2⟩
  go_wp2_with fail
  go_ret
  refine ⟨rfl, ?_⟩
  have hl : rs.set k (reflF lo hi keep t) = rs := by
    obtain ⟨hk, ht⟩ := List.getElem?_eq_some_iff.1 HK.out
    rw [HR.out, ← ht, List.set_getElem_self]
  rw [hl]
  exact HP1.out.step hb2

set_option maxHeartbeats 1000000 in
set_option maxRecDepth 100000 in
theorem iThrow_yes (w0 : World) (B g n cap wa kb cb lo hi keep : Nat) (c : Int) (rs : List Pq) (k : Nat) (t : Pq) (w : World) (h : Push w0 B (some ⟨g, 0, none⟩) n cap wa kb cb lo hi keep c rs w) (hkt : rs[k]? = some t)
    (n0 : Num lo) (n1 : Num hi) (nk : Num keep) (h1 : t.ok) (h2 : (reflF lo hi keep t).ok) (ho : outB lo hi t = true) (c0 : 0 ≤ c) (c1 : c ≤ 1000) :
    Calls Try.prog 69 #[.pointer (some ⟨g, k * 4, none⟩), .pointer (some ⟨wa, 0, none⟩), .pointer (some ⟨kb, 0, none⟩), .pointer (some ⟨cb, 0, none⟩)] w fun e w' => e = .returned (.bool true) ∧
      Push w0 B (some ⟨g, 0, none⟩) n cap wa kb cb lo hi keep (c + 1) (rs.set k (reflF lo hi keep t)) w' := by
  have HH := Lib.hid h; have HK := Lib.hid hkt; have HT := Lib.hid h1; have HT2 := Lib.hid h2; have HO := Lib.hid ho
  obtain ⟨hk, ht⟩ := List.getElem?_eq_some_iff.1 hkt
  obtain ⟨⟨b0, b1, b2, b3⟩, ⟨t0, t1, t2, t3⟩, ⟨f0, f1, f2⟩⟩ := h.cells hk
  rw [ht] at t0 t1 t2 t3
  clear ht
  clear h hk h1 h2 hkt ho
  go_enter Try.func69, Try.ntmps69
  go_wp2_with fail
  refine wp_region_noPanic ?_
  refine wp_region_held_drew (S := fun w' => (w'.cell? ⟨wa, 0, none⟩ = some (.float .f32 lo) ∧ w'.cell? ⟨wa, 1, none⟩ = some (.float .f32 hi)) ∧ w'.cell? ⟨g, k * 4, none⟩ = some (.complex .f32 t.a t.b) ∧ w'.cell? ⟨g, k * 4 + 1, none⟩ = some (.complex .f32 t.x t.y) ∧ w'.cell? ⟨g, k * 4 + 2, none⟩ = some (.float .f32 t.c) ∧ w'.cell? ⟨g, k * 4 + 3, none⟩ = some (.float .f32 t.s)) (by kernel_rfl) ⟨⟨b0, b1⟩, t0, t1, t2, t3⟩ (fun hHeld => ?_)
  ((refine wpAnyH_take (i := 0) (v := ?_) rfl (by kernel_rfl) (by kernel_rfl) (by kernel_rfl) (fun _ _ _ h => h) (Or.inl ⟨by rfl, ?_⟩) (by assumption) ?_; rotate_left; (· intro w hSw; (try dsimp only at hSw); go_simp; first | done | with_reducible rfl); (try simp only [List.getElem_toArray, List.getElem_cons_zero, List.getElem_cons_succ, Act.put, List.setIfInBounds_toArray, List.set_cons_zero, List.set_cons_succ])); (refine wpAnyH_take (i := 1) (v := ?_) rfl (by kernel_rfl) (by kernel_rfl) (by kernel_rfl) (fun _ _ _ h => h) (Or.inl ⟨by rfl, ?_⟩) (by assumption) ?_; rotate_left; (· intro w hSw; (try dsimp only at hSw); go_simp; first | done | with_reducible rfl); (try simp only [List.getElem_toArray, List.getElem_cons_zero, List.getElem_cons_succ, Act.put, List.setIfInBounds_toArray, List.set_cons_zero, List.set_cons_succ])); (refine wpAnyH_take (i := 2) (v := ?_) rfl (by kernel_rfl) (by kernel_rfl) (by kernel_rfl) (fun _ _ _ h => h) (Or.inl ⟨by rfl, ?_⟩) (by assumption) ?_; rotate_left; (· intro w hSw; (try dsimp only at hSw); go_simp; first | done | with_reducible rfl); (try simp only [List.getElem_toArray, List.getElem_cons_zero, List.getElem_cons_succ, Act.put, List.setIfInBounds_toArray, List.set_cons_zero, List.set_cons_succ])); (refine wpAnyH_take (i := 3) (v := ?_) rfl (by kernel_rfl) (by kernel_rfl) (by kernel_rfl) (fun _ _ _ h => h) (Or.inl ⟨by rfl, ?_⟩) (by assumption) ?_; rotate_left; (· intro w hSw; (try dsimp only at hSw); go_simp; first | done | with_reducible rfl); (try simp only [List.getElem_toArray, List.getElem_cons_zero, List.getElem_cons_succ, Act.put, List.setIfInBounds_toArray, List.set_cons_zero, List.set_cons_succ])))
  (refine wpAnyH_ready (rs := [4]) (by kernel_rfl) (by simp) ?_; refine AllReadyH.cons (i := 4) rfl (fun K hK => ?_) AllReadyH.nil)
  go_simp
  refine (iBeyond_yes lo hi n0 n1 t HT.out HO.out _).mono ?_
  rintro e w1 ⟨rfl, hb1⟩
  have HP1 := Lib.hid (HH.out.step ((below_drewN (Below.refl w.heap.size w) 1).trans hb1))
  clear hb1 b0 b1 b2 b3 t0 t1 t2 t3 f0 f1 f2 HH
  obtain ⟨⟨b0, b1, b2, b3⟩, ⟨t0, t1, t2, t3⟩, ⟨f0, f1, f2⟩⟩ := HP1.out.cells (List.getElem?_eq_some_iff.1 HK.out).1
  rw [(List.getElem?_eq_some_iff.1 HK.out).2] at t0 t1 t2 t3
  go_wp2_with fail
  (refine hK.out _ _ (⟨⟨b0, b1⟩, t0, t1, t2, t3⟩) (fun hHeld => ?_); clear hK K; (try simp only [List.getElem_toArray, List.getElem_cons_zero, List.getElem_cons_succ, Act.put, List.setIfInBounds_toArray, List.set_cons_zero, List.set_cons_succ]))
  ((refine wpAnyH_take (i := 5) (v := ?_) rfl (by kernel_rfl) (by kernel_rfl) (by kernel_rfl) (fun _ _ _ h => h) (Or.inl ⟨by rfl, ?_⟩) (by assumption) ?_; rotate_left; (· intro w hSw; (try dsimp only at hSw); go_simp; first | done | with_reducible rfl); (try simp only [List.getElem_toArray, List.getElem_cons_zero, List.getElem_cons_succ, Act.put, List.setIfInBounds_toArray, List.set_cons_zero, List.set_cons_succ])); (refine wpAnyH_take (i := 6) (v := ?_) rfl (by kernel_rfl) (by kernel_rfl) (by kernel_rfl) (fun _ _ _ h => h) (Or.inl ⟨by rfl, ?_⟩) (by assumption) ?_; rotate_left; (· intro w hSw; (try dsimp only at hSw); go_simp; first | done | with_reducible rfl); (try simp only [List.getElem_toArray, List.getElem_cons_zero, List.getElem_cons_succ, Act.put, List.setIfInBounds_toArray, List.set_cons_zero, List.set_cons_succ])); (refine wpAnyH_take (i := 7) (v := ?_) rfl (by kernel_rfl) (by kernel_rfl) (by kernel_rfl) (fun _ _ _ h => h) (Or.inl ⟨by rfl, ?_⟩) (by assumption) ?_; rotate_left; (· intro w hSw; (try dsimp only at hSw); go_simp; first | done | with_reducible rfl); (try simp only [List.getElem_toArray, List.getElem_cons_zero, List.getElem_cons_succ, Act.put, List.setIfInBounds_toArray, List.set_cons_zero, List.set_cons_succ])); (refine wpAnyH_take (i := 8) (v := ?_) rfl (by kernel_rfl) (by kernel_rfl) (by kernel_rfl) (fun _ _ _ h => h) (Or.inl ⟨by rfl, ?_⟩) (by assumption) ?_; rotate_left; (· intro w hSw; (try dsimp only at hSw); go_simp; first | done | with_reducible rfl); (try simp only [List.getElem_toArray, List.getElem_cons_zero, List.getElem_cons_succ, Act.put, List.setIfInBounds_toArray, List.set_cons_zero, List.set_cons_succ])); (refine wpAnyH_take (i := 9) (v := ?_) rfl (by kernel_rfl) (by kernel_rfl) (by kernel_rfl) (fun _ _ _ h => h) (Or.inl ⟨by rfl, ?_⟩) (by assumption) ?_; rotate_left; (· intro w hSw; (try dsimp only at hSw); go_simp; first | done | with_reducible rfl); (try simp only [List.getElem_toArray, List.getElem_cons_zero, List.getElem_cons_succ, Act.put, List.setIfInBounds_toArray, List.set_cons_zero, List.set_cons_succ])))
  (refine wpAnyH_done (by kernel_rfl) ?_ _; refine NoPanic.normal ?_)
  clear hHeld
  have HR := Lib.hid (show reflF lo hi keep t = throwF lo hi keep t by unfold reflF; rw [HO.out]; rfl)
  rw [HR.out] at HT2
  have HW := Lib.hid (show Num (wallF lo hi t) by unfold wallF; split <;> assumption)
  go_wp2_with fail
  refine wp_region_noPanic ?_
  refine region_runB_drew (S := fun w' => w'.cell? ⟨g, k * 4, none⟩ = some (.complex .f32 t.a t.b)) (by kernel_rfl) t0 (fun hHeld => ?_)
  ((refine runB_take (i := 0) (v := ?_) rfl (by kernel_rfl) (by kernel_rfl) (by kernel_rfl) (by kernel_rfl) (fun _ _ _ h => h) (Or.inl ⟨by rfl, ?_⟩) (by assumption) ?_; rotate_left; (· intro w hSw; (try dsimp only at hSw); go_simp; first | done | with_reducible rfl); (try simp only [List.getElem_toArray, List.getElem_cons_zero, List.getElem_cons_succ, Act.put, List.setIfInBounds_toArray, List.set_cons_zero, List.set_cons_succ])); (refine runB_take (i := 1) (v := ?_) rfl (by kernel_rfl) (by kernel_rfl) (by kernel_rfl) (by kernel_rfl) (fun _ _ _ h => h) (Or.inl ⟨by rfl, ?_⟩) (by assumption) ?_; rotate_left; (· intro w hSw; (try dsimp only at hSw); go_simp; first | done | with_reducible rfl); (try simp only [List.getElem_toArray, List.getElem_cons_zero, List.getElem_cons_succ, Act.put, List.setIfInBounds_toArray, List.set_cons_zero, List.set_cons_succ])); (refine runB_take (i := 3) (v := ?_) rfl (by kernel_rfl) (by kernel_rfl) (by kernel_rfl) (by kernel_rfl) (fun _ _ _ h => h) (Or.inl ⟨by rfl, ?_⟩) (by assumption) ?_; rotate_left; (· intro w hSw; (try dsimp only at hSw); go_simp; first | done | with_reducible rfl); (try simp only [List.getElem_toArray, List.getElem_cons_zero, List.getElem_cons_succ, Act.put, List.setIfInBounds_toArray, List.set_cons_zero, List.set_cons_succ])); (refine runB_take (i := 4) (v := ?_) rfl (by kernel_rfl) (by kernel_rfl) (by kernel_rfl) (by kernel_rfl) (fun _ _ _ h => h) (Or.inl ⟨by rfl, ?_⟩) (by assumption) ?_; rotate_left; (· intro w hSw; (try dsimp only at hSw); go_simp; first | done | with_reducible rfl); (try simp only [List.getElem_toArray, List.getElem_cons_zero, List.getElem_cons_succ, Act.put, List.setIfInBounds_toArray, List.set_cons_zero, List.set_cons_succ])); (refine runB_take (i := 5) (v := ?_) rfl (by kernel_rfl) (by kernel_rfl) (by kernel_rfl) (by kernel_rfl) (fun _ _ _ h => h) (Or.inl ⟨by rfl, ?_⟩) (by assumption) ?_; rotate_left; (· intro w hSw; (try dsimp only at hSw); go_simp; first | done | with_reducible rfl); (try simp only [List.getElem_toArray, List.getElem_cons_zero, List.getElem_cons_succ, Act.put, List.setIfInBounds_toArray, List.set_cons_zero, List.set_cons_succ])); (refine runB_take (i := 6) (v := ?_) rfl (by kernel_rfl) (by kernel_rfl) (by kernel_rfl) (by kernel_rfl) (fun _ _ _ h => h) (Or.inl ⟨by rfl, ?_⟩) (by assumption) ?_; rotate_left; (· intro w hSw; (try dsimp only at hSw); go_simp; first | done | with_reducible rfl); (try simp only [List.getElem_toArray, List.getElem_cons_zero, List.getElem_cons_succ, Act.put, List.setIfInBounds_toArray, List.set_cons_zero, List.set_cons_succ])); (refine runB_take (i := 7) (v := ?_) rfl (by kernel_rfl) (by kernel_rfl) (by kernel_rfl) (by kernel_rfl) (fun _ _ _ h => h) (Or.inl ⟨by rfl, ?_⟩) (by assumption) ?_; rotate_left; (· intro w hSw; (try dsimp only at hSw); go_simp; first | done | with_reducible rfl); (try simp only [List.getElem_toArray, List.getElem_cons_zero, List.getElem_cons_succ, Act.put, List.setIfInBounds_toArray, List.set_cons_zero, List.set_cons_succ])); (refine runB_take (i := 9) (v := ?_) rfl (by kernel_rfl) (by kernel_rfl) (by kernel_rfl) (by kernel_rfl) (fun _ _ _ h => h) (Or.inl ⟨by rfl, ?_⟩) (by assumption) ?_; rotate_left; (· intro w hSw; (try dsimp only at hSw); go_simp; first | done | with_reducible rfl); (try simp only [List.getElem_toArray, List.getElem_cons_zero, List.getElem_cons_succ, Act.put, List.setIfInBounds_toArray, List.set_cons_zero, List.set_cons_succ])); (refine runB_take (i := 10) (v := ?_) rfl (by kernel_rfl) (by kernel_rfl) (by kernel_rfl) (by kernel_rfl) (fun _ _ _ h => h) (Or.inl ⟨by rfl, ?_⟩) (by assumption) ?_; rotate_left; (· intro w hSw; (try dsimp only at hSw); go_simp; first | done | with_reducible rfl); (try simp only [List.getElem_toArray, List.getElem_cons_zero, List.getElem_cons_succ, Act.put, List.setIfInBounds_toArray, List.set_cons_zero, List.set_cons_succ])); (refine runB_take (i := 11) (v := ?_) rfl (by kernel_rfl) (by kernel_rfl) (by kernel_rfl) (by kernel_rfl) (fun _ _ _ h => h) (Or.inl ⟨by rfl, ?_⟩) (by assumption) ?_; rotate_left; (· intro w hSw; (try dsimp only at hSw); go_simp; first | done | with_reducible rfl); (try simp only [List.getElem_toArray, List.getElem_cons_zero, List.getElem_cons_succ, Act.put, List.setIfInBounds_toArray, List.set_cons_zero, List.set_cons_succ])); (refine runB_take (i := 12) (v := ?_) rfl (by kernel_rfl) (by kernel_rfl) (by kernel_rfl) (by kernel_rfl) (fun _ _ _ h => h) (Or.inl ⟨by rfl, ?_⟩) (by assumption) ?_; rotate_left; (· intro w hSw; (try dsimp only at hSw); go_simp; first | done | with_reducible rfl); (try simp only [List.getElem_toArray, List.getElem_cons_zero, List.getElem_cons_succ, Act.put, List.setIfInBounds_toArray, List.set_cons_zero, List.set_cons_succ])); (refine runB_take (i := 13) (v := ?_) rfl (by kernel_rfl) (by kernel_rfl) (by kernel_rfl) (by kernel_rfl) (fun _ _ _ h => h) (Or.inl ⟨by rfl, ?_⟩) (by assumption) ?_; rotate_left; (· intro w hSw; (try dsimp only at hSw); go_simp; first | done | with_reducible rfl); (try simp only [List.getElem_toArray, List.getElem_cons_zero, List.getElem_cons_succ, Act.put, List.setIfInBounds_toArray, List.set_cons_zero, List.set_cons_succ])))
  (refine runB_next (rs := [2]) (by kernel_rfl) (by simp) ?_; refine NextB.cons (i := 2) rfl (fun K hK => ?_) NextB.nil)
  refine hstep_fa rfl .mul 27 27 _ _ rfl rfl .f32 1073741824 (wallF lo hi t) rfl rfl (Is.const rfl) HW.out.is ?_
  intro r1 m1 hr1
  (refine hK.out _ _ (fun _ => t0) ?_; clear hK K; (try simp only [List.getElem_toArray, List.getElem_cons_zero, List.getElem_cons_succ, Act.put, List.setIfInBounds_toArray, List.set_cons_zero, List.set_cons_succ]))
  (refine runB_next (rs := [8]) (by kernel_rfl) (by simp) ?_; refine NextB.cons (i := 8) rfl (fun K hK => ?_) NextB.nil)
  refine hstep_fa rfl .sub 27 27 _ _ rfl rfl .f32 r1 t.a rfl rfl hr1 HT.out.na.is ?_
  intro r2 m2 hr2
  have E2 := Lib.hid (num_eq hr2 HT2.out.na)
  clear hr2
  (refine hK.out _ _ (fun _ => t0) ?_; clear hK K; (try simp only [List.getElem_toArray, List.getElem_cons_zero, List.getElem_cons_succ, Act.put, List.setIfInBounds_toArray, List.set_cons_zero, List.set_cons_succ]))
  ((refine runB_take (i := 14) (v := ?_) rfl (by kernel_rfl) (by kernel_rfl) (by kernel_rfl) (by kernel_rfl) (fun _ _ _ h => h) (Or.inl ⟨by rfl, ?_⟩) (by assumption) ?_; rotate_left; (· intro w hSw; (try dsimp only at hSw); go_simp; first | done | with_reducible rfl); (try simp only [List.getElem_toArray, List.getElem_cons_zero, List.getElem_cons_succ, Act.put, List.setIfInBounds_toArray, List.set_cons_zero, List.set_cons_succ])); (refine runB_take (i := 15) (v := ?_) rfl (by kernel_rfl) (by kernel_rfl) (by kernel_rfl) (by kernel_rfl) (fun _ _ _ h => h) (Or.inl ⟨by rfl, ?_⟩) (by assumption) ?_; rotate_left; (· intro w hSw; (try dsimp only at hSw); go_simp; first | done | with_reducible rfl); (try simp only [List.getElem_toArray, List.getElem_cons_zero, List.getElem_cons_succ, Act.put, List.setIfInBounds_toArray, List.set_cons_zero, List.set_cons_succ])); (refine runB_take (i := 16) (v := ?_) rfl (by kernel_rfl) (by kernel_rfl) (by kernel_rfl) (by kernel_rfl) (fun _ _ _ h => h) (Or.inl ⟨by rfl, ?_⟩) (by assumption) ?_; rotate_left; (· intro w hSw; (try dsimp only at hSw); go_simp; first | done | with_reducible rfl); (try simp only [List.getElem_toArray, List.getElem_cons_zero, List.getElem_cons_succ, Act.put, List.setIfInBounds_toArray, List.set_cons_zero, List.set_cons_succ])))
  have HP2 := Lib.hid ((HP1.out.step (below_drewN (Below.refl w1.heap.size w1) (1 + m1 + m2))).setG (q_setA ((HP1.out.step (below_drewN (Below.refl w1.heap.size w1) (1 + m1 + m2))).own) (List.getElem?_eq_some_iff.1 HK.out).1 r2))
  have hd0 : (w1.drewN (1 + m1 + m2)).cell? ⟨g, k * 4, none⟩ = some (.complex .f32 t.a t.b) := t0
  have hf0 : (w1.drewN (1 + m1 + m2)).frozen? ⟨g, k * 4, none⟩ = false := f0
  rw [(List.getElem?_eq_some_iff.1 HK.out).2] at HP2
  (refine runB_next (rs := [17]) (by kernel_rfl) (by simp) ?_; refine NextB.cons (i := 17) rfl (fun K hK => ?_) NextB.nil)
  go_simp
  (refine hK.out _ _ (no_due (by kernel_rfl) _) ?_; clear hK K; (try simp only [List.getElem_toArray, List.getElem_cons_zero, List.getElem_cons_succ, Act.put, List.setIfInBounds_toArray, List.set_cons_zero, List.set_cons_succ]))
  (refine runB_done (by kernel_rfl) ?_ _; refine NoPanic.normal ?_)
  clear hHeld hd0 hf0 hr1
  have HK2 := Lib.hid (show (rs.set k ⟨r2, t.b, t.x, t.y, t.c, t.s⟩)[k]? = some ⟨r2, t.b, t.x, t.y, t.c, t.s⟩ from by
    obtain ⟨hk, _⟩ := List.getElem?_eq_some_iff.1 HK.out
    rw [List.getElem?_set_self hk])
  generalize (w1.drewN (1 + m1 + m2)).setCell ⟨g, k * 4, none⟩ (.complex .f32 r2 t.b) = w2 at HP2 ⊢
  clear b0 b1 b2 b3 t0 t1 t2 t3 f0 f1 f2 HP1
  obtain ⟨⟨b0, b1, b2, b3⟩, ⟨t0, t1, t2, t3⟩, ⟨f0, f1, f2⟩⟩ := HP2.out.cells (List.getElem?_eq_some_iff.1 HK2.out).1
  rw [(List.getElem?_eq_some_iff.1 HK2.out).2] at t0 t1 t2 t3
  dsimp only at t0 t1 t2 t3
  go_wp2_with fail
  refine wp_region_noPanic ?_
  refine region_runB_drew (S := fun w' => w'.cell? ⟨g, k * 4 + 1, none⟩ = some (.complex .f32 t.x t.y) ∧ w'.cell? ⟨kb, 0, none⟩ = some (.float .f32 keep)) (by kernel_rfl) ⟨t1, b2⟩ (fun hHeld => ?_)
  ((refine runB_take (i := 0) (v := ?_) rfl (by kernel_rfl) (by kernel_rfl) (by kernel_rfl) (by kernel_rfl) (fun _ _ _ h => h) (Or.inl ⟨by rfl, ?_⟩) (by assumption) ?_; rotate_left; (· intro w hSw; (try dsimp only at hSw); go_simp; first | done | with_reducible rfl); (try simp only [List.getElem_toArray, List.getElem_cons_zero, List.getElem_cons_succ, Act.put, List.setIfInBounds_toArray, List.set_cons_zero, List.set_cons_succ])); (refine runB_take (i := 1) (v := ?_) rfl (by kernel_rfl) (by kernel_rfl) (by kernel_rfl) (by kernel_rfl) (fun _ _ _ h => h) (Or.inl ⟨by rfl, ?_⟩) (by assumption) ?_; rotate_left; (· intro w hSw; (try dsimp only at hSw); go_simp; first | done | with_reducible rfl); (try simp only [List.getElem_toArray, List.getElem_cons_zero, List.getElem_cons_succ, Act.put, List.setIfInBounds_toArray, List.set_cons_zero, List.set_cons_succ])); (refine runB_take (i := 2) (v := ?_) rfl (by kernel_rfl) (by kernel_rfl) (by kernel_rfl) (by kernel_rfl) (fun _ _ _ h => h) (Or.inl ⟨by rfl, ?_⟩) (by assumption) ?_; rotate_left; (· intro w hSw; (try dsimp only at hSw); go_simp; first | done | with_reducible rfl); (try simp only [List.getElem_toArray, List.getElem_cons_zero, List.getElem_cons_succ, Act.put, List.setIfInBounds_toArray, List.set_cons_zero, List.set_cons_succ])); (refine runB_take (i := 3) (v := ?_) rfl (by kernel_rfl) (by kernel_rfl) (by kernel_rfl) (by kernel_rfl) (fun _ _ _ h => h) (Or.inl ⟨by rfl, ?_⟩) (by assumption) ?_; rotate_left; (· intro w hSw; (try dsimp only at hSw); go_simp; first | done | with_reducible rfl); (try simp only [List.getElem_toArray, List.getElem_cons_zero, List.getElem_cons_succ, Act.put, List.setIfInBounds_toArray, List.set_cons_zero, List.set_cons_succ])); (refine runB_take (i := 4) (v := ?_) rfl (by kernel_rfl) (by kernel_rfl) (by kernel_rfl) (by kernel_rfl) (fun _ _ _ h => h) (Or.inl ⟨by rfl, ?_⟩) (by assumption) ?_; rotate_left; (· intro w hSw; (try dsimp only at hSw); go_simp; first | done | with_reducible rfl); (try simp only [List.getElem_toArray, List.getElem_cons_zero, List.getElem_cons_succ, Act.put, List.setIfInBounds_toArray, List.set_cons_zero, List.set_cons_succ])); (refine runB_take (i := 5) (v := ?_) rfl (by kernel_rfl) (by kernel_rfl) (by kernel_rfl) (by kernel_rfl) (fun _ _ _ h => h) (Or.inl ⟨by rfl, ?_⟩) (by assumption) ?_; rotate_left; (· intro w hSw; (try dsimp only at hSw); go_simp; first | done | with_reducible rfl); (try simp only [List.getElem_toArray, List.getElem_cons_zero, List.getElem_cons_succ, Act.put, List.setIfInBounds_toArray, List.set_cons_zero, List.set_cons_succ])); (refine runB_take (i := 7) (v := ?_) rfl (by kernel_rfl) (by kernel_rfl) (by kernel_rfl) (by kernel_rfl) (fun _ _ _ h => h) (Or.inl ⟨by rfl, ?_⟩) (by assumption) ?_; rotate_left; (· intro w hSw; (try dsimp only at hSw); go_simp; first | done | with_reducible rfl); (try simp only [List.getElem_toArray, List.getElem_cons_zero, List.getElem_cons_succ, Act.put, List.setIfInBounds_toArray, List.set_cons_zero, List.set_cons_succ])); (refine runB_take (i := 9) (v := ?_) rfl (by kernel_rfl) (by kernel_rfl) (by kernel_rfl) (by kernel_rfl) (fun _ _ _ h => h) (Or.inl ⟨by rfl, ?_⟩) (by assumption) ?_; rotate_left; (· intro w hSw; (try dsimp only at hSw); go_simp; first | done | with_reducible rfl); (try simp only [List.getElem_toArray, List.getElem_cons_zero, List.getElem_cons_succ, Act.put, List.setIfInBounds_toArray, List.set_cons_zero, List.set_cons_succ])); (refine runB_take (i := 10) (v := ?_) rfl (by kernel_rfl) (by kernel_rfl) (by kernel_rfl) (by kernel_rfl) (fun _ _ _ h => h) (Or.inl ⟨by rfl, ?_⟩) (by assumption) ?_; rotate_left; (· intro w hSw; (try dsimp only at hSw); go_simp; first | done | with_reducible rfl); (try simp only [List.getElem_toArray, List.getElem_cons_zero, List.getElem_cons_succ, Act.put, List.setIfInBounds_toArray, List.set_cons_zero, List.set_cons_succ])); (refine runB_take (i := 11) (v := ?_) rfl (by kernel_rfl) (by kernel_rfl) (by kernel_rfl) (by kernel_rfl) (fun _ _ _ h => h) (Or.inl ⟨by rfl, ?_⟩) (by assumption) ?_; rotate_left; (· intro w hSw; (try dsimp only at hSw); go_simp; first | done | with_reducible rfl); (try simp only [List.getElem_toArray, List.getElem_cons_zero, List.getElem_cons_succ, Act.put, List.setIfInBounds_toArray, List.set_cons_zero, List.set_cons_succ])); (refine runB_take (i := 12) (v := ?_) rfl (by kernel_rfl) (by kernel_rfl) (by kernel_rfl) (by kernel_rfl) (fun _ _ _ h => h) (Or.inl ⟨by rfl, ?_⟩) (by assumption) ?_; rotate_left; (· intro w hSw; (try dsimp only at hSw); go_simp; first | done | with_reducible rfl); (try simp only [List.getElem_toArray, List.getElem_cons_zero, List.getElem_cons_succ, Act.put, List.setIfInBounds_toArray, List.set_cons_zero, List.set_cons_succ])); (refine runB_take (i := 13) (v := ?_) rfl (by kernel_rfl) (by kernel_rfl) (by kernel_rfl) (by kernel_rfl) (fun _ _ _ h => h) (Or.inl ⟨by rfl, ?_⟩) (by assumption) ?_; rotate_left; (· intro w hSw; (try dsimp only at hSw); go_simp; first | done | with_reducible rfl); (try simp only [List.getElem_toArray, List.getElem_cons_zero, List.getElem_cons_succ, Act.put, List.setIfInBounds_toArray, List.set_cons_zero, List.set_cons_succ])))
  ((refine runB_take (i := 6) (v := ?_) rfl (by kernel_rfl) (by kernel_rfl) (by kernel_rfl) (by kernel_rfl) (fun _ _ _ h => h) (Or.inl ⟨by rfl, ?_⟩) (by assumption) ?_; rotate_left; (· intro w hSw; (try dsimp only at hSw); go_simp; first | done | with_reducible rfl); (try simp only [List.getElem_toArray, List.getElem_cons_zero, List.getElem_cons_succ, Act.put, List.setIfInBounds_toArray, List.set_cons_zero, List.set_cons_succ])))
  (refine runB_next (rs := [8]) (by kernel_rfl) (by simp) ?_; refine NextB.cons (i := 8) rfl (fun K hK => ?_) NextB.nil)
  refine hstep_fa rfl .mul 27 27 _ _ rfl rfl .f32 (Op.negFloat .f32 t.x) keep rfl rfl (num_neg HT.out.nx).is nk.is ?_
  intro r3 m3 hr3
  have E3 := Lib.hid (num_eq hr3 HT2.out.nx)
  clear hr3
  (refine hK.out _ _ (fun _ => ⟨t1, b2⟩) ?_; clear hK K; (try simp only [List.getElem_toArray, List.getElem_cons_zero, List.getElem_cons_succ, Act.put, List.setIfInBounds_toArray, List.set_cons_zero, List.set_cons_succ]))
  ((refine runB_take (i := 14) (v := ?_) rfl (by kernel_rfl) (by kernel_rfl) (by kernel_rfl) (by kernel_rfl) (fun _ _ _ h => h) (Or.inl ⟨by rfl, ?_⟩) (by assumption) ?_; rotate_left; (· intro w hSw; (try dsimp only at hSw); go_simp; first | done | with_reducible rfl); (try simp only [List.getElem_toArray, List.getElem_cons_zero, List.getElem_cons_succ, Act.put, List.setIfInBounds_toArray, List.set_cons_zero, List.set_cons_succ])); (refine runB_take (i := 15) (v := ?_) rfl (by kernel_rfl) (by kernel_rfl) (by kernel_rfl) (by kernel_rfl) (fun _ _ _ h => h) (Or.inl ⟨by rfl, ?_⟩) (by assumption) ?_; rotate_left; (· intro w hSw; (try dsimp only at hSw); go_simp; first | done | with_reducible rfl); (try simp only [List.getElem_toArray, List.getElem_cons_zero, List.getElem_cons_succ, Act.put, List.setIfInBounds_toArray, List.set_cons_zero, List.set_cons_succ])); (refine runB_take (i := 16) (v := ?_) rfl (by kernel_rfl) (by kernel_rfl) (by kernel_rfl) (by kernel_rfl) (fun _ _ _ h => h) (Or.inl ⟨by rfl, ?_⟩) (by assumption) ?_; rotate_left; (· intro w hSw; (try dsimp only at hSw); go_simp; first | done | with_reducible rfl); (try simp only [List.getElem_toArray, List.getElem_cons_zero, List.getElem_cons_succ, Act.put, List.setIfInBounds_toArray, List.set_cons_zero, List.set_cons_succ])))
  have HP3 := Lib.hid ((HP2.out.step (below_drewN (Below.refl w2.heap.size w2) (1 + m3))).setG (q_setX ((HP2.out.step (below_drewN (Below.refl w2.heap.size w2) (1 + m3))).own) (List.getElem?_eq_some_iff.1 HK2.out).1 r3))
  have hd0 : (w2.drewN (1 + m3)).cell? ⟨g, k * 4 + 1, none⟩ = some (.complex .f32 t.x t.y) := t1
  have hf0 : (w2.drewN (1 + m3)).frozen? ⟨g, k * 4 + 1, none⟩ = false := f1
  rw [(List.getElem?_eq_some_iff.1 HK2.out).2] at HP3
  have HL3 := Lib.hid (show (rs.set k ⟨r2, t.b, t.x, t.y, t.c, t.s⟩).set k ⟨r2, t.b, r3, t.y, t.c, t.s⟩ = rs.set k (reflF lo hi keep t) by
    rw [List.set_set, HR.out, E2.out, E3.out]; rfl)
  dsimp only at HP3
  rw [HL3.out] at HP3
  (refine runB_next (rs := [17]) (by kernel_rfl) (by simp) ?_; refine NextB.cons (i := 17) rfl (fun K hK => ?_) NextB.nil)
  go_simp
  (refine hK.out _ _ (no_due (by kernel_rfl) _) ?_; clear hK K; (try simp only [List.getElem_toArray, List.getElem_cons_zero, List.getElem_cons_succ, Act.put, List.setIfInBounds_toArray, List.set_cons_zero, List.set_cons_succ]))
  (refine runB_done (by kernel_rfl) ?_ _; refine NoPanic.normal ?_)
  clear hHeld hd0 hf0
  have HK3 := Lib.hid (show (rs.set k (reflF lo hi keep t))[k]? = some ⟨r2, t.b, r3, t.y, t.c, t.s⟩ from by
    obtain ⟨hk, _⟩ := List.getElem?_eq_some_iff.1 HK.out
    rw [List.getElem?_set_self hk, HR.out, E2.out, E3.out]; rfl)
  have HV := Lib.hid (show (⟨r2, t.b, r3, t.y, t.c, t.s⟩ : Pq).ok from by rw [E2.out, E3.out]; exact HT2.out)
  generalize (w2.drewN (1 + m3)).setCell ⟨g, k * 4 + 1, none⟩ (.complex .f32 r3 t.y) = w3 at HP3 ⊢
  clear b0 b1 b2 b3 t0 t1 t2 t3 f0 f1 f2 HP2
  obtain ⟨⟨b0, b1, b2, b3⟩, _, ⟨f0, f1, f2⟩⟩ := HP3.out.cells (List.getElem?_eq_some_iff.1 HK3.out).1
  have hw1 : wrap64 (c + 1) = c + 1 := wrap64_of (by omega) (by omega)
  have HP4 := Lib.hid (HP3.out.setC (c + 1))
  obtain ⟨_, ⟨t0, t1, t2, t3⟩, _⟩ := HP4.out.cells (List.getElem?_eq_some_iff.1 HK3.out).1
  rw [(List.getElem?_eq_some_iff.1 HK3.out).2] at t0 t1 t2 t3
  dsimp only at t0 t1 t2 t3
  go_wp2_with fail
  refine (iValid_pq ⟨r2, t.b, r3, t.y, t.c, t.s⟩ HV.out _).mono ?_
  rintro e w5 ⟨rfl, hb5⟩
  have HP5 := Lib.hid (HP4.out.step hb5)
  clear hb5
  go_wp2_with fail
  go_ret
  exact ⟨rfl, HP5.out⟩

/-- How many of the first k are beyond a wall. -/
def cntO (lo hi : Nat) (ts : List Pq) (k : Nat) : Int := ((ts.take k).countP (outB lo hi) : Nat)
theorem cntO_succ (lo hi : Nat) (ts : List Pq) {k : Nat} {t : Pq} (h : ts[k]? = some t) : cntO lo hi ts (k + 1) = cntO lo hi ts k + if outB lo hi t = true then 1 else 0 := by
  obtain ⟨hk, ht⟩ := List.getElem?_eq_some_iff.1 h
  unfold cntO
  rw [List.take_succ_eq_append_getElem hk, List.countP_append, ht, List.countP_singleton]
  cases outB lo hi t <;> simp
theorem cntO_in (lo hi : Nat) (ts : List Pq) (k : Nat) (hn : ts.length ≤ 64) : 0 ≤ cntO lo hi ts k ∧ cntO lo hi ts k ≤ 64 := by
  unfold cntO
  have h1 := List.countP_le_length (p := outB lo hi) (l := ts.take k)
  have h2 : (ts.take k).length ≤ ts.length := by rw [List.length_take]; exact Nat.min_le_right _ _
  omega
theorem iThrow_any (w0 : World) (B g n cap wa kb cb lo hi keep : Nat) (ts : List Pq) (k : Nat) (w : World) (h : Push w0 B (some ⟨g, 0, none⟩) n cap wa kb cb lo hi keep (cntO lo hi ts k) (reflTo (reflF lo hi keep) ts k) w) (hk : k < ts.length) (hn : ts.length ≤ 64)
    (n0 : Num lo) (n1 : Num hi) (nk : Num keep) (h1 : okq ts) (h2 : ∀ t ∈ ts, (reflF lo hi keep t).ok) :
    Calls Try.prog 69 #[.pointer (some ⟨g, k * 4, none⟩), .pointer (some ⟨wa, 0, none⟩), .pointer (some ⟨kb, 0, none⟩), .pointer (some ⟨cb, 0, none⟩)] w fun e w' => e = .returned (.bool true) ∧
      Push w0 B (some ⟨g, 0, none⟩) n cap wa kb cb lo hi keep (cntO lo hi ts (k + 1)) (reflTo (reflF lo hi keep) ts (k + 1)) w' := by
  have hkt : (reflTo (reflF lo hi keep) ts k)[k]? = some ts[k] := by
    rw [List.getElem?_eq_getElem (by rw [reflTo_len]; exact hk), reflTo_at _ _ hk]
  have hc := cntO_in lo hi ts k hn
  have hs := cntO_succ lo hi ts (List.getElem?_eq_getElem hk)
  have hm := List.getElem_mem hk
  cases ho : outB lo hi ts[k] with
  | false =>
    rw [ho] at hs
    refine (iThrow_no w0 B g n cap wa kb cb lo hi keep _ _ k _ w h hkt n0 n1 nk (h1 _ hm) (h2 _ hm) ho hc.1 (by omega)).mono ?_
    rintro e w' ⟨he, hp⟩
    rw [reflTo_set _ _ hk] at hp
    exact ⟨he, by rw [hs]; simpa using hp⟩
  | true =>
    rw [ho] at hs
    refine (iThrow_yes w0 B g n cap wa kb cb lo hi keep _ _ k _ w h hkt n0 n1 nk (h1 _ hm) (h2 _ hm) ho hc.1 (by omega)).mono ?_
    rintro e w' ⟨he, hp⟩
    rw [reflTo_set _ _ hk] at hp
    exact ⟨he, by rw [hs]; simpa using hp⟩

end Go.Proofs.Ytahgnjmdlhidpaa
