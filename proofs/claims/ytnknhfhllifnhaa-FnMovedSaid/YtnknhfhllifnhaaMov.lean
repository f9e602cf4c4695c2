/-
  The charge of a cloud, exactly (the program): what its particles leave, and its back everywhere.
  The program's CloudCharge and MoveCloud, of clouds of particles in eighths.
-/
import Derived.Test.YtnknhfhllifnhaaCg
import Derived.Test.YtnknhfhllifnhaaDep
import Derived.Test.YtnknhfhllifnhaaChg
import Derived.Test.YtnknhfhllifnhaaYf
import Derived.Test.YtnknhfhllifnhaaRegB
import Derived.Test.YtnknhfhllifnhaaR8L
import Derived.Shelf.Abstract
import Derived.Deep.CutRange
import Derived.Test.YtnknhfhllifnhaaShP
import Derived.Test.YtnknhfhllifnhaaPtS
namespace Go.Proofs.Ytnknhfhllifnhaa
open Go.Fl Go.RowKit
set_option linter.unusedSimpArgs false
set_option linter.unusedVariables false

theorem fo_at {B : Nat} {w : World} {g n cap : Nat} {xs : List Nat} (h : FOwn B w (.slice (some ⟨g, 0, none⟩) n cap) xs) {j : Nat} (hj : j < xs.length) : w.cell? ⟨g, j, none⟩ = some (.float .f32 (xs.getD j 0)) ∧ w.frozen? ⟨g, j, none⟩ = false ∧ n = xs.length := by
  unfold FOwn at h
  have hn : n = xs.length := by
    rcases h.2 with ⟨h', h0⟩ | ⟨g', cap', cur, h', _⟩
    · cases h'
    · simp only [Value.slice.injEq] at h'; exact h'.2.1
  subst hn
  refine ⟨?_, h.frozenAt j, rfl⟩
  rw [h.cellAt j (by omega), List.getElem?_map, List.getElem?_eq_getElem hj]
  simp [List.getD, List.getElem?_eq_getElem hj]
theorem fo_put {B : Nat} {w : World} {g n cap : Nat} {xs : List Nat} (h : FOwn B w (.slice (some ⟨g, 0, none⟩) n cap) xs) {j : Nat} (hj : j < xs.length) (r : Nat) : FOwn B (w.setCell ⟨g, j, none⟩ (.float .f32 r)) (.slice (some ⟨g, 0, none⟩) n cap) (xs.set j r) := by
  obtain ⟨_, _, rfl⟩ := fo_at h hj
  unfold FOwn at h ⊢
  have h1 := (h.stored j (.float .f32 r)).1
  rw [List.length_set, List.map_set]
  exact h1
theorem heap_cell_far' {w : World} {b k : Nat} {o : Nat} {v : Value} {r : Obj} (h : w.heap[k]? = some r) (hne : k ≠ b) : (w.setCell ⟨b, o, none⟩ v).heap[k]? = some r :=
  (Below.heap_setCell w ⟨b, o, none⟩ v k hne).trans h
theorem units140 {x : Nat} {n : Int} (h : Dy .f32 146 x n) : Dy .f32 140 x (n * 64) := by
  refine ⟨h.lt, h.fin, ?_, ?_⟩
  · rw [h.sg]
    by_cases hn : n < 0
    · rw [decide_eq_true hn, decide_eq_true (by omega)]
    · rw [decide_eq_false hn, decide_eq_false (by omega)]
  · rw [h.val, Int.mul_assoc]
    congr 1

set_option maxHeartbeats 2000000 in
set_option maxRecDepth 100000 in
theorem iChargeM_pt (a b : Int) (ha : 4 ≤ a) (ha' : a ≤ 7) (hb : 4 ≤ b) (hb' : b ≤ 7) (B : Nat) (v : Value) (ts : List Pt) (m k : Nat) (c : Int) (w : World) (hv : POwn B w v ts) (h : oks ts) (hn : ts.length ≤ 48) (hk : Dy .f32 146 k c) (c0 : -100 ≤ c) (c1 : c ≤ 100) :
    Calls Try.prog 94 #[CG a b v m k] w fun e w' => (∃ r xs, e = .returned r ∧ FOwn w.heap.size w' r xs ∧ (xs.length : Int) = a * b ∧ DyL xs (fun j => sumI (depAt a b j) ts ts.length + c * 64)) ∧ Below w.heap.size w w' := by
  have HV := Lib.hid hv; have HO := Lib.hid h; have HK := Lib.hid (units140 hk)
  have HSB := Lib.hid (fun j => sumI_le (depAt a b j) ts 4096 (fun t ht => dep_in (h t ht) j) ts.length (Nat.le_refl _))
  clear hv h hk
  have hv1 := (show v.oneCell' = true from by obtain ⟨av, cap, rfl, _⟩ := p_form HV.out; rfl)
  obtain ⟨av, cap, rfl, _⟩ := p_form HV.out
  have hb0 := (Below.refl w.heap.size w).alloc (Nat.le_refl _) (.cells (CGc a b (.slice av ts.length cap) m k) 48)
  have hz0 := heap_alloc_new w (.cells (CGc a b (.slice av ts.length cap) m k) 48)
  have hs0 : w.heap.size < (w.alloc (.cells (CGc a b (.slice av ts.length cap) m k) 48)).heap.size := by simp
  go_enter Try.func94, Try.ntmps94
  go_wp2_with fail
  generalize w.alloc (.cells (CGc a b (.slice av ts.length cap) m k) 48) = w1 at hb0 hz0 hs0 ⊢
  have HB1 := Lib.hid hb0; have HZ1 := Lib.hid hz0; have HS1 := Lib.hid hs0
  clear hb0 hz0 hs0 hv1
  refine (iDeposit_pt a b ha ha' hb hb' B _ ts _ (r4_below HV.out HB1.out) HO.out (by omega)).mono ?_
  rintro e w2 ⟨⟨r, xs, rfl, O2, hl, hd⟩, hb2⟩
  have hm1 : a * b ≤ 7 * 7 := Int.mul_le_mul ha' hb' (by omega) (by omega)
  have hm0 : 4 * 4 ≤ a * b := Int.mul_le_mul ha hb (by omega) (by omega)
  obtain ⟨g, cg, rfl⟩ := Joins.ownsRow_form O2 (by omega)
  have HB2 := Lib.hid (HB1.out.trans (hb2.mono HB1.out.size))
  have HZ2 := Lib.hid ((hb2.block w.heap.size HS1.out).trans HZ1.out)
  have HGL := Lib.hid (O2.lt g rfl)
  have HO2 := Lib.hid (show FOwn (w.heap.size + 1) w2 (.slice (some ⟨g, 0, none⟩) xs.length cg) xs from Go.Joins.ownsRow_le O2 HS1.out)
  have hnl : xs.length ≤ 49 := by omega
  have HL := Lib.hid hl
  have HD0 := Lib.hid (show ∀ j, j < xs.length → Dy .f32 140 (xs.getD j 0) (sumI (depAt a b j) ts ts.length + if j < 0 then c * 64 else 0) from fun j hj => by have := hd j hj; simpa using this)
  clear O2 hb2 hl hd hm1 hm0 HV HO HB1 HZ1
  go_wp2_with fail
  have HD1 := Lib.hid (Below.refl w2.heap.size w2)
  go_loopw [16] (fun i wr => ∃ (q : Nat) (ys : List Nat), q ≤ xs.length ∧ i = .int .i64 (q : Int) ∧ Hid (ys.length = xs.length) ∧ Hid (FOwn (w.heap.size + 1) wr (.slice (some ⟨g, 0, none⟩) xs.length cg) ys) ∧ Hid (∀ j, j < xs.length → Dy .f32 140 (ys.getD j 0) (sumI (depAt a b j) ts ts.length + if j < q then c * 64 else 0)) ∧ Hid (wr.heap[w.heap.size]? = some (.cells (CGc a b (.slice av ts.length cap) m k) 48)) ∧ Hid (Below w.heap.size w wr)) (fun i _ => xs.length - (intOf i).toNat)
  case atStart => exact ⟨0, xs, Nat.zero_le _, rfl, Lib.hid rfl, HO2, HD0, HZ2, HB2⟩
  case round =>
    clear HO2 HD0 HZ2 HB2 HD1
    obtain ⟨q, ys, hq, rfl, HYL, HO, HD, HZ, HB⟩ := hrel
    by_cases hlt : q < xs.length
    · obtain ⟨y0, y1, yl⟩ := fo_at HO.out (j := q) (by rw [HYL.out]; exact hlt)
      clear yl
      obtain ⟨q0, q1, q2, q3, q4⟩ := five_cells HZ.out
      have hj := HD.out q hlt
      rw [if_neg (by omega), Int.add_zero] at hj
      have hsb := HSB.out q
      have HA := Lib.hid (hj.add32 HK.out (by decide) (by omega))
      have hi1 : (q : Int) < (xs.length : Int) := by omega
      have hi0 : (0 : Int) ≤ (q : Int) := Int.natCast_nonneg _
      generalize hzz : ys.getD q 0 = z at y0 HA
      clear hj hsb hzz
      go_upto_region 5 with fail
      refine wp_region_noPanic ?_
      refine region_runB_drew (S := fun W => W.cell? ⟨g, q, none⟩ = some (.float .f32 z) ∧ W.cell? ⟨w.heap.size, 3 + 1, none⟩ = some (.float .f32 k)) (by kernel_rfl) ⟨y0, q4⟩ (fun hHeld => ?_)
      ((refine runB_take (i := 0) (v := ?_) rfl (by kernel_rfl) (by kernel_rfl) (by kernel_rfl) (by kernel_rfl) (fun _ _ _ h => h) (Or.inl ⟨by rfl, ?_⟩) (by assumption) ?_; rotate_left; (· intro w hSw; (try dsimp only at hSw); go_simp; first | done | with_reducible rfl); (try simp only [List.getElem_toArray, List.getElem_cons_zero, List.getElem_cons_succ, Act.put, List.setIfInBounds_toArray, List.set_cons_zero, List.set_cons_succ])); (refine runB_take (i := 1) (v := ?_) rfl (by kernel_rfl) (by kernel_rfl) (by kernel_rfl) (by kernel_rfl) (fun _ _ _ h => h) (Or.inl ⟨by rfl, ?_⟩) (by assumption) ?_; rotate_left; (· intro w hSw; (try dsimp only at hSw); go_simp; first | done | with_reducible rfl); (try simp only [List.getElem_toArray, List.getElem_cons_zero, List.getElem_cons_succ, Act.put, List.setIfInBounds_toArray, List.set_cons_zero, List.set_cons_succ])); (refine runB_take (i := 2) (v := ?_) rfl (by kernel_rfl) (by kernel_rfl) (by kernel_rfl) (by kernel_rfl) (fun _ _ _ h => h) (Or.inl ⟨by rfl, ?_⟩) (by assumption) ?_; rotate_left; (· intro w hSw; (try dsimp only at hSw); go_simp; first | done | with_reducible rfl); (try simp only [List.getElem_toArray, List.getElem_cons_zero, List.getElem_cons_succ, Act.put, List.setIfInBounds_toArray, List.set_cons_zero, List.set_cons_succ])); (refine runB_take (i := 3) (v := ?_) rfl (by kernel_rfl) (by kernel_rfl) (by kernel_rfl) (by kernel_rfl) (fun _ _ _ h => h) (Or.inl ⟨by rfl, ?_⟩) (by assumption) ?_; rotate_left; (· intro w hSw; (try dsimp only at hSw); go_simp; first | done | with_reducible rfl); (try simp only [List.getElem_toArray, List.getElem_cons_zero, List.getElem_cons_succ, Act.put, List.setIfInBounds_toArray, List.set_cons_zero, List.set_cons_succ])); (refine runB_take (i := 4) (v := ?_) rfl (by kernel_rfl) (by kernel_rfl) (by kernel_rfl) (by kernel_rfl) (fun _ _ _ h => h) (Or.inl ⟨by rfl, ?_⟩) (by assumption) ?_; rotate_left; (· intro w hSw; (try dsimp only at hSw); go_simp; first | done | with_reducible rfl); (try simp only [List.getElem_toArray, List.getElem_cons_zero, List.getElem_cons_succ, Act.put, List.setIfInBounds_toArray, List.set_cons_zero, List.set_cons_succ])); (refine runB_take (i := 5) (v := ?_) rfl (by kernel_rfl) (by kernel_rfl) (by kernel_rfl) (by kernel_rfl) (fun _ _ _ h => h) (Or.inl ⟨by rfl, ?_⟩) (by assumption) ?_; rotate_left; (· intro w hSw; (try dsimp only at hSw); go_simp; first | done | with_reducible rfl); (try simp only [List.getElem_toArray, List.getElem_cons_zero, List.getElem_cons_succ, Act.put, List.setIfInBounds_toArray, List.set_cons_zero, List.set_cons_succ])))
      (refine runB_take (i := 6) (v := _) rfl (by kernel_rfl) (by kernel_rfl) (by kernel_rfl) (by kernel_rfl) (fun _ _ _ h => h) (yields_fa (by rfl) .add _ _ _ _ rfl rfl .f32 _ _ rfl rfl (HA.out.nan)) (by assumption) ?_; (try simp only [List.getElem_toArray, List.getElem_cons_zero, List.getElem_cons_succ, Act.put, List.setIfInBounds_toArray, List.set_cons_zero, List.set_cons_succ]))
      ((refine runB_take (i := 7) (v := ?_) rfl (by kernel_rfl) (by kernel_rfl) (by kernel_rfl) (by kernel_rfl) (fun _ _ _ h => h) (Or.inl ⟨by rfl, ?_⟩) (by assumption) ?_; rotate_left; (· intro w hSw; (try dsimp only at hSw); go_simp; first | done | with_reducible rfl); (try simp only [List.getElem_toArray, List.getElem_cons_zero, List.getElem_cons_succ, Act.put, List.setIfInBounds_toArray, List.set_cons_zero, List.set_cons_succ])))
      have HO3 := Lib.hid (fo_put (show FOwn (w.heap.size + 1) wr.drew (.slice (some ⟨g, 0, none⟩) xs.length cg) ys from HO.out) (j := q) (by rw [HYL.out]; exact hlt) (fop .add .f32 z k))
      have HB3 := Lib.hid (HB.out.drew.setCell (p := ⟨g, q, none⟩) (by have h1 : w.heap.size + 1 ≤ g := (HO.out.lt g rfl).1; show w.heap.size ≤ g; omega) (.float .f32 (fop .add .f32 z k)))
      have HZ3 := Lib.hid (heap_cell_far' (w := wr.drew) (b := g) (o := q) (v := .float .f32 (fop .add .f32 z k)) HZ.out (by have h1 : w.heap.size + 1 ≤ g := (HO.out.lt g rfl).1; omega))
      (refine runB_next (rs := [8]) (by kernel_rfl) (by simp) ?_; refine NextB.cons (i := 8) rfl (fun K hK => ?_) NextB.nil)
      go_simp
      (refine hK.out _ _ (no_due (by kernel_rfl) _) ?_; clear hK K; (try simp only [List.getElem_toArray, List.getElem_cons_zero, List.getElem_cons_succ, Act.put, List.setIfInBounds_toArray, List.set_cons_zero, List.set_cons_succ]))
      (refine runB_done (by kernel_rfl) ?_ _; refine NoPanic.normal ?_)
      clear hHeld y0 y1 q0 q1 q2 q3 q4
      go_wp2_with fail
      go_roundw
      case rel => exact ⟨q + 1, ys.set q (fop .add .f32 z k), by omega, by go_num, Lib.hid (by rw [List.length_set]; exact HYL.out), HO3, Lib.hid (fun j hj2 => by
        rw [List.getD_eq_getElem?_getD, List.getElem?_set]
        by_cases e : q = j
        · subst e
          rw [if_pos rfl, if_pos (by rw [HYL.out]; exact hj2), if_pos (by omega)]
          exact HA.out
        · rw [if_neg e, ← List.getD_eq_getElem?_getD]
          have h3 := HD.out j hj2
          by_cases e2 : j < q
          · rw [if_pos e2] at h3; rw [if_pos (by omega)]; exact h3
          · rw [if_neg e2] at h3; rw [if_neg (by omega)]; exact h3), HZ3, HB3⟩
      case measure => simp [intOf]; omega
    · obtain rfl : q = xs.length := by omega
      clear hlt
      go_wp2_with fail
      go_ret
      have hyl := HYL.out
      exact ⟨⟨_, ys, rfl, Go.Joins.ownsRow_le HO.out (Nat.le_succ _), by rw [hyl]; exact HL.out, fun j hj => by have := HD.out j (by omega); rwa [if_pos (by omega)] at this⟩, HB.out⟩
end Go.Proofs.Ytnknhfhllifnhaa
namespace Go.Proofs.Ytnknhfhllifnhaa
open Go.Fl Go.RowKit
set_option linter.unusedSimpArgs false
set_option linter.unusedVariables false

theorem num_dy {x : Nat} {n : Int} (h : Dy .f32 146 x n) : Num x := dv_num h.dv
theorem grid_small {a b : Int} (ha : 4 ≤ a) (ha' : a ≤ 7) (hb : 4 ≤ b) (hb' : b ≤ 7) : gridOk a b = true := by
  unfold gridOk; exact decide_eq_true ⟨ha, by omega, hb, by omega⟩

set_option maxHeartbeats 1000000 in
set_option maxRecDepth 100000 in
theorem iCloudCharge_pt (a b : Int) (ha : 4 ≤ a) (ha' : a ≤ 7) (hb : 4 ≤ b) (hb' : b ≤ 7) (B : Nat) (v : Value) (ts : List Pt) (m k : Nat) (M c : Int) (w : World) (hv : POwn B w v ts) (h : oks ts) (hn : ts.length ≤ 48) (hm : Dy .f32 146 m M) (hk : Dy .f32 146 k c) (c0 : -100 ≤ c) (c1 : c ≤ 100) :
    Calls Try.prog 27 #[CG a b v m k] w fun e w' => (∃ r xs, e = .returned (.tuple #[r, .bool true]) ∧ FOwn w.heap.size w' r xs ∧ (xs.length : Int) = a * b ∧ DyL xs (fun j => sumI (depAt a b j) ts ts.length + c * 64)) ∧ Below w.heap.size w w' := by
  have HV := Lib.hid hv; have HO := Lib.hid h; have HK := Lib.hid hk; have HM := Lib.hid hm
  clear hv h hk hm
  obtain ⟨av, cap, rfl, _⟩ := p_form HV.out
  have hb0 := (Below.refl w.heap.size w).alloc (Nat.le_refl _) (.cells (CGc a b (.slice av ts.length cap) m k) 48)
  have hz0 := heap_alloc_new w (.cells (CGc a b (.slice av ts.length cap) m k) 48)
  go_enter Try.func27, Try.ntmps27
  go_wp2_with fail
  generalize w.alloc (.cells (CGc a b (.slice av ts.length cap) m k) 48) = w1 at hb0 hz0 ⊢
  have HB1 := Lib.hid hb0
  clear hb0 hz0
  have hb2 := (Below.refl w1.heap.size w1).alloc (Nat.le_refl _) (.cells (CGc a b (.slice av ts.length cap) m k) 48)
  have HZ2 := Lib.hid (heap_alloc_new w1 (.cells (CGc a b (.slice av ts.length cap) m k) 48))
  have HS2 := Lib.hid (show w1.heap.size < (w1.alloc (.cells (CGc a b (.slice av ts.length cap) m k) 48)).heap.size by simp)
  have HB2 := Lib.hid (HB1.out.trans (hb2.mono HB1.out.size))
  clear hb2
  have HM1 : Calls Try.prog 93 #[CG a b (.slice av ts.length cap) m k, .func (.func 94) #[] #[]] w1 fun e w' => (∃ r xs, e = .returned (.tuple #[r, .bool true]) ∧ FOwn w.heap.size w' r xs ∧ (xs.length : Int) = a * b ∧ DyL xs (fun j => sumI (depAt a b j) ts ts.length + c * 64)) ∧ Below w.heap.size w w' := by
    go_enter Try.func93, Try.ntmps93
    go_wp2_with fail
    generalize w1.alloc (.cells (CGc a b (.slice av ts.length cap) m k) 48) = w2 at HB2 HZ2 HS2 ⊢
    refine (iVC_pq B a b _ (ts.map Pt.pq) m k _ (own_pq (r4_below HV.out HB2.out)) (oks_pq HO.out) (by rw [List.length_map]; exact hn) (num_dy HM.out) (num_dy HK.out) (grid_small ha ha' hb hb')).mono ?_
    rintro e w3 ⟨rfl, hb3⟩
    have HB3 := Lib.hid (HB2.out.trans (hb3.mono HB2.out.size))
    obtain ⟨q0, q1, q2, q3, q4⟩ := five_cells ((hb3.block w1.heap.size HS2.out).trans HZ2.out)
    clear hb3
    go_wp2_with fail
    refine (iChargeM_pt a b ha ha' hb hb' B _ ts m k c _ (r4_below HV.out HB3.out) HO.out hn HK.out c0 c1).mono ?_
    rintro e w4 ⟨⟨r, xs, rfl, O4, hl, hd⟩, hb4⟩
    have HB4 := Lib.hid (HB3.out.trans (hb4.mono HB3.out.size))
    have HO4 := Lib.hid (show FOwn w.heap.size w4 r xs from Go.Joins.ownsRow_le O4 HB3.out.size); have HL := Lib.hid hl; have HD := Lib.hid hd
    clear O4 hl hd hb4
    obtain ⟨g, cg, rfl⟩ := Joins.ownsRow_form HO4.out (by have := HL.out; have hm0 : 4 * 4 ≤ a * b := Int.mul_le_mul ha hb (by omega) (by omega); omega)
    go_wp2_with fail
    go_ret2
    exact ⟨⟨_, xs, rfl, HO4.out, HL.out, HD.out⟩, HB4.out⟩
  refine HM1.mono ?_
  rintro e w4 ⟨⟨r, xs, rfl, O4, hl, hd⟩, hb4⟩
  have HO4 := Lib.hid O4; have HL := Lib.hid hl; have HD := Lib.hid hd; have HB4 := Lib.hid hb4
  clear O4 hl hd hb4 HM1
  obtain ⟨g, cg, rfl⟩ := Joins.ownsRow_form HO4.out (by have := HL.out; have hm0 : 4 * 4 ≤ a * b := Int.mul_le_mul ha hb (by omega) (by omega); omega)
  go_wp2_with fail
  go_ret2
  exact ⟨⟨_, xs, rfl, HO4.out, HL.out, HD.out⟩, HB4.out⟩

theorem iMove_ok (x : Int) (h0 : -1000 ≤ x) (h1 : x ≤ 1000) (w : World) : Calls Try.prog 91 #[.int .i64 x] w fun e w' => e = .returned (.bool true) ∧ w = w' := by
  go_enter Try.func91, Try.ntmps91
  go_wp2
  go_ret
  exact ⟨rfl, rfl⟩

set_option maxHeartbeats 1000000 in
set_option maxRecDepth 100000 in
theorem iMoveCloud_pt (a b X Y : Int) (ha : 4 ≤ a) (ha' : a ≤ 7) (hb : 4 ≤ b) (hb' : b ≤ 7) (hX : -4 ≤ X ∧ X ≤ 4) (hY : -4 ≤ Y ∧ Y ≤ 4) (B : Nat) (v : Value) (ts : List Pt) (m k : Nat) (M c : Int) (w : World) (hv : POwn B w v ts) (h : oks ts) (hat : ∀ t ∈ ts, 0 ≤ t.n ∧ t.n < 64 ∧ 0 ≤ t.m ∧ t.m < 64) (hn : ts.length ≤ 48) (hm : Dy .f32 146 m M) (hk : Dy .f32 146 k c) :
    Calls Try.prog 26 #[CG a b v m k, .int .i64 X, .int .i64 Y] w fun e w' => (∃ r, e = .returned (.tuple #[CG a b r m k, .bool true]) ∧ POwn w.heap.size w' r (ts.map (Pt.mv a b X Y))) ∧ Below w.heap.size w w' := by
  have HV := Lib.hid hv; have HO := Lib.hid h; have HK := Lib.hid hk; have HM := Lib.hid hm; have HAT := Lib.hid hat
  have HKM := Lib.hid (oks_mv (x := X) (y := Y) h ha ha' hb (show b ≤ 7 by omega))
  clear hv h hk hm hat
  obtain ⟨av, cap, rfl, _⟩ := p_form HV.out
  have hb0 := (((Below.refl w.heap.size w).alloc (Nat.le_refl _) (.cells (CGc a b (.slice av ts.length cap) m k) 48)).alloc (by simp) (.cells (CC 0 0 (.slice none 0 0) 0) 48))
  have hx0 := heap_alloc2_old w (.cells (CGc a b (.slice av ts.length cap) m k) 48) (.cells (CC 0 0 (.slice none 0 0) 0) 48)
  have hy0 := heap_alloc2_new w (.cells (CGc a b (.slice av ts.length cap) m k) 48) (.cells (CC 0 0 (.slice none 0 0) 0) 48)
  go_enter Try.func26, Try.ntmps26
  go_wp2_with fail
  generalize (w.alloc (.cells (CGc a b (.slice av ts.length cap) m k) 48)).alloc (.cells (CC 0 0 (.slice none 0 0) 0) 48) = w1 at hb0 hx0 hy0 ⊢
  have HB1 := Lib.hid hb0; have HX1 := Lib.hid hx0; have HY1 := Lib.hid hy0
  clear hb0 hx0 hy0
  refine (iMove_ok X (by omega) (by omega) _).mono ?_
  rintro e w2 ⟨rfl, rfl⟩
  go_wp2_with fail
  refine (iMove_ok Y (by omega) (by omega) _).mono ?_
  rintro e w2 ⟨rfl, rfl⟩
  go_wp2_with fail
  have HS := Lib.hid (fun W (hW : Below w1.heap.size w1 W) => five_cells ((hW.block w.heap.size (Array.getElem?_eq_some_iff.1 HX1.out).1).trans HX1.out))
  have hd0 := (Below.refl w1.heap.size w1).drew
  refine wp_region_noPanic ?_
  refine wp_region_held_drew (S := fun W => W.cell? ⟨w.heap.size, 0, none⟩ = some (.int .i64 a) ∧ W.cell? ⟨w.heap.size, 1, none⟩ = some (.int .i64 b) ∧ W.cell? ⟨w.heap.size, 2, none⟩ = some (.slice av ts.length cap) ∧ W.cell? ⟨w.heap.size, 3, none⟩ = some (.float .f32 m) ∧ W.cell? ⟨w.heap.size, 4, none⟩ = some (.float .f32 k)) (by kernel_rfl) (HS.out _ hd0) (fun hHeld => ?_)
  generalize w1.drew = v0 at hd0 hHeld ⊢
  ((refine wpAnyH_take (i := 0) (v := ?_) rfl (by kernel_rfl) (by kernel_rfl) (by kernel_rfl) (fun _ _ _ h => h) (Or.inl ⟨by rfl, ?_⟩) (by assumption) ?_; rotate_left; (· intro w hSw; (try dsimp only at hSw); go_simp; first | done | with_reducible rfl); (try simp only [List.getElem_toArray, List.getElem_cons_zero, List.getElem_cons_succ, Act.put, List.setIfInBounds_toArray, List.set_cons_zero, List.set_cons_succ])); (refine wpAnyH_take (i := 1) (v := ?_) rfl (by kernel_rfl) (by kernel_rfl) (by kernel_rfl) (fun _ _ _ h => h) (Or.inl ⟨by rfl, ?_⟩) (by assumption) ?_; rotate_left; (· intro w hSw; (try dsimp only at hSw); go_simp; first | done | with_reducible rfl); (try simp only [List.getElem_toArray, List.getElem_cons_zero, List.getElem_cons_succ, Act.put, List.setIfInBounds_toArray, List.set_cons_zero, List.set_cons_succ])); (refine wpAnyH_take (i := 2) (v := ?_) rfl (by kernel_rfl) (by kernel_rfl) (by kernel_rfl) (fun _ _ _ h => h) (Or.inl ⟨by rfl, ?_⟩) (by assumption) ?_; rotate_left; (· intro w hSw; (try dsimp only at hSw); go_simp; first | done | with_reducible rfl); (try simp only [List.getElem_toArray, List.getElem_cons_zero, List.getElem_cons_succ, Act.put, List.setIfInBounds_toArray, List.set_cons_zero, List.set_cons_succ])); (refine wpAnyH_take (i := 3) (v := ?_) rfl (by kernel_rfl) (by kernel_rfl) (by kernel_rfl) (fun _ _ _ h => h) (Or.inl ⟨by rfl, ?_⟩) (by assumption) ?_; rotate_left; (· intro w hSw; (try dsimp only at hSw); go_simp; first | done | with_reducible rfl); (try simp only [List.getElem_toArray, List.getElem_cons_zero, List.getElem_cons_succ, Act.put, List.setIfInBounds_toArray, List.set_cons_zero, List.set_cons_succ])); (refine wpAnyH_take (i := 4) (v := ?_) rfl (by kernel_rfl) (by kernel_rfl) (by kernel_rfl) (fun _ _ _ h => h) (Or.inl ⟨by rfl, ?_⟩) (by assumption) ?_; rotate_left; (· intro w hSw; (try dsimp only at hSw); go_simp; first | done | with_reducible rfl); (try simp only [List.getElem_toArray, List.getElem_cons_zero, List.getElem_cons_succ, Act.put, List.setIfInBounds_toArray, List.set_cons_zero, List.set_cons_succ])); (refine wpAnyH_take (i := 5) (v := ?_) rfl (by kernel_rfl) (by kernel_rfl) (by kernel_rfl) (fun _ _ _ h => h) (Or.inl ⟨by rfl, ?_⟩) (by assumption) ?_; rotate_left; (· intro w hSw; (try dsimp only at hSw); go_simp; first | done | with_reducible rfl); (try simp only [List.getElem_toArray, List.getElem_cons_zero, List.getElem_cons_succ, Act.put, List.setIfInBounds_toArray, List.set_cons_zero, List.set_cons_succ])); (refine wpAnyH_take (i := 6) (v := ?_) rfl (by kernel_rfl) (by kernel_rfl) (by kernel_rfl) (fun _ _ _ h => h) (Or.inl ⟨by rfl, ?_⟩) (by assumption) ?_; rotate_left; (· intro w hSw; (try dsimp only at hSw); go_simp; first | done | with_reducible rfl); (try simp only [List.getElem_toArray, List.getElem_cons_zero, List.getElem_cons_succ, Act.put, List.setIfInBounds_toArray, List.set_cons_zero, List.set_cons_succ])); (refine wpAnyH_take (i := 7) (v := ?_) rfl (by kernel_rfl) (by kernel_rfl) (by kernel_rfl) (fun _ _ _ h => h) (Or.inl ⟨by rfl, ?_⟩) (by assumption) ?_; rotate_left; (· intro w hSw; (try dsimp only at hSw); go_simp; first | done | with_reducible rfl); (try simp only [List.getElem_toArray, List.getElem_cons_zero, List.getElem_cons_succ, Act.put, List.setIfInBounds_toArray, List.set_cons_zero, List.set_cons_succ])); (refine wpAnyH_take (i := 8) (v := ?_) rfl (by kernel_rfl) (by kernel_rfl) (by kernel_rfl) (fun _ _ _ h => h) (Or.inl ⟨by rfl, ?_⟩) (by assumption) ?_; rotate_left; (· intro w hSw; (try dsimp only at hSw); go_simp; first | done | with_reducible rfl); (try simp only [List.getElem_toArray, List.getElem_cons_zero, List.getElem_cons_succ, Act.put, List.setIfInBounds_toArray, List.set_cons_zero, List.set_cons_succ])); (refine wpAnyH_take (i := 9) (v := ?_) rfl (by kernel_rfl) (by kernel_rfl) (by kernel_rfl) (fun _ _ _ h => h) (Or.inl ⟨by rfl, ?_⟩) (by assumption) ?_; rotate_left; (· intro w hSw; (try dsimp only at hSw); go_simp; first | done | with_reducible rfl); (try simp only [List.getElem_toArray, List.getElem_cons_zero, List.getElem_cons_succ, Act.put, List.setIfInBounds_toArray, List.set_cons_zero, List.set_cons_succ])))
  (refine wpAnyH_ready (rs := [10]) (by kernel_rfl) (by simp) ?_; refine AllReadyH.cons (i := 10) rfl (fun K hK => ?_) AllReadyH.nil)
  go_simp
  rw [flt_e8 hX.1 hX.2, flt_e8 hY.1 hY.2]
  refine (iShiftP_pt a b X Y ha ha' hb hb' hX hY _ _ ts _ (r4_below HV.out (HB1.out.trans (hd0.mono HB1.out.size))) HO.out HAT.out (by omega)).mono ?_
  rintro e v1 ⟨⟨V1, rfl, O1⟩, hb1⟩
  have hd1 := hd0.trans (hb1.mono hd0.size)
  have HO1 := Lib.hid (show POwn w1.heap.size v1 V1 (ts.map (Pt.mv a b X Y)) from Go.Joins.ownsRow_le O1 hd0.size)
  clear hb1 O1
  obtain ⟨rv, rc, rfl, _⟩ := p_form HO1.out
  rw [List.length_map] at HO1
  rw [List.length_map]
  go_wp2_with fail
  (refine hK.out _ _ (HS.out _ hd1) (fun hHeld => ?_); clear hK K; (try simp only [List.getElem_toArray, List.getElem_cons_zero, List.getElem_cons_succ, Act.put, List.setIfInBounds_toArray, List.set_cons_zero, List.set_cons_succ]))
  ((refine wpAnyH_take (i := 11) (v := ?_) rfl (by kernel_rfl) (by kernel_rfl) (by kernel_rfl) (fun _ _ _ h => h) (Or.inl ⟨by rfl, ?_⟩) (by assumption) ?_; rotate_left; (· intro w hSw; (try dsimp only at hSw); go_simp; first | done | with_reducible rfl); (try simp only [List.getElem_toArray, List.getElem_cons_zero, List.getElem_cons_succ, Act.put, List.setIfInBounds_toArray, List.set_cons_zero, List.set_cons_succ])); (refine wpAnyH_take (i := 12) (v := ?_) rfl (by kernel_rfl) (by kernel_rfl) (by kernel_rfl) (fun _ _ _ h => h) (Or.inl ⟨by rfl, ?_⟩) (by assumption) ?_; rotate_left; (· intro w hSw; (try dsimp only at hSw); go_simp; first | done | with_reducible rfl); (try simp only [List.getElem_toArray, List.getElem_cons_zero, List.getElem_cons_succ, Act.put, List.setIfInBounds_toArray, List.set_cons_zero, List.set_cons_succ])))
  (refine wpAnyH_ready (rs := [13]) (by kernel_rfl) (by simp) ?_; refine AllReadyH.cons (i := 13) rfl (fun K hK => ?_) AllReadyH.nil)
  go_simp
  refine (iWith_pq w1.heap.size a b (.slice av ts.length cap) (.slice rv ts.length rc) ((ts.map (Pt.mv a b X Y)).map Pt.pq) m k _ (own_pq HO1.out) (oks_pq HKM.out) (by simp; omega) (num_dy HM.out) (num_dy HK.out) (grid_small ha ha' hb hb') rfl).mono ?_
  rintro e v2 ⟨rfl, hb2⟩
  have hd2 := hd1.trans (hb2.mono hd1.size)
  have HO2 := Lib.hid (r4_below HO1.out hb2)
  clear hb2 HO1
  go_wp2_with fail
  (refine hK.out _ _ (HS.out _ hd2) (fun hHeld => ?_); clear hK K; (try simp only [List.getElem_toArray, List.getElem_cons_zero, List.getElem_cons_succ, Act.put, List.setIfInBounds_toArray, List.set_cons_zero, List.set_cons_succ]))
  ((refine wpAnyH_take (i := 14) (v := ?_) rfl (by kernel_rfl) (by kernel_rfl) (by kernel_rfl) (fun _ _ _ h => h) (Or.inl ⟨by rfl, ?_⟩) (by assumption) ?_; rotate_left; (· intro w hSw; (try dsimp only at hSw); go_simp; first | done | with_reducible rfl); (try simp only [List.getElem_toArray, List.getElem_cons_zero, List.getElem_cons_succ, Act.put, List.setIfInBounds_toArray, List.set_cons_zero, List.set_cons_succ])); (refine wpAnyH_take (i := 15) (v := ?_) rfl (by kernel_rfl) (by kernel_rfl) (by kernel_rfl) (fun _ _ _ h => h) (Or.inl ⟨by rfl, ?_⟩) (by assumption) ?_; rotate_left; (· intro w hSw; (try dsimp only at hSw); go_simp; first | done | with_reducible rfl); (try simp only [List.getElem_toArray, List.getElem_cons_zero, List.getElem_cons_succ, Act.put, List.setIfInBounds_toArray, List.set_cons_zero, List.set_cons_succ])))
  have HY2 := Lib.hid ((hd2.block (w.heap.size + 1) (Array.getElem?_eq_some_iff.1 HY1.out).1).trans HY1.out)
  have HB2 := Lib.hid (HB1.out.trans (hd2.mono HB1.out.size))
  have HS2 := Lib.hid (HS.out _ hd2)
  have HR := Lib.hid (show (v2.setRow (w.heap.size + 1) (CGc a b (.slice rv ts.length rc) m k)).heap[w.heap.size + 1]? = some (.cells (CGc a b (.slice rv ts.length rc) m k) 48) from setRow_heap _ _ _ _ _ _ HY2.out)
  obtain ⟨q0, q1, q2, q3, q4⟩ := five_cells HR.out
  have HFR := Lib.hid (fun o u (h : v2.cell? ⟨w.heap.size, o, none⟩ = some u) => row_far (W := v2) (k := w.heap.size + 1) (ds := CGc a b (.slice rv ts.length rc) m k) (by omega) h)
  (refine wpAnyH_ready (rs := [16]) (by kernel_rfl) (by simp) ?_; refine AllReadyH.cons (i := 16) rfl (fun K hK => ?_) AllReadyH.nil)
  refine hstep_store rfl 48 _ _ rfl (w.heap.size + 1) (CGc a b (.slice rv ts.length rc) m k) rfl rfl 48 _ HY2.out info_cloud rfl (one5 _ _ _ _ _ _ _) ?_
  (refine hK.out _ _ (⟨HFR.out _ _ HS2.out.1, HFR.out _ _ HS2.out.2.1, HFR.out _ _ HS2.out.2.2.1, HFR.out _ _ HS2.out.2.2.2.1, HFR.out _ _ HS2.out.2.2.2.2⟩) (fun hHeld => ?_); clear hK K; (try simp only [List.getElem_toArray, List.getElem_cons_zero, List.getElem_cons_succ, Act.put, List.setIfInBounds_toArray, List.set_cons_zero, List.set_cons_succ]))
  ((refine wpAnyH_take (i := 17) (v := ?_) rfl (by kernel_rfl) (by kernel_rfl) (by kernel_rfl) (fun _ _ _ h => h) (Or.inl ⟨by rfl, ?_⟩) (by assumption) ?_; rotate_left; (· intro w hSw; (try dsimp only at hSw); go_simp; first | done | with_reducible rfl); (try simp only [List.getElem_toArray, List.getElem_cons_zero, List.getElem_cons_succ, Act.put, List.setIfInBounds_toArray, List.set_cons_zero, List.set_cons_succ])))
  (refine wpAnyH_done (by kernel_rfl) ?_ _; refine NoPanic.normal ?_)
  clear hHeld
  go_wp2_with fail
  refine bodyPost_ret (v := .tuple #[CG a b (.slice rv ts.length rc) m k, .bool true]) (by simp [results, Try.results26, go_sem, q0, q1, q2, q3, q4]) rfl ?_
  exact ⟨⟨_, rfl, Go.Joins.ownsRow_le (own_row HO2.out (Array.getElem?_eq_some_iff.1 HY1.out).1 _) HB1.out.size⟩, below_setRow HB2.out (by omega) _⟩
end Go.Proofs.Ytnknhfhllifnhaa
