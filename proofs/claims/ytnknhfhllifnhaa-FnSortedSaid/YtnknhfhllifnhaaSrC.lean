/-
  A cloud in another order (the program).
  Sorted clouds (the program).
  What is an order of indices (the program).
  SortCloud and PermuteCloud (the program).
-/
import Derived.Test.YtnknhfhllifnhaaOrW
import Derived.Test.YtnknhfhllifnhaaShP
import Derived.Test.YtnknhfhllifnhaaPtS
import Derived.Test.YtnknhfhllifnhaaRegB
import Derived.Deep.CutRange
import Derived.Test.YtnknhfhllifnhaaCloud
import Derived.ChangeKeysEq
namespace Go.Proofs.Ytnknhfhllifnhaa
open Go.Fl Go.RowKit Go.Ordr
set_option linter.unusedSimpArgs false
set_option linter.unusedVariables false

def ptZ : Pt := ⟨0, 0, 0, 0, 0, 0, 0, 0⟩
/-- The particles in another order. -/
def permP (ts : List Pt) (os : List Nat) : List Pt := os.map (fun i => ts.getD i ptZ)
theorem permP_len (ts : List Pt) (os : List Nat) : (permP ts os).length = os.length := by simp [permP]
theorem permP_at {ts : List Pt} {os : List Nat} {k : Nat} (h : k < os.length) (hl : os.getD k 0 < ts.length) : (permP ts os)[k]'(by rw [permP_len]; exact h) = ts[os.getD k 0] := by
  simp only [List.getD_eq_getElem?_getD, List.getElem?_eq_getElem h, Option.getD_some] at hl
  simp [permP, List.getD, h, hl]
theorem oks_perm {ts : List Pt} {os : List Nat} (h : oks ts) (hl : ∀ x ∈ os, x < ts.length) : oks (permP ts os) := by
  intro t ht
  obtain ⟨i, hi, rfl⟩ := List.mem_map.1 ht
  have := hl i hi
  simp only [List.getD_eq_getElem?_getD, List.getElem?_eq_getElem this, Option.getD_some]
  exact oks_at h this
theorem keys_perm (a b : Int) (ts : List Pt) (os : List Nat) (hl : ∀ x ∈ os, x < ts.length) : keysP a b (permP ts os) = os.map (fun i => keyA (keysP a b ts) i) := by
  unfold keysP permP
  rw [List.map_map]
  apply List.map_congr_left
  intro i hi
  have := hl i hi
  simp [keyA, List.getD, this]
theorem heap_cell_far2 {w : World} {b k : Nat} {o : Nat} {v : Value} {r : Obj} (h : w.heap[k]? = some r) (hne : k ≠ b) : (w.setCell ⟨b, o, none⟩ v).heap[k]? = some r :=
  (Below.heap_setCell w ⟨b, o, none⟩ v k hne).trans h
theorem grown_setRow2 (w : World) (g : Nat) (cs : Array Value) : w.grownBy (w.setRow g cs) (some g) := ⟨rfl, rfl, rfl, by simp [World.setRow], fun k hk hr => setRow_other w g k cs (fun e => hr (by rw [e]))⟩
theorem heap_put2 {W : World} {b : Nat} {v0 v1 v2 v3 v4 : Value} {t : TypeId} (h : W.heap[b]? = some (.cells #[v0, v1, v2, v3, v4] t)) (u : Value) : (W.setCell ⟨b, 2, none⟩ u).heap[b]? = some (.cells #[v0, v1, u, v3, v4] t) := by
  simp [World.setCell, Array.getElem?_modify, h]

set_option maxHeartbeats 1000000 in
set_option maxRecDepth 100000 in
theorem iPermM_pt (a b : Int) (B B' : Nat) (v : Value) (ts : List Pt) (m k : Nat) (os : List Nat) (go n : Nat) (w : World) (hv : POwn B w v ts) (h : oks ts) (hr : IR B' w go n (natI os)) (hl : ∀ x ∈ os, x < ts.length) (hn : n ≤ 48) :
    Calls Try.prog 112 #[CG a b v m k, .slice (some ⟨go, 0, none⟩) n n] w fun e w' => (∃ g c, e = .returned (CG a b (.slice (some ⟨g, 0, none⟩) n c) m k) ∧ POwn w.heap.size w' (.slice (some ⟨g, 0, none⟩) n c) (permP ts os)) ∧ Below w.heap.size w w' := by
  obtain ⟨ti, hi, hz0, hz1, hz2⟩ := info_parts PTinfo
  obtain ⟨av, cap, rfl, hf⟩ := p_form hv
  have HV := Lib.hid hv; have HO := Lib.hid h; have HIR := Lib.hid hr; have HLT := Lib.hid hl
  have HON := Lib.hid (show os.length = n from by rw [← hr.1, natI_len])
  have hb4 : ti.bytes * n ≤ 281474976710656 := by rw [hz2]; omega
  have hml : n ≤ maxLen := by unfold maxLen; omega
  have HI := Lib.hid hi; have HZ0 := Lib.hid hz0; have HZ1 := Lib.hid hz1
  have HB0 := Lib.hid (((Below.refl w.heap.size w).alloc (Nat.le_refl _) (.cells (CGc a b (.slice av ts.length cap) m k) 48)).alloc (by simp) (.cells (CC 0 0 (.slice none 0 0) 0) 48))
  have HX := Lib.hid (show ((w.alloc (.cells (CGc a b (.slice av ts.length cap) m k) 48)).alloc (.cells (CC 0 0 (.slice none 0 0) 0) 48)).heap[w.heap.size]? = some (.cells (CGc a b (.slice av ts.length cap) m k) 48) from heap_alloc2_old w _ _)
  have HY := Lib.hid (show ((w.alloc (.cells (CGc a b (.slice av ts.length cap) m k) 48)).alloc (.cells (CC 0 0 (.slice none 0 0) 0) 48)).heap[w.heap.size + 1]? = some (.cells (CC 0 0 (.slice none 0 0) 0) 48) from heap_alloc2_new w _ _)
  have HZ := Lib.hid (show ((w.alloc (.cells (CGc a b (.slice av ts.length cap) m k) 48)).alloc (.cells (CC 0 0 (.slice none 0 0) 0) 48)).heap.size = w.heap.size + 2 by simp)
  clear hv h hi hz0 hz1 hz2 hr hl
  go_enter Try.func112, Try.ntmps112
  go_wp2_with (at_make; refine wpList_make_full _ rfl _ _ 27 rfl w.heap.size 57 ti (.agg ZC) 4 Try.underlying27 HI.out HZ0.out HZ1.out _ _ _ _ n rfl rfl rfl rfl hb4 hml HB0.out.size ?_; intro v5 hown hgrow)
  generalize (w.alloc (.cells (CGc a b (.slice av ts.length cap) m k) 48)).alloc (.cells (CC 0 0 (.slice none 0 0) 0) 48) = v1 at HB0 HX HY HZ hown hgrow ⊢
  rw [cells4_zero, HZ.out] at hown
  have HPL := Lib.hid (show (permP ts os).length = n by rw [permP_len]; exact HON.out)
  have HO0 := Lib.hid (show R4Own w.heap.size v5 (.slice (some ⟨w.heap.size + 2, 0, none⟩) n n) (mapTo id (permP ts os) 0) by unfold R4Own; rw [mapTo_zero, List.length_replicate, HPL.out]; exact hown)
  have HB5 := Lib.hid (HB0.out.grown hgrow HB0.out.size (fun k h => by cases h))
  have HX5 := Lib.hid ((hgrow.block w.heap.size (Array.getElem?_eq_some_iff.1 HX.out).1 (fun e => by cases e)).trans HX.out)
  have HY5 := Lib.hid ((hgrow.block (w.heap.size + 1) (Array.getElem?_eq_some_iff.1 HY.out).1 (fun e => by cases e)).trans HY.out)
  clear hown hgrow hb4 hml HI HZ0 HZ1 HX HY HZ
  have HVF := Lib.hid (fun w' (G : v5.grownBy w' (some (w.heap.size + 2))) => (show POwn B w' (.slice av ts.length cap) ts from by
    have h5 := r4_below HV.out HB5.out
    refine World.ownsRow.kept h5 G ?_
    rcases hf with rfl | ⟨g, rfl, _, hg⟩
    · rcases h5.2 with ⟨h6, _⟩ | ⟨g, _, _, h6, h7, _⟩
      · exact .inl (by rw [h6]; rfl)
      · have hl := HV.out.lt
        rw [h6] at hl ⊢
        exact .inr (fun e => by have := (hl g rfl).2; have h8 : g = w.heap.size + 2 := Option.some.inj e; omega)
    · exact .inr (fun e => by have h8 : g = w.heap.size + 2 := Option.some.inj e; omega)))
  have HRF := Lib.hid (fun w' (G : v5.grownBy w' (some (w.heap.size + 2))) => (show IR B' w' go n (natI os) from ⟨HIR.out.1, World.ownsRow.kept (HIR.out.kept HB5.out).2 G (.inr (fun e => by have := (HIR.out.2.lt go rfl).2; have h8 : go = w.heap.size + 2 := Option.some.inj e; omega))⟩))
  have HPF := Lib.hid (fun w' (G : v5.grownBy w' (some (w.heap.size + 2))) => (show w'.heap[w.heap.size]? = some (.cells (CGc a b (.slice av ts.length cap) m k) 48) from by
    rw [G.block w.heap.size (Array.getElem?_eq_some_iff.1 HX5.out).1 (fun e => by have := Option.some.inj e; omega)]
    exact HX5.out))
  have HQF := Lib.hid (fun w' (G : v5.grownBy w' (some (w.heap.size + 2))) => (show w'.heap[w.heap.size + 1]? = some (.cells (CC 0 0 (.slice none 0 0) 0) 48) from by
    rw [G.block (w.heap.size + 1) (Array.getElem?_eq_some_iff.1 HY5.out).1 (fun e => by have := Option.some.inj e; omega)]
    exact HY5.out))
  go_loopw [13] (fun i wr => ∃ q : Nat, q ≤ n ∧ i = .int .i64 q ∧ Hid (v5.grownBy wr (some (w.heap.size + 2))) ∧ Hid (R4Own w.heap.size wr (.slice (some ⟨w.heap.size + 2, 0, none⟩) n n) (mapTo id (permP ts os) q))) (fun i _ => n - (intOf i).toNat)
  case atStart => exact ⟨0, Nat.zero_le _, rfl, Lib.hid (grown_refl _ _), HO0⟩
  case round =>
    clear HO0
    obtain ⟨q, hq, rfl, HG, HR⟩ := hrel
    by_cases hlt : q < n
    · have hz : (q : Int) < (n : Int) := by omega
      have hz0 : (0 : Int) ≤ (q : Int) := Int.natCast_nonneg _
      have hqo : q < os.length := by have := HON.out; omega
      have xk := (HRF.out _ HG.out).at hlt
      rw [natI_at hqo] at xk
      have hol : os.getD q 0 < ts.length := HLT.out _ (by simp [List.getD, hqo])
      rcases hf with hf | ⟨g, rfl, _, _⟩
      · subst hf; simp at hol
      obtain ⟨c0, c1, c2, c3⟩ := p_cells (HVF.out _ HG.out) hol
      have HS := Lib.hid (mapTo_set id (permP ts os) (k := q) (by rw [HPL.out]; exact hlt))
      have HLQ := Lib.hid (show q < (mapTo id (permP ts os) q).length by rw [mapTo_len _ _ (by rw [HPL.out]; omega), HPL.out]; exact hlt)
      have HZ := Lib.hid (mapTo_at id (permP ts os) (k := q) (by rw [HPL.out]; exact hlt))
      have HE := Lib.hid (permP_at hqo hol)
      have hoi : ((os.getD q 0 : Nat) : Int) < (ts.length : Int) := by omega
      have hoi0 : (0 : Int) ≤ ((os.getD q 0 : Nat) : Int) := Int.natCast_nonneg _
      have hqp : q < (permP ts os).length := by rw [HPL.out]; exact hlt
      rw [show (id ((permP ts os)[q]'hqp)).r4 = ts[os.getD q 0].r4 by rw [← HE.out]; rfl] at HS
      clear hqp
      generalize ts[os.getD q 0] = t at c0 c1 c2 c3 HS
      generalize os.getD q 0 = oq at xk c0 c1 c2 c3 hoi hoi0
      obtain ⟨⟨d0, d1, d2, d3⟩, ⟨f0, f1, f2, f3⟩⟩ := r4_cells HR.out HLQ.out
      rw [HZ.out] at d0 d1 d2 d3
      unfold ZR4 at d0 d1 d2 d3
      dsimp only at d0 d1 d2 d3
      obtain ⟨g0, g1, g2, g3, g4⟩ := five_cells (HPF.out _ HG.out)
      have HST := Lib.hid (r4_set HR.out HLQ.out t.r4)
      clear hol HE HZ
      go_wp2_with fail
      go_roundw
      case rel => exact ⟨q + 1, by omega, by go_num, Lib.hid (grown_trans HG.out HST.out.2), Lib.hid (by have h1 := HST.out.1; rw [HS.out] at h1; exact h1)⟩
      case measure => simp [intOf]; omega
    · obtain rfl : q = n := by omega
      clear hlt
      have HR2 := HR.out
      rw [← HPL.out, mapTo_all, List.map_id, HPL.out] at HR2
      have HR3 := Lib.hid HR2
      have HXR := Lib.hid (HPF.out _ HG.out); have HYR := Lib.hid (HQF.out _ HG.out)
      have HBR := Lib.hid (below_row HB5.out HB5.out.size (show w.heap.size ≤ w.heap.size + 2 by omega) HG.out)
      clear HR2 HR HG
      obtain ⟨g0, g1, g2, g3, g4⟩ := five_cells HXR.out
      have fz : wr.frozen? ⟨w.heap.size, 2, none⟩ = false := by simp [World.frozen?, HXR.out]
      have HXS := Lib.hid (heap_put2 HXR.out (.slice (some ⟨w.heap.size + 2, 0, none⟩) q q))
      have HYS := Lib.hid (heap_cell_far2 (w := wr) (b := w.heap.size) (o := 2) (v := .slice (some ⟨w.heap.size + 2, 0, none⟩) q q) HYR.out (by omega))
      have hr := setRow_heap (wr.setCell ⟨w.heap.size, 2, none⟩ (.slice (some ⟨w.heap.size + 2, 0, none⟩) q q)) (w.heap.size + 1) _ (CGc a b (.slice (some ⟨w.heap.size + 2, 0, none⟩) q q) m k) _ _ HYS.out
      obtain ⟨q0, q1, q2, q3, q4⟩ := five_cells hr
      go_wp2_with (first
        | ((with_reducible show wpList _ _ _ (Oper.mk (some 29) _ _ _ _ _ :: _) _ _); refine wpList_load_row rfl 48 _ rfl w.heap.size rfl 48 (CGc a b (.slice (some ⟨w.heap.size + 2, 0, none⟩) q q) m k) (0, 0) _ HXS.out Try.underlying48 rfl info_cloud ?_)
        | ((with_reducible show wpList _ _ _ (Oper.mk none (Op.store _ (Operand.tmp 4) _) _ _ _ _ :: _) _ _); refine wpList_store_row rfl 48 _ _ rfl (w.heap.size + 1) (CGc a b (.slice (some ⟨w.heap.size + 2, 0, none⟩) q q) m k) rfl rfl 48 _ HYS.out info_cloud rfl (one5 _ _ _ _ _ _ _) ?_))
      refine bodyPost_ret (v := CG a b (.slice (some ⟨w.heap.size + 2, 0, none⟩) q q) m k) (by simp [results, Try.results112, go_sem, q0, q1, q2, q3, q4]) rfl ?_
      refine ⟨⟨_, _, rfl, ?_⟩, below_setRow (HBR.out.setCell (Nat.le_refl _) _) (by omega) _⟩
      have k1 := World.ownsRow.kept HR3.out (grown_own wr w.heap.size 2 (.slice (some ⟨w.heap.size + 2, 0, none⟩) q q)) (.inr (fun e => by have h8 : w.heap.size + 2 = w.heap.size := Option.some.inj e; omega))
      exact World.ownsRow.kept k1 (grown_setRow2 _ (w.heap.size + 1) _) (.inr (fun e => by have h8 : w.heap.size + 2 = w.heap.size + 1 := Option.some.inj e; omega))
end Go.Proofs.Ytnknhfhllifnhaa
namespace Go.Proofs.Ytnknhfhllifnhaa
open Go.Fl Go.RowKit Go.Ordr
set_option linter.unusedSimpArgs false
set_option linter.unusedVariables false

set_option maxHeartbeats 1000000 in
set_option maxRecDepth 100000 in
theorem iSortedM_pt (a b : Int) (ha : 4 ≤ a) (ha' : a ≤ 7) (hb : 4 ≤ b) (hb' : b ≤ 7) (B : Nat) (v : Value) (ts : List Pt) (m k : Nat) (w : World) (hv : POwn B w v ts) (h : oks ts) (hn : ts.length ≤ 19) :
    Calls Try.prog 107 #[CG a b v m k] w fun e w' => (∃ g n c os, e = .returned (CG a b (.slice (some ⟨g, 0, none⟩) n c) m k) ∧ POwn w.heap.size w' (.slice (some ⟨g, 0, none⟩) n c) (permP ts os) ∧ Ordd (keysP a b ts) os) ∧ Below w.heap.size w w' := by
  have HV := Lib.hid hv; have HO := Lib.hid h
  clear hv h
  obtain ⟨av, cap, rfl, _⟩ := p_form HV.out
  have hb0 := (((Below.refl w.heap.size w).alloc (Nat.le_refl _) (.cells (CGc a b (.slice av ts.length cap) m k) 48)).alloc (by simp) (.cells (CC 0 0 (.slice none 0 0) 0) 48))
  have hx0 := heap_alloc2_old w (.cells (CGc a b (.slice av ts.length cap) m k) 48) (.cells (CC 0 0 (.slice none 0 0) 0) 48)
  have hy0 := heap_alloc2_new w (.cells (CGc a b (.slice av ts.length cap) m k) 48) (.cells (CC 0 0 (.slice none 0 0) 0) 48)
  go_enter Try.func107, Try.ntmps107
  go_wp2_with fail
  generalize (w.alloc (.cells (CGc a b (.slice av ts.length cap) m k) 48)).alloc (.cells (CC 0 0 (.slice none 0 0) 0) 48) = w1 at hb0 hx0 hy0 ⊢
  have HB1 := Lib.hid hb0; have HX1 := Lib.hid hx0; have HY1 := Lib.hid hy0
  clear hb0 hx0 hy0
  have HS := Lib.hid (fun W (hW : Below w1.heap.size w1 W) => five_cells ((hW.block w.heap.size (Array.getElem?_eq_some_iff.1 HX1.out).1).trans HX1.out))
  have hd0 := (Below.refl w1.heap.size w1).drew
  refine wp_region_noPanic ?_
  refine wp_region_held_drew (S := fun W => W.cell? ⟨w.heap.size, 0, none⟩ = some (.int .i64 a) ∧ W.cell? ⟨w.heap.size, 1, none⟩ = some (.int .i64 b) ∧ W.cell? ⟨w.heap.size, 2, none⟩ = some (.slice av ts.length cap) ∧ W.cell? ⟨w.heap.size, 3, none⟩ = some (.float .f32 m) ∧ W.cell? ⟨w.heap.size, 4, none⟩ = some (.float .f32 k)) (by kernel_rfl) (HS.out _ hd0) (fun hHeld => ?_)
  generalize w1.drew = v0 at hd0 hHeld ⊢
  ((refine wpAnyH_take (i := 0) (v := ?_) rfl (by kernel_rfl) (by kernel_rfl) (by kernel_rfl) (fun _ _ _ h => h) (Or.inl ⟨by rfl, ?_⟩) (by assumption) ?_; rotate_left; (· intro w hSw; (try dsimp only at hSw); go_simp; first | done | with_reducible rfl); (try simp only [List.getElem_toArray, List.getElem_cons_zero, List.getElem_cons_succ, Act.put, List.setIfInBounds_toArray, List.set_cons_zero, List.set_cons_succ])); (refine wpAnyH_take (i := 1) (v := ?_) rfl (by kernel_rfl) (by kernel_rfl) (by kernel_rfl) (fun _ _ _ h => h) (Or.inl ⟨by rfl, ?_⟩) (by assumption) ?_; rotate_left; (· intro w hSw; (try dsimp only at hSw); go_simp; first | done | with_reducible rfl); (try simp only [List.getElem_toArray, List.getElem_cons_zero, List.getElem_cons_succ, Act.put, List.setIfInBounds_toArray, List.set_cons_zero, List.set_cons_succ])))
  (refine wpAnyH_ready (rs := [2]) (by kernel_rfl) (by simp) ?_; refine AllReadyH.cons (i := 2) rfl (fun K hK => ?_) AllReadyH.nil)
  go_simp
  refine (iOrderM_pt a b ha ha' hb hb' B _ ts m k _ (r4_below HV.out (HB1.out.trans (hd0.mono HB1.out.size))) HO.out hn).mono ?_
  rintro e v1 ⟨⟨go, n, os, rfl, h1, h2⟩, hb1⟩
  have hd1 := hd0.trans (hb1.mono hd0.size)
  have HR1 := Lib.hid h1; have HOS := Lib.hid h2
  have HN := Lib.hid (show n = ts.length by have := h2.len; rw [keysP_len] at this; rw [← this, ← h1.1, natI_len])
  clear hb1 h1 h2
  go_wp2_with fail
  (refine hK.out _ _ (HS.out _ hd1) (fun hHeld => ?_); clear hK K; (try simp only [List.getElem_toArray, List.getElem_cons_zero, List.getElem_cons_succ, Act.put, List.setIfInBounds_toArray, List.set_cons_zero, List.set_cons_succ]))
  (refine wpAnyH_ready (rs := [3]) (by kernel_rfl) (by simp) ?_; refine AllReadyH.cons (i := 3) rfl (fun K hK => ?_) AllReadyH.nil)
  go_simp
  refine (iPermM_pt a b B _ (.slice av ts.length cap) ts m k os go n _ (r4_below HV.out (HB1.out.trans (hd1.mono HB1.out.size))) HO.out HR1.out (fun x hx => by have := HOS.out.lt x hx; rwa [keysP_len] at this) (by have := HN.out; omega)).mono ?_
  rintro e v2 ⟨⟨gr, c, rfl, h1⟩, hb2⟩
  have hd2 := hd1.trans (hb2.mono hd1.size)
  have HO2 := Lib.hid (show POwn w1.heap.size v2 (.slice (some ⟨gr, 0, none⟩) n c) (permP ts os) from Go.Joins.ownsRow_le h1 hd1.size)
  clear hb2 h1
  go_wp2_with fail
  (refine hK.out _ _ (HS.out _ hd2) (fun hHeld => ?_); clear hK K; (try simp only [List.getElem_toArray, List.getElem_cons_zero, List.getElem_cons_succ, Act.put, List.setIfInBounds_toArray, List.set_cons_zero, List.set_cons_succ]))
  have HY2 := Lib.hid ((hd2.block (w.heap.size + 1) (Array.getElem?_eq_some_iff.1 HY1.out).1).trans HY1.out)
  have HB2 := Lib.hid (HB1.out.trans (hd2.mono HB1.out.size))
  have HS2 := Lib.hid (HS.out _ hd2)
  have HR := Lib.hid (show (v2.setRow (w.heap.size + 1) (CGc a b (.slice (some ⟨gr, 0, none⟩) n c) m k)).heap[w.heap.size + 1]? = some (.cells (CGc a b (.slice (some ⟨gr, 0, none⟩) n c) m k) 48) from setRow_heap _ _ _ _ _ _ HY2.out)
  obtain ⟨q0, q1, q2, q3, q4⟩ := five_cells HR.out
  have HFR := Lib.hid (fun o u (h : v2.cell? ⟨w.heap.size, o, none⟩ = some u) => row_far (W := v2) (k := w.heap.size + 1) (ds := CGc a b (.slice (some ⟨gr, 0, none⟩) n c) m k) (by omega) h)
  (refine wpAnyH_ready (rs := [4]) (by kernel_rfl) (by simp) ?_; refine AllReadyH.cons (i := 4) rfl (fun K hK => ?_) AllReadyH.nil)
  refine hstep_store rfl 48 _ _ rfl (w.heap.size + 1) (CGc a b (.slice (some ⟨gr, 0, none⟩) n c) m k) rfl rfl 48 _ HY2.out info_cloud rfl (one5 _ _ _ _ _ _ _) ?_
  (refine hK.out _ _ (⟨HFR.out _ _ HS2.out.1, HFR.out _ _ HS2.out.2.1, HFR.out _ _ HS2.out.2.2.1, HFR.out _ _ HS2.out.2.2.2.1, HFR.out _ _ HS2.out.2.2.2.2⟩) (fun hHeld => ?_); clear hK K; (try simp only [List.getElem_toArray, List.getElem_cons_zero, List.getElem_cons_succ, Act.put, List.setIfInBounds_toArray, List.set_cons_zero, List.set_cons_succ]))
  (refine wpAnyH_done (by kernel_rfl) ?_ _; refine NoPanic.normal ?_)
  clear hHeld
  go_wp2_with fail
  refine bodyPost_ret (v := CG a b (.slice (some ⟨gr, 0, none⟩) n c) m k) (by simp [results, Try.results107, go_sem, q0, q1, q2, q3, q4]) rfl ?_
  have hk : w.heap.size + 1 < w1.heap.size := (Array.getElem?_eq_some_iff.1 HY1.out).1
  have hg := (HO2.out.lt gr rfl).1
  exact ⟨⟨gr, n, c, os, rfl, Go.Joins.ownsRow_le (World.ownsRow.kept HO2.out (grown_setRow2 _ (w.heap.size + 1) _) (.inr (fun e => by have h8 : gr = w.heap.size + 1 := Option.some.inj e; omega))) HB1.out.size, HOS.out⟩, below_setRow HB2.out (by omega) _⟩
end Go.Proofs.Ytnknhfhllifnhaa
namespace Go.Proofs.Ytnknhfhllifnhaa
open Go.Fl Go.RowKit Go.Ordr
set_option linter.unusedSimpArgs false
set_option linter.unusedVariables false

/-- An array of 48 Booleans. -/
def boolA (p : Nat → Bool) : Array Value := (Array.range 48).map (fun j => Value.bool (p j))
theorem boolA_size (p : Nat → Bool) : (boolA p).size = 48 := by simp [boolA]
theorem boolA_at (p : Nat → Bool) {j : Nat} (h : j < 48) : (boolA p)[j]? = some (.bool (p j)) := by simp [boolA, h]
theorem boolA_set (p q : Nat → Bool) {k : Nat} (h : ∀ j, j < 48 → q j = (p j || decide (j = k))) : (boolA p).setIfInBounds k (.bool true) = boolA q := by
  apply Array.ext_getElem?
  intro j
  by_cases hj : j < 48
  · rw [boolA_at q hj, h j hj, Array.getElem?_setIfInBounds]
    by_cases e : k = j
    · subst e
      simp [boolA_size, hj]
    · rw [if_neg e, boolA_at p hj]
      simp [show ¬ j = k from fun x => e x.symm]
  · rw [Array.getElem?_eq_none (by simp [boolA_size]; omega), Array.getElem?_eq_none (by simp [boolA_size]; omega)]
theorem boolA_congr {p q : Nat → Bool} (h : ∀ j, j < 48 → p j = q j) : boolA p = boolA q := by
  apply Array.ext_getElem?
  intro j
  by_cases hj : j < 48
  · rw [boolA_at p hj, boolA_at q hj, h j hj]
  · rw [Array.getElem?_eq_none (by simp [boolA_size]; omega), Array.getElem?_eq_none (by simp [boolA_size]; omega)]
theorem boolA_zero : boolA (fun _ => false) = Array.replicate 48 (.bool false) := by
  apply Array.ext_getElem?
  intro j
  by_cases hj : j < 48
  · rw [boolA_at _ hj]; simp [hj]
  · rw [Array.getElem?_eq_none (by simp [boolA_size]; omega), Array.getElem?_eq_none (by simp; omega)]

theorem items_same {P : Program} {e : TypeId} (d : Nat) (he : P.underlying e = some .bool) (ha : ∀ w, (isAgg e).run P w = .ok false w) (xs : Array Value) (p : Nat → Bool) (w : World) :
    ∀ is : List Nat, (∀ i ∈ is, xs[i]? = some (.bool (p i))) → (Op.eqItems (d + 1) e 1 xs xs is).run P w = .ok true w
  | [], _ => by simp [Op.eqItems]
  | i :: is, h => by
    have hp : (part e xs (i * 1)).run P w = .ok (.bool (p i)) w := by
      rw [Nat.mul_one]
      simp [part, ha, h i (by simp)]
    simp only [Op.eqItems, Sem.run_bind, hp, Result.andThen_ok, run_equalIn_bool w d e (p i) (p i) he]
    simp [items_same d he ha xs p w is (fun j hj => h j (by simp [hj]))]

theorem eq_boolA (p : Nat → Bool) (w : World) : (Op.equalIn 10000 199 (.agg (boolA p)) (.agg (boolA p))).run Try.prog w = .ok true w := by
  obtain ⟨i, hi⟩ := Option.isSome_iff_exists.1 (show (Try.prog.info? 4).isSome = true by kernel_rfl)
  rw [show (10000 : Nat) = 9999 + 1 from rfl, run_equalIn_array w 9999 _ _ Try.underlying199 hi]
  rw [show Try.prog.cellsOf 4 = 1 by kernel_rfl]
  exact items_same 9998 Try.underlying4 Try.isAgg4 _ p w _ (fun i hi => boolA_at p (List.mem_range.1 hi))
theorem info_b48 : (Try.prog.info? 199).map (·.size) = some 48 := by kernel_rfl

theorem info_bA (p : Nat → Bool) : (Try.prog.info? 199).map (·.size) = some (boolA p).size := by rw [boolA_size]; exact info_b48
theorem zero_b48 : (#[.bool false, .bool false, .bool false, .bool false, .bool false, .bool false, .bool false, .bool false, .bool false, .bool false, .bool false, .bool false, .bool false, .bool false, .bool false, .bool false, .bool false, .bool false, .bool false, .bool false, .bool false, .bool false, .bool false, .bool false, .bool false, .bool false, .bool false, .bool false, .bool false, .bool false, .bool false, .bool false, .bool false, .bool false, .bool false, .bool false, .bool false, .bool false, .bool false, .bool false, .bool false, .bool false, .bool false, .bool false, .bool false, .bool false, .bool false, .bool false] : Array Value) = boolA (fun _ => false) := by rw [boolA_zero]; rfl
theorem heap_putk {W : World} {b : Nat} {cs : Array Value} {t : TypeId} (h : W.heap[b]? = some (.cells cs t)) (k : Nat) (u : Value) : (W.setCell ⟨b, k, none⟩ u).heap[b]? = some (.cells (cs.setIfInBounds k u) t) := by
  simp [World.setCell, Array.getElem?_modify, h]
theorem take_mem {os : List Nat} {q : Nat} (h : q < os.length) (j : Nat) : decide (j ∈ os.take (q + 1)) = (decide (j ∈ os.take q) || decide (j = os.getD q 0)) := by
  rw [Bool.eq_iff_iff, List.take_succ_eq_append_getElem h, Bool.or_eq_true, decide_eq_true_eq, decide_eq_true_eq, decide_eq_true_eq, List.mem_append, List.mem_singleton, List.getD_eq_getElem?_getD, List.getElem?_eq_getElem h, Option.getD_some]

set_option maxHeartbeats 1000000 in
set_option maxRecDepth 100000 in
theorem iIsOrder_any (B : Nat) (os : List Nat) (go n : Nat) (w : World) (hr : IR B w go n (natI os)) (hp : os.Perm (List.range n)) (hn : n ≤ 48) :
    Calls Try.prog 111 #[.slice (some ⟨go, 0, none⟩) n n, .int .i64 (n : Int)] w fun e w' => e = .returned (.bool true) ∧ Below w.heap.size w w' := by
  have HR := Lib.hid hr; have HP := Lib.hid hp
  have HON := Lib.hid (show os.length = n from by rw [← hr.1, natI_len])
  clear hr hp
  go_enter Try.func111, Try.ntmps111
  go_wp2_with fail
  rw [zero_b48]
  have HB0 := Lib.hid (((Below.refl w.heap.size w).alloc (Nat.le_refl _) (.cells (boolA (fun _ => false)) 199)).alloc (by simp) (.cells (boolA (fun _ => false)) 199))
  have HX0 := Lib.hid (heap_alloc2_old w (.cells (boolA (fun _ => false)) 199) (.cells (boolA (fun _ => false)) 199))
  have HY0 := Lib.hid (heap_alloc2_new w (.cells (boolA (fun _ => false)) 199) (.cells (boolA (fun _ => false)) 199))
  generalize (w.alloc (.cells (boolA (fun _ => false)) 199)).alloc (.cells (boolA (fun _ => false)) 199) = v1 at HB0 HX0 HY0 ⊢
  go_loopw [15] (fun i wr => ∃ q : Nat, q ≤ n ∧ i = .int .i64 q ∧ Hid (Below w.heap.size w wr) ∧ Hid (wr.heap[w.heap.size]? = some (.cells (boolA (fun j => decide (j ∈ os.take q))) 199)) ∧ Hid (wr.heap[w.heap.size + 1]? = some (.cells (boolA (fun j => decide (j < q))) 199))) (fun i _ => n - (intOf i).toNat)
  case atStart => exact ⟨0, Nat.zero_le _, rfl, HB0, Lib.hid (HX0.out.trans (by rw [boolA_congr (p := fun _ => false) (q := fun j => decide (j ∈ os.take 0)) (fun j _ => by simp)])), Lib.hid (HY0.out.trans (by rw [boolA_congr (p := fun _ => false) (q := fun j => decide (j < 0)) (fun j _ => by simp)]))⟩
  case round =>
    clear HB0 HX0 HY0
    obtain ⟨q, hq, rfl, HB, HX, HY⟩ := hrel
    by_cases hlt : q < n
    · have hz : (q : Int) < (n : Int) := by omega
      have hz0 : (0 : Int) ≤ (q : Int) := Int.natCast_nonneg _
      have hz48 : (q : Int) < 48 := by omega
      have hqo : q < os.length := by have := HON.out; omega
      have xk := (HR.out.kept HB.out).at hlt
      rw [natI_at hqo] at xk
      have hol : os.getD q 0 < n := by
        have := HP.out.subset (show os.getD q 0 ∈ os by simp [List.getD, hqo])
        simpa using this
      have HT := Lib.hid (take_mem hqo)
      generalize os.getD q 0 = oq at xk hol HT
      have ho0 : (0 : Int) ≤ (oq : Int) := Int.natCast_nonneg _
      have hoz : ¬ ((n : Int) ≤ (oq : Int)) := by omega
      have hoz' : ¬ ((oq : Int) < 0) := by omega
      have hoz48 : (oq : Int) < 48 := by omega
      have c1 : wr.cell? ⟨w.heap.size, oq, none⟩ = some (.bool (decide (oq ∈ os.take q))) := by rw [Joins.cell_of_block HX.out]; exact boolA_at _ (by omega)
      have f1 : wr.frozen? ⟨w.heap.size, oq, none⟩ = false := by simp [World.frozen?, HX.out]
      have HY1 := Lib.hid (heap_cell_far2 (w := wr) (b := w.heap.size) (o := oq) (v := .bool true) HY.out (by omega))
      have c2 : (wr.setCell ⟨w.heap.size, oq, none⟩ (.bool true)).cell? ⟨w.heap.size + 1, q, none⟩ = some (.bool (decide (q < q))) := by rw [Joins.cell_of_block HY1.out]; exact boolA_at _ (by omega)
      have f2 : (wr.setCell ⟨w.heap.size, oq, none⟩ (.bool true)).frozen? ⟨w.heap.size + 1, q, none⟩ = false := by simp [World.frozen?, HY1.out]
      have HX2 := Lib.hid (heap_cell_far2 (w := wr.setCell ⟨w.heap.size, oq, none⟩ (.bool true)) (b := w.heap.size + 1) (o := q) (v := .bool true) (heap_putk HX.out oq (.bool true)) (by omega))
      have HY2 := Lib.hid (heap_putk HY1.out q (.bool true))
      have HB2 := Lib.hid ((HB.out.setCell (p := ⟨w.heap.size, oq, none⟩) (Nat.le_refl _) (.bool true)).setCell (p := ⟨w.heap.size + 1, q, none⟩) (Nat.le_succ _) (.bool true))
      go_wp2_with fail
      go_roundw
      case rel => exact ⟨q + 1, by omega, by go_num, HB2, Lib.hid (by rw [HX2.out, boolA_set (fun j => decide (j ∈ os.take q)) (fun j => decide (j ∈ os.take (q + 1))) (fun j _ => HT.out j)]), Lib.hid (by rw [HY2.out, boolA_set (fun j => decide (j < q)) (fun j => decide (j < q + 1)) (fun j _ => by rw [Bool.eq_iff_iff]; simp; omega)])⟩
      case measure => simp [intOf]; omega
    · obtain rfl : q = n := by omega
      clear hlt
      have hc := boolA_congr (p := fun j => decide (j ∈ os.take q)) (q := fun j => decide (j < q)) (fun j _ => by
        rw [List.take_of_length_le (by have := HON.out; omega), decide_eq_decide, HP.out.mem_iff, List.mem_range])
      have HX2 := Lib.hid (HX.out.trans (by rw [hc]))
      have he := eq_boolA (fun j => decide (j < q))
      clear hc HX
      go_wp2_with (first
        | ((with_reducible show wpList _ _ _ (Oper.mk (some 32) _ _ _ _ _ :: _) _ _); refine wpList_load_row rfl 199 _ rfl w.heap.size rfl 199 (boolA (fun j => decide (j < q))) (0, 0) _ HX2.out Try.underlying199 rfl (info_bA _) ?_)
        | ((with_reducible show wpList _ _ _ (Oper.mk (some 33) _ _ _ _ _ :: _) _ _); refine wpList_load_row rfl 199 _ rfl (w.heap.size + 1) rfl 199 (boolA (fun j => decide (j < q))) (0, 0) _ HY.out Try.underlying199 rfl (info_bA _) ?_))
      go_ret
      exact ⟨rfl, HB.out⟩
end Go.Proofs.Ytnknhfhllifnhaa
namespace Go.Proofs.Ytnknhfhllifnhaa
open Go.Fl Go.RowKit Go.Ordr
set_option linter.unusedSimpArgs false
set_option linter.unusedVariables false

/-- A cloud in order, as it is returned. -/
def SrtP (a b : Int) (ts : List Pt) (m k : Nat) (B : Nat) (r : Value) (w' : World) : Prop :=
  ∃ g n c os, r = CG a b (.slice (some ⟨g, 0, none⟩) n c) m k ∧ POwn B w' (.slice (some ⟨g, 0, none⟩) n c) (permP ts os) ∧ Ordd (keysP a b ts) os

theorem own_row2 {B k g n c : Nat} {w : World} {ts : List R4} (h : R4Own B w (.slice (some ⟨g, 0, none⟩) n c) ts) (hne : g ≠ k) (cs : Array Value) : R4Own B (w.setRow k cs) (.slice (some ⟨g, 0, none⟩) n c) ts :=
  World.ownsRow.kept h (grown_setRow2 w k cs) (.inr (fun e => hne (Option.some.inj e)))

set_option maxHeartbeats 1000000 in
set_option maxRecDepth 100000 in
theorem iMeasC_pt (a b : Int) (ha : 4 ≤ a) (ha' : a ≤ 7) (hb : 4 ≤ b) (hb' : b ≤ 7) (B : Nat) (v : Value) (ts : List Pt) (m k : Nat) (im : Num m) (ik : Num k) (w : World) (hv : POwn B w v ts) (h : oks ts) (hn : ts.length ≤ 19) :
    Calls Try.prog 106 #[CG a b v m k, .func (.func 107) #[] #[]] w fun e w' => (∃ r, e = .returned (.tuple #[r, .bool true]) ∧ SrtP a b ts m k w.heap.size r w') ∧ Below w.heap.size w w' := by
  obtain ⟨av, cap, rfl, hff⟩ := p_form hv
  have HO := Lib.hid h; have IM := Lib.hid im; have IK := Lib.hid ik; have HV := Lib.hid hv
  have HB0 := Lib.hid (((Below.refl w.heap.size w).alloc (Nat.le_refl _) (.cells (CGc a b (.slice av ts.length cap) m k) 48)).alloc (by simp) (.cells (CC 0 0 (.slice none 0 0) 0) 48))
  have hx0 := heap_alloc2_old w (.cells (CGc a b (.slice av ts.length cap) m k) 48) (.cells (CC 0 0 (.slice none 0 0) 0) 48)
  have hy0 := heap_alloc2_new w (.cells (CGc a b (.slice av ts.length cap) m k) 48) (.cells (CC 0 0 (.slice none 0 0) 0) 48)
  have HX0 := Lib.hid hx0; have HY0 := Lib.hid hy0
  clear hv h im ik hx0 hy0
  obtain ⟨q0, q1, q2, q3, q4⟩ := five_cells HX0.out
  go_enter Try.func106, Try.ntmps106
  go_wp2_with fail
  generalize (w.alloc (.cells (CGc a b (.slice av ts.length cap) m k) 48)).alloc (.cells (CC 0 0 (.slice none 0 0) 0) 48) = w2 at HB0 HX0 HY0 q0 q1 q2 q3 q4 ⊢
  clear q0 q1 q2 q3 q4
  refine (iVC_pq B a b _ (ts.map Pt.pq) m k _ (own_pq (r4_below HV.out HB0.out)) (oks_pq HO.out) (by rw [List.length_map]; omega) IM.out IK.out (grid_small' ha ha' hb hb')).mono ?_
  rintro e w3 ⟨rfl, hb3⟩
  have HB3 := Lib.hid (HB0.out.trans (hb3.mono HB0.out.size))
  have HX3 := Lib.hid ((hb3.block w.heap.size (Array.getElem?_eq_some_iff.1 HX0.out).1).trans HX0.out)
  have HY3 := Lib.hid ((hb3.block (w.heap.size + 1) (Array.getElem?_eq_some_iff.1 HY0.out).1).trans HY0.out)
  obtain ⟨q0, q1, q2, q3, q4⟩ := five_cells HX3.out
  clear hb3 HB0 HX0 HY0
  go_wp2_with fail
  clear q0 q1 q2 q3 q4
  refine (iSortedM_pt a b ha ha' hb hb' B _ ts m k _ (r4_below HV.out HB3.out) HO.out hn).mono ?_
  rintro e w4 ⟨⟨g, n, c, os, rfl, h1, h2⟩, hb4⟩
  have HO4 := Lib.hid h1; have HOS := Lib.hid h2
  have HB4 := Lib.hid (HB3.out.trans (hb4.mono HB3.out.size))
  have HY4 := Lib.hid ((hb4.block (w.heap.size + 1) (Array.getElem?_eq_some_iff.1 HY3.out).1).trans HY3.out)
  have HGN := Lib.hid (show g ≠ w.heap.size + 1 from by have h3 := (h1.lt g rfl).1; have := (Array.getElem?_eq_some_iff.1 HY3.out).1; omega)
  have HSZ := Lib.hid (show w.heap.size ≤ w3.heap.size from HB3.out.size)
  have hr := setRow_heap w4 (w.heap.size + 1) _ (CGc a b (.slice (some ⟨g, 0, none⟩) n c) m k) _ _ HY4.out
  obtain ⟨q0, q1, q2, q3, q4⟩ := five_cells hr
  clear hb4 h1 h2 hr HY3 HX3
  go_wp2_with ((with_reducible show wpList _ _ _ (Oper.mk none (Op.store _ (Operand.tmp 4) _) _ _ _ _ :: _) _ _); refine wpList_store_row rfl 48 _ _ rfl (w.heap.size + 1) (CGc a b (.slice (some ⟨g, 0, none⟩) n c) m k) rfl rfl 48 _ HY4.out info_cloud rfl (one5 _ _ _ _ _ _ _) ?_)
  refine bodyPost_ret (v := .tuple #[CG a b (.slice (some ⟨g, 0, none⟩) n c) m k, .bool true]) (by simp [results, Try.results106, go_sem, q0, q1, q2, q3, q4]) rfl ?_
  exact ⟨⟨_, rfl, g, n, c, os, rfl, Go.Joins.ownsRow_le (own_row2 HO4.out HGN.out _) HSZ.out, HOS.out⟩, below_setRow HB4.out (by omega) _⟩

set_option maxHeartbeats 1000000 in
set_option maxRecDepth 100000 in
theorem iSortCloud_pt (a b : Int) (ha : 4 ≤ a) (ha' : a ≤ 7) (hb : 4 ≤ b) (hb' : b ≤ 7) (B : Nat) (v : Value) (ts : List Pt) (m k : Nat) (im : Num m) (ik : Num k) (w : World) (hv : POwn B w v ts) (h : oks ts) (hn : ts.length ≤ 19) :
    Calls Try.prog 36 #[CG a b v m k] w fun e w' => (∃ r, e = .returned (.tuple #[r, .bool true]) ∧ SrtP a b ts m k w.heap.size r w') ∧ Below w.heap.size w w' := by
  obtain ⟨av, cap, rfl, hff⟩ := p_form hv
  have HO := Lib.hid h; have IM := Lib.hid im; have IK := Lib.hid ik; have HV := Lib.hid hv
  have HB0 := Lib.hid (((Below.refl w.heap.size w).alloc (Nat.le_refl _) (.cells (CGc a b (.slice av ts.length cap) m k) 48)).alloc (by simp) (.cells (CC 0 0 (.slice none 0 0) 0) 48))
  have hx0 := heap_alloc2_old w (.cells (CGc a b (.slice av ts.length cap) m k) 48) (.cells (CC 0 0 (.slice none 0 0) 0) 48)
  have hy0 := heap_alloc2_new w (.cells (CGc a b (.slice av ts.length cap) m k) 48) (.cells (CC 0 0 (.slice none 0 0) 0) 48)
  have HX0 := Lib.hid hx0; have HY0 := Lib.hid hy0
  clear hv h im ik hx0 hy0
  obtain ⟨q0, q1, q2, q3, q4⟩ := five_cells HX0.out
  go_enter Try.func36, Try.ntmps36
  go_wp2_with fail
  generalize (w.alloc (.cells (CGc a b (.slice av ts.length cap) m k) 48)).alloc (.cells (CC 0 0 (.slice none 0 0) 0) 48) = w3 at HB0 HX0 HY0 q0 q1 q2 q3 q4 ⊢
  clear q0 q1 q2 q3 q4
  refine (iMeasC_pt a b ha ha' hb hb' B _ ts m k IM.out IK.out _ (r4_below HV.out HB0.out) HO.out hn).mono ?_
  rintro e w4 ⟨⟨r, rfl, g, n, c, os, rfl, h1, h2⟩, hb4⟩
  have HO4 := Lib.hid h1; have HOS := Lib.hid h2
  have HB4 := Lib.hid (HB0.out.trans (hb4.mono HB0.out.size))
  have HY4 := Lib.hid ((hb4.block (w.heap.size + 1) (Array.getElem?_eq_some_iff.1 HY0.out).1).trans HY0.out)
  have HGN := Lib.hid (show g ≠ w.heap.size + 1 from by have h3 := (h1.lt g rfl).1; have := (Array.getElem?_eq_some_iff.1 HY0.out).1; omega)
  have HSZ := Lib.hid (show w.heap.size ≤ w3.heap.size from HB0.out.size)
  have hr := setRow_heap w4 (w.heap.size + 1) _ (CGc a b (.slice (some ⟨g, 0, none⟩) n c) m k) _ _ HY4.out
  obtain ⟨q0, q1, q2, q3, q4⟩ := five_cells hr
  clear hb4 h1 h2 hr HY0 HX0
  go_wp2_with ((with_reducible show wpList _ _ _ (Oper.mk none (Op.store _ (Operand.tmp 2) _) _ _ _ _ :: _) _ _); refine wpList_store_row rfl 48 _ _ rfl (w.heap.size + 1) (CGc a b (.slice (some ⟨g, 0, none⟩) n c) m k) rfl rfl 48 _ HY4.out info_cloud rfl (one5 _ _ _ _ _ _ _) ?_)
  refine bodyPost_ret (v := .tuple #[CG a b (.slice (some ⟨g, 0, none⟩) n c) m k, .bool true]) (by simp [results, Try.results36, go_sem, q0, q1, q2, q3, q4]) rfl ?_
  exact ⟨⟨_, rfl, g, n, c, os, rfl, Go.Joins.ownsRow_le (own_row2 HO4.out HGN.out _) HSZ.out, HOS.out⟩, below_setRow HB4.out (by omega) _⟩

set_option maxHeartbeats 1000000 in
set_option maxRecDepth 100000 in
theorem iPermCloud_pt (a b : Int) (ha : 4 ≤ a) (ha' : a ≤ 7) (hb : 4 ≤ b) (hb' : b ≤ 7) (B B' : Nat) (v : Value) (ts : List Pt) (m k : Nat) (im : Num m) (ik : Num k) (os : List Nat) (go n : Nat) (w : World) (hv : POwn B w v ts) (h : oks ts) (hn : ts.length ≤ 48) (hr : IR B' w go n (natI os)) (hp : os.Perm (List.range ts.length)) :
    Calls Try.prog 40 #[CG a b v m k, .slice (some ⟨go, 0, none⟩) n n] w fun e w' => (∃ g c, e = .returned (.tuple #[CG a b (.slice (some ⟨g, 0, none⟩) n c) m k, .bool true]) ∧ POwn w.heap.size w' (.slice (some ⟨g, 0, none⟩) n c) (permP ts os)) ∧ Below w.heap.size w w' := by
  obtain ⟨av, cap, rfl, hff⟩ := p_form hv
  have HN := Lib.hid (show n = ts.length from by rw [← hr.1, natI_len]; simpa using hp.length_eq)
  have HO := Lib.hid h; have IM := Lib.hid im; have IK := Lib.hid ik; have HV := Lib.hid hv; have HR := Lib.hid hr; have HP := Lib.hid hp
  have HB0 := Lib.hid (((Below.refl w.heap.size w).alloc (Nat.le_refl _) (.cells (CGc a b (.slice av ts.length cap) m k) 48)).alloc (by simp) (.cells (CC 0 0 (.slice none 0 0) 0) 48))
  have hx0 := heap_alloc2_old w (.cells (CGc a b (.slice av ts.length cap) m k) 48) (.cells (CC 0 0 (.slice none 0 0) 0) 48)
  have hy0 := heap_alloc2_new w (.cells (CGc a b (.slice av ts.length cap) m k) 48) (.cells (CC 0 0 (.slice none 0 0) 0) 48)
  have HX0 := Lib.hid hx0; have HY0 := Lib.hid hy0
  clear hv h im ik hx0 hy0 hr hp
  obtain ⟨q0, q1, q2, q3, q4⟩ := five_cells HX0.out
  go_enter Try.func40, Try.ntmps40
  go_wp2_with fail
  generalize (w.alloc (.cells (CGc a b (.slice av ts.length cap) m k) 48)).alloc (.cells (CC 0 0 (.slice none 0 0) 0) 48) = w2 at HB0 HX0 HY0 q0 q1 q2 q3 q4 ⊢
  clear q0 q1 q2 q3 q4
  refine (iVC_pq B a b _ (ts.map Pt.pq) m k _ (own_pq (r4_below HV.out HB0.out)) (oks_pq HO.out) (by rw [List.length_map]; omega) IM.out IK.out (grid_small' ha ha' hb hb')).mono ?_
  rintro e w3 ⟨rfl, hb3⟩
  have HB3 := Lib.hid (HB0.out.trans (hb3.mono HB0.out.size))
  have HX3 := Lib.hid ((hb3.block w.heap.size (Array.getElem?_eq_some_iff.1 HX0.out).1).trans HX0.out)
  have HY3 := Lib.hid ((hb3.block (w.heap.size + 1) (Array.getElem?_eq_some_iff.1 HY0.out).1).trans HY0.out)
  obtain ⟨q0, q1, q2, q3, q4⟩ := five_cells HX3.out
  clear hb3 HB0 HX0 HY0
  go_wp2_with fail
  clear q0 q1 q2 q3 q4
  rw [← HN.out]
  refine (iIsOrder_any B' os go n _ (HR.out.kept HB3.out) (by rw [HN.out]; exact HP.out) (by have := HN.out; omega)).mono ?_
  rintro e w5 ⟨rfl, hb5⟩
  have HB5 := Lib.hid (HB3.out.trans (hb5.mono HB3.out.size))
  have HX5 := Lib.hid ((hb5.block w.heap.size (Array.getElem?_eq_some_iff.1 HX3.out).1).trans HX3.out)
  have HY5 := Lib.hid ((hb5.block (w.heap.size + 1) (Array.getElem?_eq_some_iff.1 HY3.out).1).trans HY3.out)
  obtain ⟨q0, q1, q2, q3, q4⟩ := five_cells HX5.out
  clear hb5 HB3 HX3 HY3
  go_wp2_with fail
  clear q0 q1 q2 q3 q4
  refine (iPermM_pt a b B B' _ ts m k os go n _ (r4_below HV.out HB5.out) HO.out (HR.out.kept HB5.out) (fun x hx => by simpa using HP.out.subset hx) (by have := HN.out; omega)).mono ?_
  rintro e w4 ⟨⟨g, c, rfl, h1⟩, hb4⟩
  have HO4 := Lib.hid h1
  have HB4 := Lib.hid (HB5.out.trans (hb4.mono HB5.out.size))
  have HY4 := Lib.hid ((hb4.block (w.heap.size + 1) (Array.getElem?_eq_some_iff.1 HY5.out).1).trans HY5.out)
  have HGN := Lib.hid (show g ≠ w.heap.size + 1 from by have h3 := (h1.lt g rfl).1; have := (Array.getElem?_eq_some_iff.1 HY5.out).1; omega)
  have HSZ := Lib.hid (show w.heap.size ≤ w5.heap.size from HB5.out.size)
  have hr := setRow_heap w4 (w.heap.size + 1) _ (CGc a b (.slice (some ⟨g, 0, none⟩) n c) m k) _ _ HY4.out
  obtain ⟨q0, q1, q2, q3, q4⟩ := five_cells hr
  clear hb4 h1 hr HY5 HX5
  go_wp2_with ((with_reducible show wpList _ _ _ (Oper.mk none (Op.store _ (Operand.tmp 4) _) _ _ _ _ :: _) _ _); refine wpList_store_row rfl 48 _ _ rfl (w.heap.size + 1) (CGc a b (.slice (some ⟨g, 0, none⟩) n c) m k) rfl rfl 48 _ HY4.out info_cloud rfl (one5 _ _ _ _ _ _ _) ?_)
  refine bodyPost_ret (v := .tuple #[CG a b (.slice (some ⟨g, 0, none⟩) n c) m k, .bool true]) (by simp [results, Try.results40, go_sem, q0, q1, q2, q3, q4]) rfl ?_
  exact ⟨⟨g, c, rfl, Go.Joins.ownsRow_le (own_row2 HO4.out HGN.out _) HSZ.out⟩, below_setRow HB4.out (by omega) _⟩
end Go.Proofs.Ytnknhfhllifnhaa
