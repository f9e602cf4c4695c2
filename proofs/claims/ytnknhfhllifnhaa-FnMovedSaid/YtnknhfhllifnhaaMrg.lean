/-
  The program's SplitCloud, of a cloud of particles in eighths, at 3.
  slices.Grow of nothing and slices.Concat of two lists of particles.
  The program's MergeClouds, of two clouds of particles in eighths on the same grid.
-/
import Derived.Test.YtnknhfhllifnhaaCg
import Derived.Test.YtnknhfhllifnhaaRegB
import Derived.Test.YtnknhfhllifnhaaR8L
import Derived.Test.YtnknhfhllifnhaaPtS
import Derived.Deep.CutRange
import Derived.Lib.AppendZerosOnto
import Derived.Lib.SliceRun
import Derived.Laws.Cover3
import Derived.Test.YtnknhfhllifnhaaGrid
namespace Go.Proofs.Ytnknhfhllifnhaa
open Go.Fl Go.RowKit
set_option linter.unusedSimpArgs false
set_option linter.unusedVariables false

theorem three_new9 (w : World) (o1 o2 o3 : Obj) : (((w.alloc o1).alloc o2).alloc o3).heap[w.heap.size]? = some o1 ∧ (((w.alloc o1).alloc o2).alloc o3).heap[w.heap.size + 1]? = some o2 ∧ (((w.alloc o1).alloc o2).alloc o3).heap[w.heap.size + 2]? = some o3 := by
  refine ⟨?_, ?_, ?_⟩
  · rw [heap_alloc_old _ _ (by simp; omega)]; exact heap_alloc2_old w _ _
  · rw [heap_alloc_old _ _ (by simp)]; exact heap_alloc2_new w _ _
  · have := heap_alloc_new ((w.alloc o1).alloc o2) o3
    simpa using this
def inL (t : Pt) : Bool := decide (t.n < 24)
def partTo (p : Pt → Bool) (ts : List Pt) (k : Nat) : List Pt := (ts.take k).filter p
theorem partTo_in {p : Pt → Bool} {ts : List Pt} {k : Nat} (h : k < ts.length) (ho : p ts[k] = true) : partTo p ts (k + 1) = partTo p ts k ++ [ts[k]] := by
  unfold partTo
  rw [List.take_succ_eq_append_getElem h, List.filter_append]
  simp [ho]
theorem partTo_out {p : Pt → Bool} {ts : List Pt} {k : Nat} (h : k < ts.length) (ho : p ts[k] = false) : partTo p ts (k + 1) = partTo p ts k := by
  unfold partTo
  rw [List.take_succ_eq_append_getElem h, List.filter_append]
  simp [ho]
theorem partTo_le (p : Pt → Bool) (ts : List Pt) (k : Nat) : (partTo p ts k).length ≤ ts.length := by
  unfold partTo
  refine Nat.le_trans (List.length_filter_le _ _) ?_
  rw [List.length_take]; exact Nat.min_le_right _ _
theorem three_dy : Dy .f32 146 1077936128 24 := Dy.of (by decide +kernel)
/-- A list of the call's own that is nil exactly if it holds nothing. -/
structure NOwn (B : Nat) (w : World) (v : Value) (ts : List Pt) : Prop where
  own : POwn B w v ts
  nil : v = .slice none 0 0 ∧ ts = [] ∨ ∃ g cap, v = .slice (some ⟨g, 0, none⟩) ts.length cap ∧ 0 < ts.length
/-- The two parts under way: the boxes of both, and their lists. -/
structure SP (B kl kr : Nat) (a b : Int) (m k : Nat) (lv rv : Value) (ls rs : List Pt) (W : World) : Prop where
  l : NOwn B W lv ls
  r : NOwn B W rv rs
  bl : W.heap[kl]? = some (.cells (CGc a b lv m k) 48)
  br : W.heap[kr]? = some (.cells (CGc a b rv m k) 48)
  hl : kl < B
  hr : kr < B
  ne : kl ≠ kr
  ap : ∀ i, lv.ownBlock = some i → rv.ownBlock ≠ some i
  zB : B ≤ W.heap.size
theorem SP.step {B kl kr : Nat} {a b : Int} {m k : Nat} {lv rv : Value} {ls rs : List Pt} {W W' : World} (h : SP B kl kr a b m k lv rv ls rs W) (hb : Below W.heap.size W W') : SP B kl kr a b m k lv rv ls rs W' :=
  ⟨⟨r4_below h.l.own hb, h.l.nil⟩, ⟨r4_below h.r.own hb, h.r.nil⟩, (hb.block kl (Array.getElem?_eq_some_iff.1 h.bl).1).trans h.bl, (hb.block kr (Array.getElem?_eq_some_iff.1 h.br).1).trans h.br, h.hl, h.hr, h.ne, h.ap, Nat.le_trans h.zB hb.size⟩
theorem SP.swap {B kl kr : Nat} {a b : Int} {m k : Nat} {lv rv : Value} {ls rs : List Pt} {W : World} (h : SP B kl kr a b m k lv rv ls rs W) : SP B kr kl a b m k rv lv rs ls W :=
  ⟨h.r, h.l, h.br, h.bl, h.hr, h.hl, h.ne.symm, fun i e1 e2 => h.ap i e2 e1, h.zB⟩
theorem heap_set' {W : World} {b i : Nat} {cs : Array Value} {t : TypeId} (h : W.heap[b]? = some (.cells cs t)) (v : Value) : (W.setCell ⟨b, i, none⟩ v).heap[b]? = some (.cells (cs.setIfInBounds i v) t) := by
  simp [World.setCell, h, Array.getElem?_modify]
theorem own_other {B b i : Nat} {w : World} {v : Value} {ts : List R4} (h : R4Own B w v ts) (hb : b < B) (u : Value) : R4Own B (w.setCell ⟨b, i, none⟩ u) v ts := by
  have hl := h.lt
  refine World.ownsRow.kept (row := some b) h (grown_cell w b i u) ?_
  cases hv : v.ownBlock with
  | none => exact .inl rfl
  | some j => exact .inr (fun e => by have := (hl j hv).1; have := Option.some.inj e; omega)
/-- The left list has got one more, and its box is told. -/
theorem SP.left {B kl kr : Nat} {a b : Int} {m k : Nat} {lv rv : Value} {ls rs : List Pt} {W W' : World} {g' cap' n : Nat} {t : Pt} (h : SP B kl kr a b m k lv rv ls rs W) (hn : ls.length = n)
    (ho : R4Own B W' (.slice (some ⟨g', 0, none⟩) (n + 1) cap') (ls.map Pt.r4 ++ [t.r4])) (hg : W.grownBy W' lv.ownBlock) (hor : lv.ownBlock = some g' ∨ g' = W.heap.size) :
    SP B kl kr a b m k (.slice (some ⟨g', 0, none⟩) (n + 1) cap') rv (ls ++ [t]) rs (W'.setCell ⟨kl, 2, none⟩ (.slice (some ⟨g', 0, none⟩) (n + 1) cap')) := by
  have hbl := h.l.own.lt; have hbr := h.r.own.lt
  have h1 := h.hl; have h2 := h.hr; have h3 := h.ne
  have e : (ls ++ [t]).length = n + 1 := by simp [hn]
  have kl' : W'.heap[kl]? = some (.cells (CGc a b lv m k) 48) := (hg.block kl (Array.getElem?_eq_some_iff.1 h.bl).1 (fun e => by have := (hbl kl e.symm).1; omega)).trans h.bl
  have kr' : W'.heap[kr]? = some (.cells (CGc a b rv m k) 48) := (hg.block kr (Array.getElem?_eq_some_iff.1 h.br).1 (fun e => by have := (hbl kr e.symm).1; omega)).trans h.br
  have hrr : R4Own B W' rv (rs.map Pt.r4) := World.ownsRow.kept (row := lv.ownBlock) h.r.own hg (by
    cases hr : rv.ownBlock with
    | none => exact .inl rfl
    | some j => exact .inr (fun e => h.ap j e.symm hr))
  refine ⟨⟨?_, .inr ⟨g', cap', by rw [e], by rw [e]; omega⟩⟩, ⟨own_other hrr h1 _, h.r.nil⟩, heap_set' kl' _, ?_, h1, h2, h3, fun i e1 e2 => ?_, by have := h.zB; have := hg.size; simp; omega⟩
  · unfold POwn
    rw [List.map_append]
    exact own_other ho h1 _
  · rw [show (W'.setCell ⟨kl, 2, none⟩ (.slice (some ⟨g', 0, none⟩) (n + 1) cap')).heap[kr]? = W'.heap[kr]? from Below.heap_setCell W' ⟨kl, 2, none⟩ _ kr h3.symm]
    exact kr'
  · have e3 : g' = i := Option.some.inj (show some g' = some i from e1)
    rcases hor with h4 | h4
    · exact h.ap g' h4 (by rw [e3]; exact e2)
    · have := (hbr i e2).2; omega

theorem wpList_app4h {ops : Array Oper} {rest : List Oper} {o : Oper} {a : Act} {w : World} {Q : Exit → Act → World → Prop} (hgd : o.guard = none) (s x : Operand) (ho : o.op = .call { callee := .builtin .append, args := #[s, x], argTypes := #[27, 27] })
    (B : Nat) (v : Value) (n : Nat) (xs : List R4) (hs : a.eval s = v) (hown : R4Own B w v xs) (hl : xs.length = n) (g c : Nat) (hx : a.eval x = .slice (some ⟨g, 0, none⟩) 1 c) (v0 v1 v2 v3 : Value) (hb : w.heap[g]? = some (.cells #[v0, v1, v2, v3] 57))
    (h0 : v0.oneCell' = true) (h1 : v1.oneCell' = true) (h2 : v2.oneCell' = true) (h3 : v3.oneCell' = true) (hn : n ≤ 1000) (hB : B ≤ w.heap.size)
    (h : ∀ g' cap' w', R4Own B w' (.slice (some ⟨g', 0, none⟩) (n + 1) cap') (xs ++ [⟨v0, v1, v2, v3⟩]) → w.grownBy w' v.ownBlock → (v.ownBlock = some g' ∨ g' = w.heap.size) → wpList Try.prog ops Q rest (a.put o.dst (.slice (some ⟨g', 0, none⟩) (n + 1) cap')) w') : wpList Try.prog ops Q (o :: rest) a w := by
  obtain ⟨ti, hi, hz0, hz1, hz2⟩ := info_parts PTinfo
  subst hl
  refine wpList_append_lies w hgd s x 27 ho B 57 ti (.agg ZC) 4 24 Try.underlying27 hi hz0 hz1 hz2 rfl (by decide) v xs.length (cells4 xs) hs hown ⟨g, 0, none⟩ 1 c [v0, v1, v2, v3] hx rfl (World.news_of_block (cs := #[v0, v1, v2, v3]) (t := 57) (fr := (0, 0)) hb) (by intro u hu; simp at hu; rcases hu with rfl | rfl | rfl | rfl <;> assumption) (by decide) (by unfold maxLen; omega) (by omega) hB w.heap.size rfl ?_
  intro g' cap' w' hown' hgrow hor _
  refine h g' cap' w' ?_ hgrow hor
  unfold R4Own
  rw [cells4_app, List.length_append, List.length_singleton]
  exact hown'

theorem grown_refl9 (w : World) (row : Option Nat) : w.grownBy w row := ⟨rfl, rfl, rfl, Nat.le_refl _, fun _ _ _ => rfl⟩
theorem oneN {B : Nat} {w : World} {v : Value} {ts : List Pt} (h : NOwn B w v ts) : v.oneCell' = true := by
  obtain ⟨a, cap, rfl, _⟩ := p_form h.own; rfl
theorem one5n {B : Nat} {w : World} {v : Value} {ts : List Pt} (h : NOwn B w v ts) (a b : Int) (m k : Nat) : (CGc a b v m k).all (·.oneCell') = true := by
  obtain ⟨x, c, rfl, _⟩ := p_form h.own; exact one5 _ _ _ _ _ _ _
theorem SP.told {B kl kr : Nat} {a b : Int} {m k : Nat} {lv rv : Value} {ls rs : List Pt} {W W' : World} (h : SP B kl kr a b m k lv rv ls rs W) (hg : W.grownBy W' lv.ownBlock) : W'.cell? ⟨kl, 2, none⟩ = some lv ∧ W'.frozen? ⟨kl, 2, none⟩ = false := by
  have hbl := h.l.own.lt
  have h1 := h.hl
  have kl' : W'.heap[kl]? = some (.cells (CGc a b lv m k) 48) := (hg.block kl (Array.getElem?_eq_some_iff.1 h.bl).1 (fun e => by have := (hbl kl e.symm).1; omega)).trans h.bl
  exact ⟨(five_cells kl').2.2.1, by simp [World.frozen?, kl']⟩

set_option maxHeartbeats 2000000 in
set_option maxRecDepth 100000 in
theorem iSplit_pt (a b : Int) (hg : gridOk a b = true) (B : Nat) (v : Value) (ts : List Pt) (m k : Nat) (w : World) (hv : POwn B w v ts) (h : oks ts) (hn : ts.length ≤ 48) (im : Num m) (ik : Num k) :
    Calls Try.prog 29 #[CG a b v m k, .float .f32 1077936128] w fun e w' => (∃ lv rv, e = .returned (.tuple #[CG a b lv m k, CG a b rv m k, .bool true]) ∧ NOwn w.heap.size w' lv (partTo inL ts ts.length) ∧ NOwn w.heap.size w' rv (partTo (fun t => !inL t) ts ts.length)) ∧ Below w.heap.size w w' := by
  have HV := Lib.hid hv; have HO := Lib.hid h
  clear hv h
  obtain ⟨av, cap, rfl, hf⟩ := p_form HV.out
  have hb0 := ((((Below.refl w.heap.size w).alloc (Nat.le_refl _) (.cells (CGc a b (.slice av ts.length cap) m k) 48)).alloc (by simp) (.cells (CC 0 0 (.slice none 0 0) 0) 48))).alloc (by simp; omega) (.cells (CC 0 0 (.slice none 0 0) 0) 48)
  have hx0 := three_new9 w (.cells (CGc a b (.slice av ts.length cap) m k) 48) (.cells (CC 0 0 (.slice none 0 0) 0) 48) (.cells (CC 0 0 (.slice none 0 0) 0) 48)
  go_enter Try.func29, Try.ntmps29
  go_wp2_with fail
  generalize ((w.alloc (.cells (CGc a b (.slice av ts.length cap) m k) 48)).alloc (.cells (CC 0 0 (.slice none 0 0) 0) 48)).alloc (.cells (CC 0 0 (.slice none 0 0) 0) 48) = w1 at hb0 hx0 ⊢
  have HB1 := Lib.hid hb0; have HX1 := Lib.hid hx0
  clear hb0 hx0
  refine (iVC_pq B a b _ (ts.map Pt.pq) m k _ (own_pq (r4_below HV.out HB1.out)) (oks_pq HO.out) (by rw [List.length_map]; exact hn) im ik hg).mono ?_
  rintro e w2 ⟨rfl, hb2⟩
  have HB2 := Lib.hid (HB1.out.trans (hb2.mono HB1.out.size))
  have HC2 := Lib.hid ((hb2.block w.heap.size (Array.getElem?_eq_some_iff.1 HX1.out.1).1).trans HX1.out.1)
  have HL2 := Lib.hid ((hb2.block (w.heap.size + 1) (Array.getElem?_eq_some_iff.1 HX1.out.2.1).1).trans HX1.out.2.1)
  have HR2 := Lib.hid ((hb2.block (w.heap.size + 2) (Array.getElem?_eq_some_iff.1 HX1.out.2.2).1).trans HX1.out.2.2)
  clear hb2 HB1 HX1
  go_upto_region 3 with fail
  go_cut [7, 8] from 16 to 17 (fun p q wx => ∃ kl kr, p = .pointer (some ⟨kl, 0, none⟩) ∧ q = .pointer (some ⟨kr, 0, none⟩) ∧ Hid (kl ≠ kr) ∧ Hid (w2.heap.size ≤ kl) ∧ Hid (w2.heap.size ≤ kr) ∧ Hid (wx.heap[kl]? = some (.cells (CGc a b (.slice av ts.length cap) m k) 48)) ∧ Hid (wx.heap[kr]? = some (.cells (CGc a b (.slice av ts.length cap) m k) 48)) ∧ Hid (Below w2.heap.size w2 wx))
  case first =>
    have hd0 := (Below.refl w2.heap.size w2).drew
    have HS := Lib.hid (fun W (hW : Below w2.heap.size w2 W) => five_cells ((hW.block w.heap.size (Array.getElem?_eq_some_iff.1 HC2.out).1).trans HC2.out))
    refine wp_region_noPanic ?_
    refine wp_region_held_drew (S := fun W => W.cell? ⟨w.heap.size, 0, none⟩ = some (.int .i64 a) ∧ W.cell? ⟨w.heap.size, 1, none⟩ = some (.int .i64 b) ∧ W.cell? ⟨w.heap.size, 2, none⟩ = some (.slice av ts.length cap) ∧ W.cell? ⟨w.heap.size, 3, none⟩ = some (.float .f32 m) ∧ W.cell? ⟨w.heap.size, 4, none⟩ = some (.float .f32 k)) (by kernel_rfl) (HS.out _ hd0) (fun hHeld => ?_)
    generalize w2.drew = v0 at hd0 hHeld ⊢
    ((refine wpAnyH_take (i := 0) (v := ?_) rfl (by kernel_rfl) (by kernel_rfl) (by kernel_rfl) (fun _ _ _ h => h) (Or.inl ⟨by rfl, ?_⟩) (by assumption) ?_; rotate_left; (· intro w hSw; (try dsimp only at hSw); go_simp; first | done | with_reducible rfl); (try simp only [List.getElem_toArray, List.getElem_cons_zero, List.getElem_cons_succ, Act.put, List.setIfInBounds_toArray, List.set_cons_zero, List.set_cons_succ])); (refine wpAnyH_take (i := 1) (v := ?_) rfl (by kernel_rfl) (by kernel_rfl) (by kernel_rfl) (fun _ _ _ h => h) (Or.inl ⟨by rfl, ?_⟩) (by assumption) ?_; rotate_left; (· intro w hSw; (try dsimp only at hSw); go_simp; first | done | with_reducible rfl); (try simp only [List.getElem_toArray, List.getElem_cons_zero, List.getElem_cons_succ, Act.put, List.setIfInBounds_toArray, List.set_cons_zero, List.set_cons_succ])))
    refine wpAnyH_ready (rs := [2, 3]) (by kernel_rfl) (by simp) ?_
    refine AllReadyH.cons (i := 2) rfl (fun K hK => ?_) (AllReadyH.cons (i := 3) rfl (fun K hK => ?_) AllReadyH.nil)
    · go_simp
      have hd1 := hd0.alloc hd0.size (.cells (CC 0 0 (.slice none 0 0) 0) 48)
      have HP1 := Lib.hid (heap_alloc_new v0 (.cells (CC 0 0 (.slice none 0 0) 0) 48))
      have HG1 := Lib.hid hd0.size
      (refine hK.out _ _ (HS.out _ hd1) (fun hHeld => ?_); clear hK K; (try simp only [List.getElem_toArray, List.getElem_cons_zero, List.getElem_cons_succ, Act.put, List.setIfInBounds_toArray, List.set_cons_zero, List.set_cons_succ]))
      have HQ1 := Lib.hid (Array.getElem?_eq_some_iff.1 HP1.out).1
      generalize v0.alloc (.cells (CC 0 0 (.slice none 0 0) 0) 48) = v1 at hd1 HP1 HQ1 hHeld ⊢
      generalize v0.heap.size = k1 at HP1 HG1 HQ1 ⊢
      (refine wpAnyH_ready (rs := [3]) (by kernel_rfl) (by simp) ?_; refine AllReadyH.cons (i := 3) rfl (fun K hK => ?_) AllReadyH.nil)
      go_simp
      have hd2 := hd1.alloc hd1.size (.cells (CC 0 0 (.slice none 0 0) 0) 48)
      have HP2 := Lib.hid (heap_alloc_new v1 (.cells (CC 0 0 (.slice none 0 0) 0) 48))
      have HP1 := Lib.hid ((((Below.refl v1.heap.size v1).alloc (Nat.le_refl _) (.cells (CC 0 0 (.slice none 0 0) 0) 48)).block k1 HQ1.out).trans HP1.out)
      have HG2 := Lib.hid hd1.size
      have HNE := Lib.hid (show k1 ≠ v1.heap.size from Nat.ne_of_lt HQ1.out)
      (refine hK.out _ _ (HS.out _ hd2) (fun hHeld => ?_); clear hK K; (try simp only [List.getElem_toArray, List.getElem_cons_zero, List.getElem_cons_succ, Act.put, List.setIfInBounds_toArray, List.set_cons_zero, List.set_cons_succ]))
      generalize v1.alloc (.cells (CC 0 0 (.slice none 0 0) 0) 48) = v2 at hd2 HP1 HP2 hHeld ⊢
      generalize v1.heap.size = k2 at HP2 HG2 HNE HQ1 ⊢
      clear HQ1 hd0 hd1
      (refine wpAnyH_ready (rs := [4]) (by kernel_rfl) (by simp) ?_; refine AllReadyH.cons (i := 4) rfl (fun K hK => ?_) AllReadyH.nil)
      refine hstep_store rfl 48 _ _ rfl k1 (CGc a b (.slice av ts.length cap) m k) rfl rfl 48 _ HP1.out info_cloud rfl (one5 _ _ _ _ _ _ _) ?_
      have hd3 := below_setRow hd2 (show w2.heap.size ≤ k1 from HG1.out) (CGc a b (.slice av ts.length cap) m k)
      have HB3 := Lib.hid (show (v2.setRow k1 (CGc a b (.slice av ts.length cap) m k)).heap[k1]? = some (.cells (CGc a b (.slice av ts.length cap) m k) 48) from setRow_heap _ _ _ _ _ _ HP1.out)
      have HB4 := Lib.hid (show (v2.setRow k1 (CGc a b (.slice av ts.length cap) m k)).heap[k2]? = some (.cells (CC 0 0 (.slice none 0 0) 0) 48) from (setRow_other v2 k1 k2 (CGc a b (.slice av ts.length cap) m k) (by have := HNE.out; omega)).trans HP2.out)
      (refine hK.out _ _ (HS.out _ hd3) (fun hHeld => ?_); clear hK K; (try simp only [List.getElem_toArray, List.getElem_cons_zero, List.getElem_cons_succ, Act.put, List.setIfInBounds_toArray, List.set_cons_zero, List.set_cons_succ]))
      generalize v2.setRow k1 (CGc a b (.slice av ts.length cap) m k) = v3 at hd3 HB3 HB4 hHeld ⊢
      (refine wpAnyH_ready (rs := [5]) (by kernel_rfl) (by simp) ?_; refine AllReadyH.cons (i := 5) rfl (fun K hK => ?_) AllReadyH.nil)
      refine hstep_store rfl 48 _ _ rfl k2 (CGc a b (.slice av ts.length cap) m k) rfl rfl 48 _ HB4.out info_cloud rfl (one5 _ _ _ _ _ _ _) ?_
      have hd4 := below_setRow hd3 (show w2.heap.size ≤ k2 from HG2.out) (CGc a b (.slice av ts.length cap) m k)
      have HB5 := Lib.hid (show (v3.setRow k2 (CGc a b (.slice av ts.length cap) m k)).heap[k2]? = some (.cells (CGc a b (.slice av ts.length cap) m k) 48) from setRow_heap _ _ _ _ _ _ HB4.out)
      have HB6 := Lib.hid ((setRow_other v3 k2 k1 (CGc a b (.slice av ts.length cap) m k) (by have := HNE.out; omega)).trans HB3.out)
      (refine hK.out _ _ (HS.out _ hd4) (fun hHeld => ?_); clear hK K; (try simp only [List.getElem_toArray, List.getElem_cons_zero, List.getElem_cons_succ, Act.put, List.setIfInBounds_toArray, List.set_cons_zero, List.set_cons_succ]))
      (refine wpAnyH_done (by kernel_rfl) ?_ _; refine NoPanic.normal ?_)
      go_wp2_with fail
      go_meet
      case rel => exact ⟨k1, k2, rfl, rfl, Lib.hid (by have := HNE.out; omega), HG1, HG2, HB6, HB5, Lib.hid hd4⟩
    · go_simp
      have hd1 := hd0.alloc hd0.size (.cells (CC 0 0 (.slice none 0 0) 0) 48)
      have HP1 := Lib.hid (heap_alloc_new v0 (.cells (CC 0 0 (.slice none 0 0) 0) 48))
      have HG1 := Lib.hid hd0.size
      (refine hK.out _ _ (HS.out _ hd1) (fun hHeld => ?_); clear hK K; (try simp only [List.getElem_toArray, List.getElem_cons_zero, List.getElem_cons_succ, Act.put, List.setIfInBounds_toArray, List.set_cons_zero, List.set_cons_succ]))
      have HQ1 := Lib.hid (Array.getElem?_eq_some_iff.1 HP1.out).1
      generalize v0.alloc (.cells (CC 0 0 (.slice none 0 0) 0) 48) = v1 at hd1 HP1 HQ1 hHeld ⊢
      generalize v0.heap.size = k1 at HP1 HG1 HQ1 ⊢
      (refine wpAnyH_ready (rs := [2]) (by kernel_rfl) (by simp) ?_; refine AllReadyH.cons (i := 2) rfl (fun K hK => ?_) AllReadyH.nil)
      go_simp
      have hd2 := hd1.alloc hd1.size (.cells (CC 0 0 (.slice none 0 0) 0) 48)
      have HP2 := Lib.hid (heap_alloc_new v1 (.cells (CC 0 0 (.slice none 0 0) 0) 48))
      have HP1 := Lib.hid ((((Below.refl v1.heap.size v1).alloc (Nat.le_refl _) (.cells (CC 0 0 (.slice none 0 0) 0) 48)).block k1 HQ1.out).trans HP1.out)
      have HG2 := Lib.hid hd1.size
      have HNE := Lib.hid (show k1 ≠ v1.heap.size from Nat.ne_of_lt HQ1.out)
      (refine hK.out _ _ (HS.out _ hd2) (fun hHeld => ?_); clear hK K; (try simp only [List.getElem_toArray, List.getElem_cons_zero, List.getElem_cons_succ, Act.put, List.setIfInBounds_toArray, List.set_cons_zero, List.set_cons_succ]))
      generalize v1.alloc (.cells (CC 0 0 (.slice none 0 0) 0) 48) = v2 at hd2 HP1 HP2 hHeld ⊢
      generalize v1.heap.size = k2 at HP2 HG2 HNE HQ1 ⊢
      clear HQ1 hd0 hd1
      (refine wpAnyH_ready (rs := [4]) (by kernel_rfl) (by simp) ?_; refine AllReadyH.cons (i := 4) rfl (fun K hK => ?_) AllReadyH.nil)
      refine hstep_store rfl 48 _ _ rfl k2 (CGc a b (.slice av ts.length cap) m k) rfl rfl 48 _ HP2.out info_cloud rfl (one5 _ _ _ _ _ _ _) ?_
      have hd3 := below_setRow hd2 (show w2.heap.size ≤ k2 from HG2.out) (CGc a b (.slice av ts.length cap) m k)
      have HB3 := Lib.hid (show (v2.setRow k2 (CGc a b (.slice av ts.length cap) m k)).heap[k2]? = some (.cells (CGc a b (.slice av ts.length cap) m k) 48) from setRow_heap _ _ _ _ _ _ HP2.out)
      have HB4 := Lib.hid (show (v2.setRow k2 (CGc a b (.slice av ts.length cap) m k)).heap[k1]? = some (.cells (CC 0 0 (.slice none 0 0) 0) 48) from (setRow_other v2 k2 k1 (CGc a b (.slice av ts.length cap) m k) (by have := HNE.out; omega)).trans HP1.out)
      (refine hK.out _ _ (HS.out _ hd3) (fun hHeld => ?_); clear hK K; (try simp only [List.getElem_toArray, List.getElem_cons_zero, List.getElem_cons_succ, Act.put, List.setIfInBounds_toArray, List.set_cons_zero, List.set_cons_succ]))
      generalize v2.setRow k2 (CGc a b (.slice av ts.length cap) m k) = v3 at hd3 HB3 HB4 hHeld ⊢
      (refine wpAnyH_ready (rs := [5]) (by kernel_rfl) (by simp) ?_; refine AllReadyH.cons (i := 5) rfl (fun K hK => ?_) AllReadyH.nil)
      refine hstep_store rfl 48 _ _ rfl k1 (CGc a b (.slice av ts.length cap) m k) rfl rfl 48 _ HB4.out info_cloud rfl (one5 _ _ _ _ _ _ _) ?_
      have hd4 := below_setRow hd3 (show w2.heap.size ≤ k1 from HG1.out) (CGc a b (.slice av ts.length cap) m k)
      have HB5 := Lib.hid (show (v3.setRow k1 (CGc a b (.slice av ts.length cap) m k)).heap[k1]? = some (.cells (CGc a b (.slice av ts.length cap) m k) 48) from setRow_heap _ _ _ _ _ _ HB4.out)
      have HB6 := Lib.hid ((setRow_other v3 k1 k2 (CGc a b (.slice av ts.length cap) m k) (by have := HNE.out; omega)).trans HB3.out)
      (refine hK.out _ _ (HS.out _ hd4) (fun hHeld => ?_); clear hK K; (try simp only [List.getElem_toArray, List.getElem_cons_zero, List.getElem_cons_succ, Act.put, List.setIfInBounds_toArray, List.set_cons_zero, List.set_cons_succ]))
      (refine wpAnyH_done (by kernel_rfl) ?_ _; refine NoPanic.normal ?_)
      go_wp2_with fail
      go_meet
      case rel => exact ⟨k2, k1, rfl, rfl, Lib.hid (by have := HNE.out; omega), HG2, HG1, HB6, HB5, Lib.hid hd4⟩
  case rest =>
    obtain ⟨kl, kr, rfl, rfl, HNE, HKL, HKR, HBL, HBR, HB3⟩ := hcut
    obtain ⟨_, _, l2, _, _⟩ := five_cells HBL.out
    have lf : wc.frozen? ⟨kl, 2, none⟩ = false := by simp [World.frozen?, HBL.out]
    have HBR1 := Lib.hid (show (wc.setCell ⟨kl, 2, none⟩ (.slice none 0 0)).heap[kr]? = some (.cells (CGc a b (.slice av ts.length cap) m k) 48) from (Below.heap_setCell wc ⟨kl, 2, none⟩ _ kr HNE.out.symm).trans HBR.out)
    obtain ⟨_, _, r2, _, _⟩ := five_cells HBR1.out
    have rf : (wc.setCell ⟨kl, 2, none⟩ (.slice none 0 0)).frozen? ⟨kr, 2, none⟩ = false := by simp [World.frozen?, HBR1.out]
    have HB4 := Lib.hid (show Below w2.heap.size w2 ((wc.setCell ⟨kl, 2, none⟩ (.slice none 0 0)).setCell ⟨kr, 2, none⟩ (.slice none 0 0)) from (HB3.out.setCell (p := ⟨kl, 2, none⟩) HKL.out _).setCell (p := ⟨kr, 2, none⟩) HKR.out _)
    have HP4 := Lib.hid (show SP wc.heap.size kl kr a b m k (.slice none 0 0) (.slice none 0 0) (partTo inL ts 0) (partTo (fun t => !inL t) ts 0) ((wc.setCell ⟨kl, 2, none⟩ (.slice none 0 0)).setCell ⟨kr, 2, none⟩ (.slice none 0 0)) from
      ⟨⟨World.ownsRow_nil _ _ _ _, .inl ⟨rfl, rfl⟩⟩, ⟨World.ownsRow_nil _ _ _ _, .inl ⟨rfl, rfl⟩⟩, (Below.heap_setCell _ ⟨kr, 2, none⟩ _ kl HNE.out).trans (heap_set' HBL.out _), heap_set' HBR1.out _, (Array.getElem?_eq_some_iff.1 HBL.out).1, (Array.getElem?_eq_some_iff.1 HBR.out).1, HNE.out, fun i e => (by cases e), (by simp)⟩)
    have c2 := (five_cells ((HB4.out.block w.heap.size (Array.getElem?_eq_some_iff.1 HC2.out).1).trans HC2.out)).2.2.1
    go_wp2_with fail
    generalize ((wc.setCell ⟨kl, 2, none⟩ (.slice none 0 0)).setCell ⟨kr, 2, none⟩ (.slice none 0 0)) = w4 at HB4 HP4 c2 ⊢
    have HB3S := Lib.hid HB3.out.size
    clear l2 lf r2 rf HBR1 HBL HBR HB3 c2
    go_loopw [23] (fun i wr => ∃ (q : Nat) (lv rv : Value), q ≤ ts.length ∧ i = .int .i64 (q : Int) ∧ Hid (SP wc.heap.size kl kr a b m k lv rv (partTo inL ts q) (partTo (fun t => !inL t) ts q) wr) ∧ Hid (Below w2.heap.size w2 wr)) (fun i _ => ts.length - (intOf i).toNat)
    case atStart => exact ⟨0, _, _, Nat.zero_le _, rfl, HP4, HB4⟩
    case round =>
      clear HP4 HB4
      obtain ⟨q, lv, rv, hq, rfl, HP, HB⟩ := hrel
      by_cases hlt : q < ts.length
      · rcases hf with hf | ⟨g, rfl, _, _⟩
        · subst hf; simp at hlt
        obtain ⟨c0, c1, c2, c3⟩ := p_cells (r4_below HV.out (HB2.out.trans (HB.out.mono HB2.out.size))) hlt
        have HT := Lib.hid (oks_at HO.out hlt)
        have HIL := Lib.hid (fun e => partTo_in (p := inL) hlt e); have HOL := Lib.hid (fun e => partTo_out (p := inL) hlt e)
        have HIR := Lib.hid (fun e => partTo_in (p := fun t => !inL t) hlt e); have HOR := Lib.hid (fun e => partTo_out (p := fun t => !inL t) hlt e)
        have HK := Lib.hid (show (partTo inL ts q).length ≤ 48 ∧ (partTo (fun t => !inL t) ts q).length ≤ 48 from ⟨Nat.le_trans (partTo_le _ _ _) hn, Nat.le_trans (partTo_le _ _ _) hn⟩)
        generalize ts[q] = t at c0 c1 c2 c3 HT HIL HOL HIR HOR
        have HP5 := Lib.hid (HP.out.step ((Below.refl wr.heap.size wr).alloc (Nat.le_refl _) (.cells #[.complex .f32 (E8 t.n) (E8 t.m), .complex .f32 t.x t.y, .float .f32 (E8 t.c), .float .f32 (E8 t.s)] 57)))
        have HX5 := Lib.hid (heap_alloc_new wr (.cells #[.complex .f32 (E8 t.n) (E8 t.m), .complex .f32 t.x t.y, .float .f32 (E8 t.c), .float .f32 (E8 t.s)] 57))
        have HB5 := Lib.hid (HB.out.alloc HB.out.size (.cells #[.complex .f32 (E8 t.n) (E8 t.m), .complex .f32 t.x t.y, .float .f32 (E8 t.c), .float .f32 (E8 t.s)] 57))
        have HL5 := Lib.hid (show wr.heap.size < (wr.alloc (.cells #[.complex .f32 (E8 t.n) (E8 t.m), .complex .f32 t.x t.y, .float .f32 (E8 t.c), .float .f32 (E8 t.s)] 57)).heap.size by simp)
        have hdy := dy_e8 t.n HT.out.n0 HT.out.n1
        have ie := hdy.is
        clear HP HB
        cases hin : inL t with
        | true =>
        have hcmp : fcmp .lss .f32 (E8 t.n) 1077936128 = true := by rw [hdy.lss three_dy]; exact hin
        clear hdy
        have HIN := Lib.hid hin
        clear hin
        obtain ⟨q2, _⟩ := HP5.out.told (grown_refl9 _ _)
        have HX6 := Lib.hid (heap_alloc2_new wr (.cells #[.complex .f32 (E8 t.n) (E8 t.m), .complex .f32 t.x t.y, .float .f32 (E8 t.c), .float .f32 (E8 t.s)] 57) (.cells #[.complex .f32 (E8 t.n) (E8 t.m), .complex .f32 t.x t.y, .float .f32 (E8 t.c), .float .f32 (E8 t.s)] 57))
        have HP6 := Lib.hid (HP5.out.step ((Below.refl (wr.alloc (.cells #[.complex .f32 (E8 t.n) (E8 t.m), .complex .f32 t.x t.y, .float .f32 (E8 t.c), .float .f32 (E8 t.s)] 57)).heap.size (wr.alloc (.cells #[.complex .f32 (E8 t.n) (E8 t.m), .complex .f32 t.x t.y, .float .f32 (E8 t.c), .float .f32 (E8 t.s)] 57))).alloc (Nat.le_refl _) (.cells #[.complex .f32 (E8 t.n) (E8 t.m), .complex .f32 t.x t.y, .float .f32 (E8 t.c), .float .f32 (E8 t.s)] 57)))
        have HB6 := Lib.hid (HB5.out.alloc HB5.out.size (.cells #[.complex .f32 (E8 t.n) (E8 t.m), .complex .f32 t.x t.y, .float .f32 (E8 t.c), .float .f32 (E8 t.s)] 57))
        have hone := oneN HP5.out.l
        have hkr0 := HKR.out; have hkl0 := HKL.out
        clear hkr0 hkl0
        go_wp2_with (first | (at_builtin; refine wpList_app4h rfl _ _ rfl wc.heap.size lv (partTo inL ts q).length ((partTo inL ts q).map Pt.r4) rfl HP6.out.l.own (by rw [List.length_map]) (wr.heap.size + 1) 1 rfl (.complex .f32 (E8 t.n) (E8 t.m)) (.complex .f32 t.x t.y) (.float .f32 (E8 t.c)) (.float .f32 (E8 t.s)) HX6.out rfl rfl rfl rfl (by have := HK.out; omega) HP6.out.zB ?_; intro g' cap' w7 hown hgrow hor; obtain ⟨z2, zf⟩ := HP6.out.told hgrow) | (apply wpList_fcmp; rfl; rfl; rfl; rfl; (first | with_reducible assumption | exact Is.const rfl); (first | with_reducible assumption | exact Is.const rfl); (first | with_reducible assumption | exact rfl)))
        have HP8 := Lib.hid (HP6.out.left (t := t) rfl hown hgrow hor)
        have HB7 := Lib.hid (HB6.out.grown hgrow HB6.out.size (fun i e => by have h1 := (HP6.out.l.own.lt i e).1; have h2 := HB3S.out; omega))
        have HB8 := Lib.hid (HB7.out.setCell (p := ⟨kl, 2, none⟩) HKL.out (.slice (some ⟨g', 0, none⟩) ((partTo inL ts q).length + 1) cap'))
        rw [← HIL.out HIN.out] at HP8
        rw [← HOR.out (show (!inL t) = false from by rw [HIN.out]; rfl)] at HP8
        go_roundw
        case rel => exact ⟨q + 1, _, _, by omega, by go_num, HP8, HB8⟩
        case measure => simp [intOf]; omega
        | false =>
        have hcmp : fcmp .lss .f32 (E8 t.n) 1077936128 = false := by rw [hdy.lss three_dy]; exact hin
        clear hdy
        have HIN := Lib.hid hin
        clear hin
        obtain ⟨q2, _⟩ := HP5.out.swap.told (grown_refl9 _ _)
        have HX6 := Lib.hid (heap_alloc2_new wr (.cells #[.complex .f32 (E8 t.n) (E8 t.m), .complex .f32 t.x t.y, .float .f32 (E8 t.c), .float .f32 (E8 t.s)] 57) (.cells #[.complex .f32 (E8 t.n) (E8 t.m), .complex .f32 t.x t.y, .float .f32 (E8 t.c), .float .f32 (E8 t.s)] 57))
        have HP6 := Lib.hid (HP5.out.step ((Below.refl (wr.alloc (.cells #[.complex .f32 (E8 t.n) (E8 t.m), .complex .f32 t.x t.y, .float .f32 (E8 t.c), .float .f32 (E8 t.s)] 57)).heap.size (wr.alloc (.cells #[.complex .f32 (E8 t.n) (E8 t.m), .complex .f32 t.x t.y, .float .f32 (E8 t.c), .float .f32 (E8 t.s)] 57))).alloc (Nat.le_refl _) (.cells #[.complex .f32 (E8 t.n) (E8 t.m), .complex .f32 t.x t.y, .float .f32 (E8 t.c), .float .f32 (E8 t.s)] 57)))
        have HB6 := Lib.hid (HB5.out.alloc HB5.out.size (.cells #[.complex .f32 (E8 t.n) (E8 t.m), .complex .f32 t.x t.y, .float .f32 (E8 t.c), .float .f32 (E8 t.s)] 57))
        have hone := oneN HP5.out.swap.l
        have hkr0 := HKR.out; have hkl0 := HKL.out
        clear hkr0 hkl0
        go_wp2_with (first | (at_builtin; refine wpList_app4h rfl _ _ rfl wc.heap.size rv (partTo (fun t => !inL t) ts q).length ((partTo (fun t => !inL t) ts q).map Pt.r4) rfl HP6.out.swap.l.own (by rw [List.length_map]) (wr.heap.size + 1) 1 rfl (.complex .f32 (E8 t.n) (E8 t.m)) (.complex .f32 t.x t.y) (.float .f32 (E8 t.c)) (.float .f32 (E8 t.s)) HX6.out rfl rfl rfl rfl (by have := HK.out; omega) HP6.out.zB ?_; intro g' cap' w7 hown hgrow hor; obtain ⟨z2, zf⟩ := HP6.out.swap.told hgrow) | (apply wpList_fcmp; rfl; rfl; rfl; rfl; (first | with_reducible assumption | exact Is.const rfl); (first | with_reducible assumption | exact Is.const rfl); (first | with_reducible assumption | exact rfl)))
        have HP8 := Lib.hid (HP6.out.swap.left (t := t) rfl hown hgrow hor)
        have HB7 := Lib.hid (HB6.out.grown hgrow HB6.out.size (fun i e => by have h1 := (HP6.out.swap.l.own.lt i e).1; have h2 := HB3S.out; omega))
        have HB8 := Lib.hid (HB7.out.setCell (p := ⟨kr, 2, none⟩) HKR.out (.slice (some ⟨g', 0, none⟩) ((partTo (fun t => !inL t) ts q).length + 1) cap'))
        rw [← HIR.out (show (!inL t) = true from by rw [HIN.out]; rfl)] at HP8
        rw [← HOL.out HIN.out] at HP8
        go_roundw
        case rel => exact ⟨q + 1, _, _, by omega, by go_num, Lib.hid HP8.out.swap, HB8⟩
        case measure => simp [intOf]; omega
      · obtain rfl : q = ts.length := by omega
        clear hlt
        have HL3 := Lib.hid ((HB.out.block (w.heap.size + 1) (Array.getElem?_eq_some_iff.1 HL2.out).1).trans HL2.out)
        have HR3 := Lib.hid ((HB.out.block (w.heap.size + 2) (Array.getElem?_eq_some_iff.1 HR2.out).1).trans HR2.out)
        have hlL := (Array.getElem?_eq_some_iff.1 HL2.out).1
        have hlR := (Array.getElem?_eq_some_iff.1 HR2.out).1
        have HLB := Lib.hid (And.intro (show w.heap.size + 2 < w2.heap.size from hlR) (And.intro HKL.out HKR.out))
        have o1 := one5n HP.out.l a b m k; have o2 := one5n HP.out.r a b m k
        have HO1 := Lib.hid (And.intro o1 o2)
        clear hlL hlR o1 o2
        have hS := And.intro (five_cells HP.out.bl) (five_cells HP.out.br)
        go_upto_region 12 with fail
        refine wp_region_noPanic ?_
        refine wp_region_held_drew (S := fun W => (W.cell? ⟨kl, 0, none⟩ = some (.int .i64 a) ∧ W.cell? ⟨kl, 1, none⟩ = some (.int .i64 b) ∧ W.cell? ⟨kl, 2, none⟩ = some lv ∧ W.cell? ⟨kl, 3, none⟩ = some (.float .f32 m) ∧ W.cell? ⟨kl, 4, none⟩ = some (.float .f32 k)) ∧ (W.cell? ⟨kr, 0, none⟩ = some (.int .i64 a) ∧ W.cell? ⟨kr, 1, none⟩ = some (.int .i64 b) ∧ W.cell? ⟨kr, 2, none⟩ = some rv ∧ W.cell? ⟨kr, 3, none⟩ = some (.float .f32 m) ∧ W.cell? ⟨kr, 4, none⟩ = some (.float .f32 k))) (by kernel_rfl) hS (fun hHeld => ?_)
        have HP1 := Lib.hid (HP.out.step ((Below.refl wr.heap.size wr).drew))
        have HB1 := Lib.hid HB.out.drew
        have HL4 := Lib.hid (show wr.drew.heap[w.heap.size + 1]? = _ from HL3.out)
        have HR4 := Lib.hid (show wr.drew.heap[w.heap.size + 2]? = _ from HR3.out)
        generalize wr.drew = v0 at HP1 HB1 HL4 HR4 hHeld ⊢
        clear HL3 HR3 HP HB hS
        have HF := Lib.hid (fun (W : World) (x : Nat) (cs : Array Value) (hx : x = w.heap.size + 1 ∨ x = w.heap.size + 2) (o : Nat) (u : Value) (y : Nat) (hy : y = kl ∨ y = kr) (h : W.cell? ⟨y, o, none⟩ = some u) => row_far (W := W) (k := x) (ds := cs) (g := y) (by have := HLB.out; omega) h)
        ((refine wpAnyH_take (i := 0) (v := ?_) rfl (by kernel_rfl) (by kernel_rfl) (by kernel_rfl) (fun _ _ _ h => h) (Or.inl ⟨by rfl, ?_⟩) (by assumption) ?_; rotate_left; (· intro w hSw; (try dsimp only at hSw); go_simp; first | done | with_reducible rfl); (try simp only [List.getElem_toArray, List.getElem_cons_zero, List.getElem_cons_succ, Act.put, List.setIfInBounds_toArray, List.set_cons_zero, List.set_cons_succ])); (refine wpAnyH_take (i := 1) (v := ?_) rfl (by kernel_rfl) (by kernel_rfl) (by kernel_rfl) (fun _ _ _ h => h) (Or.inl ⟨by rfl, ?_⟩) (by assumption) ?_; rotate_left; (· intro w hSw; (try dsimp only at hSw); go_simp; first | done | with_reducible rfl); (try simp only [List.getElem_toArray, List.getElem_cons_zero, List.getElem_cons_succ, Act.put, List.setIfInBounds_toArray, List.set_cons_zero, List.set_cons_succ])))
        (refine wpAnyH_ready (rs := [2]) (by kernel_rfl) (by simp) ?_; refine AllReadyH.cons (i := 2) rfl (fun K hK => ?_) AllReadyH.nil)
        refine hstep_store rfl 48 _ _ rfl (w.heap.size + 1) (CGc a b lv m k) rfl rfl 48 _ HL4.out info_cloud rfl HO1.out.1 ?_
        have hS1 := hHeld
        (refine hK.out _ _ (⟨⟨HF.out _ _ _ (.inl rfl) _ _ _ (.inl rfl) hS1.1.1, HF.out _ _ _ (.inl rfl) _ _ _ (.inl rfl) hS1.1.2.1, HF.out _ _ _ (.inl rfl) _ _ _ (.inl rfl) hS1.1.2.2.1, HF.out _ _ _ (.inl rfl) _ _ _ (.inl rfl) hS1.1.2.2.2.1, HF.out _ _ _ (.inl rfl) _ _ _ (.inl rfl) hS1.1.2.2.2.2⟩, ⟨HF.out _ _ _ (.inl rfl) _ _ _ (.inr rfl) hS1.2.1, HF.out _ _ _ (.inl rfl) _ _ _ (.inr rfl) hS1.2.2.1, HF.out _ _ _ (.inl rfl) _ _ _ (.inr rfl) hS1.2.2.2.1, HF.out _ _ _ (.inl rfl) _ _ _ (.inr rfl) hS1.2.2.2.2.1, HF.out _ _ _ (.inl rfl) _ _ _ (.inr rfl) hS1.2.2.2.2.2⟩⟩) (fun hHeld => ?_); clear hK K; (try simp only [List.getElem_toArray, List.getElem_cons_zero, List.getElem_cons_succ, Act.put, List.setIfInBounds_toArray, List.set_cons_zero, List.set_cons_succ]))
        have HL5 := Lib.hid (show (v0.setRow (w.heap.size + 1) (CGc a b lv m k)).heap[w.heap.size + 1]? = some (.cells (CGc a b lv m k) 48) from setRow_heap _ _ _ _ _ _ HL4.out)
        have HR5 := Lib.hid ((setRow_other v0 (w.heap.size + 1) (w.heap.size + 2) (CGc a b lv m k) (by omega)).trans HR4.out)
        (refine wpAnyH_ready (rs := [3]) (by kernel_rfl) (by simp) ?_; refine AllReadyH.cons (i := 3) rfl (fun K hK => ?_) AllReadyH.nil)
        refine hstep_store rfl 48 _ _ rfl (w.heap.size + 2) (CGc a b rv m k) rfl rfl 48 _ HR5.out info_cloud rfl HO1.out.2 ?_
        rename_i hS2
        (refine hK.out _ _ (⟨⟨HF.out _ _ _ (.inr rfl) _ _ _ (.inl rfl) hHeld.1.1, HF.out _ _ _ (.inr rfl) _ _ _ (.inl rfl) hHeld.1.2.1, HF.out _ _ _ (.inr rfl) _ _ _ (.inl rfl) hHeld.1.2.2.1, HF.out _ _ _ (.inr rfl) _ _ _ (.inl rfl) hHeld.1.2.2.2.1, HF.out _ _ _ (.inr rfl) _ _ _ (.inl rfl) hHeld.1.2.2.2.2⟩, ⟨HF.out _ _ _ (.inr rfl) _ _ _ (.inr rfl) hHeld.2.1, HF.out _ _ _ (.inr rfl) _ _ _ (.inr rfl) hHeld.2.2.1, HF.out _ _ _ (.inr rfl) _ _ _ (.inr rfl) hHeld.2.2.2.1, HF.out _ _ _ (.inr rfl) _ _ _ (.inr rfl) hHeld.2.2.2.2.1, HF.out _ _ _ (.inr rfl) _ _ _ (.inr rfl) hHeld.2.2.2.2.2⟩⟩) (fun hHeld => ?_); clear hK K; (try simp only [List.getElem_toArray, List.getElem_cons_zero, List.getElem_cons_succ, Act.put, List.setIfInBounds_toArray, List.set_cons_zero, List.set_cons_succ]))
        ((refine wpAnyH_take (i := 4) (v := ?_) rfl (by kernel_rfl) (by kernel_rfl) (by kernel_rfl) (fun _ _ _ h => h) (Or.inl ⟨by rfl, ?_⟩) (by assumption) ?_; rotate_left; (· intro w hSw; (try dsimp only at hSw); go_simp; first | done | with_reducible rfl); (try simp only [List.getElem_toArray, List.getElem_cons_zero, List.getElem_cons_succ, Act.put, List.setIfInBounds_toArray, List.set_cons_zero, List.set_cons_succ])))
        (refine wpAnyH_done (by kernel_rfl) ?_ _; refine NoPanic.normal ?_)
        have HR6 := Lib.hid (show ((v0.setRow (w.heap.size + 1) (CGc a b lv m k)).setRow (w.heap.size + 2) (CGc a b rv m k)).heap[w.heap.size + 2]? = some (.cells (CGc a b rv m k) 48) from setRow_heap _ _ _ _ _ _ HR5.out)
        have HL6 := Lib.hid ((setRow_other (v0.setRow (w.heap.size + 1) (CGc a b lv m k)) (w.heap.size + 2) (w.heap.size + 1) (CGc a b rv m k) (by omega)).trans HL5.out)
        obtain ⟨q0, q1, q2, q3, q4⟩ := five_cells HL6.out
        obtain ⟨r0, r1, r2, r3, r4⟩ := five_cells HR6.out
        have HBF := Lib.hid (below_setRow (below_setRow (HB2.out.trans (HB1.out.mono HB2.out.size)) (show w.heap.size ≤ w.heap.size + 1 by omega) (CGc a b lv m k)) (show w.heap.size ≤ w.heap.size + 2 by omega) (CGc a b rv m k))
        have HKB := Lib.hid (And.intro HP1.out.zB HB3S.out)
        have HNL := Lib.hid (show NOwn w.heap.size ((v0.setRow (w.heap.size + 1) (CGc a b lv m k)).setRow (w.heap.size + 2) (CGc a b rv m k)) lv (partTo inL ts ts.length) from ⟨Go.Joins.ownsRow_le (own_row (own_row HP1.out.l.own (by have := HLB.out; have := HKB.out; omega) _) (by have := HLB.out; have := HKB.out; omega) _) (by have := HLB.out; have := HKB.out; omega), HP1.out.l.nil⟩)
        have HNR := Lib.hid (show NOwn w.heap.size ((v0.setRow (w.heap.size + 1) (CGc a b lv m k)).setRow (w.heap.size + 2) (CGc a b rv m k)) rv (partTo (fun t => !inL t) ts ts.length) from ⟨Go.Joins.ownsRow_le (own_row (own_row HP1.out.r.own (by have := HLB.out; have := HKB.out; omega) _) (by have := HLB.out; have := HKB.out; omega) _) (by have := HLB.out; have := HKB.out; omega), HP1.out.r.nil⟩)
        clear hHeld
        go_wp2_with fail
        refine bodyPost_ret (v := .tuple #[CG a b lv m k, CG a b rv m k, .bool true]) (by simp [results, Try.results29, go_sem, q0, q1, q2, q3, q4, r0, r1, r2, r3, r4]) rfl ?_
        exact ⟨⟨lv, rv, rfl, HNL.out, HNR.out⟩, HBF.out⟩
end Go.Proofs.Ytnknhfhllifnhaa
namespace Go.Proofs.Ytnknhfhllifnhaa
open Go.Fl Go.RowKit
set_option linter.unusedSimpArgs false
set_option linter.unusedVariables false

theorem zero_size (n : Nat) : (Builtin.zeroCells (Value.agg ZC).cells n).size = n * 4 := by
  simp [Builtin.zeroCells, Value.cells]
/-- Nil, or a row. -/
def Fresh (v : Value) (n : Nat) : Prop := v = .slice none 0 0 ∧ n = 0 ∨ ∃ g cap, v = .slice (some ⟨g, 0, none⟩) 0 cap ∧ 0 < n
set_option maxHeartbeats 1000000 in
set_option maxRecDepth 100000 in
theorem grow_nil (n : Nat) (hn : n ≤ 100) (w : World) : Calls Try.prog 158 #[.slice none 0 0, .int .i64 (n : Int)] w fun e w' =>
    (∃ v, e = .returned v ∧ POwn w.heap.size w' v [] ∧ Fresh v n) ∧ Below w.heap.size w w' := by
  by_cases h0 : n = 0
  · subst h0
    rw [show ((0 : Nat) : Int) = 0 from rfl]
    go_enter Try.func158, Try.ntmps158
    go_wp2
    go_ret
    exact ⟨⟨_, rfl, World.ownsRow_nil _ _ _ _, Or.inl ⟨rfl, rfl⟩⟩, Below.refl _ _⟩
  · obtain ⟨i0, hi, hz0, hz1, hz2⟩ := info_parts PTinfo
    have h1 : ¬ ((n : Int) < 0) := by omega
    have h4 : (n : Int) > 0 := by omega
    have hold : (Builtin.firstCells i0.size 0 (.slice none 0 0)).run Try.prog w.drew = .ok (#[] : Array Value) w.drew := run_firstCells_none w.drew i0.size 0 0 0
    have hG := grownCap_ge w n 0 57
    have hGm := grownCap_le_maxLen w n 0 57 (by unfold maxLen; omega)
    have hrz : ∀ ty, (Builtin.append_ #[27, 3] ty #[.slice none 0 0, .int .i64 (n : Int)]).run Try.prog w =
        .ok (.slice (some ⟨w.heap.size, 0, none⟩) n (grownCap w n 0 57)) (w.drew.alloc (.cells ((#[] : Array Value) ++ Builtin.zeroCells (Value.agg ZC).cells n ++ Builtin.zeroCells (Value.agg ZC).cells (grownCap w n 0 57 - n)) 57)) := fun ty => by
      have h := Lib.run_append_grow_zeros w 27 3 ty 57 i0 (.agg ZC) .i64 .i64 Try.underlying27 Try.underlying3 hi hz0 none 0 0 [] (by simpa using hold) n (by omega) (by rw [hz1]; omega) (by omega) (by omega)
        (by rw [hz2]; omega) (by rw [Nat.zero_add]; exact growslice_fits (by omega) (by rw [hz2]; omega))
      simpa using h
    have hz : (w.drew.alloc (.cells ((#[] : Array Value) ++ Builtin.zeroCells (Value.agg ZC).cells n ++ Builtin.zeroCells (Value.agg ZC).cells (grownCap w n 0 57 - n)) 57)).ownsRow w.heap.size 57 4 (.slice (some ⟨w.heap.size, 0, none⟩) 0 (grownCap w n 0 57)) 0 [] :=
      World.ownsRow_made w.drew _ (grownCap w n 0 57) (Nat.le_refl _) hGm (by rw [Array.size_append, Array.size_append, zero_size, zero_size]; simp; omega)
    have hB := ((Below.refl w.heap.size w).drew).alloc (Nat.le_refl _) (.cells ((#[] : Array Value) ++ Builtin.zeroCells (Value.agg ZC).cells n ++ Builtin.zeroCells (Value.agg ZC).cells (grownCap w n 0 57 - n)) 57)
    have HZ := Lib.hid hz; have HB := Lib.hid hB
    clear hz hB hold
    generalize w.drew.alloc (.cells ((#[] : Array Value) ++ Builtin.zeroCells (Value.agg ZC).cells n ++ Builtin.zeroCells (Value.agg ZC).cells (grownCap w n 0 57 - n)) 57) = w1 at hrz HZ HB
    have hG63 : grownCap w n 0 57 ≤ 9223372036854775807 := by unfold maxLen at hGm; omega
    generalize grownCap w n 0 57 = G at hrz HZ hG hGm hG63
    go_enter Try.func158, Try.ntmps158
    go_wp2_with (at_builtin; refine Lib.wpList_append_run _ rfl _ _ _ _ rfl _ _ rfl rfl _ _ (hrz _) ?_)
    go_ret
    exact ⟨⟨_, rfl, HZ.out, Or.inr ⟨_, _, rfl, by omega⟩⟩, HB.out⟩

theorem ptone (ts : List Pt) : ∀ t ∈ ts.map Pt.r4, t.one := by
  intro t ht
  obtain ⟨u, _, rfl⟩ := List.mem_map.1 ht
  exact ⟨rfl, rfl, rfl, rfl⟩
/-- append(v, u...) of lists of particles. -/
theorem wpList_appP {ops : Array Oper} {rest : List Oper} {o : Oper} {a : Act} {w : World} {Q : Exit → Act → World → Prop} (hgd : o.guard = none) (s x : Operand) (ho : o.op = .call { callee := .builtin .append, args := #[s, x], argTypes := #[27, 27] })
    (B : Nat) (v : Value) (xs : List Pt) (hs : a.eval s = v) (hown : POwn B w v xs) (B' : Nat) (u : Value) (ys : List Pt) (hx : a.eval x = u) (hu : NOwn B' w u ys) (hn : xs.length + ys.length ≤ 1000) (hB : B ≤ w.heap.size)
    (h : ∀ v' w', POwn B w' v' (xs ++ ys) → w.grownBy w' v.ownBlock → wpList Try.prog ops Q rest (a.put o.dst v') w') : wpList Try.prog ops Q (o :: rest) a w := by
  obtain ⟨ti, hi, hz0, hz1, hz2⟩ := info_parts PTinfo
  have hown' : w.ownsRow B 57 4 v xs.length (cells4 (xs.map Pt.r4)) := by have h := hown; unfold POwn R4Own at h; rw [List.length_map] at h; exact h
  rcases hu.nil with ⟨rfl, rfl⟩ | ⟨g, cap, rfl, hpos⟩
  · refine Lib.wpList_append_run w hgd s x 27 27 ho v (.slice none 0 0) hs hx v w (run_append_owned_none w B 27 o.type 57 ti 4 Try.underlying27 hi v xs.length _ hown') (h v w ?_ (grown_refl9 _ _))
    rw [List.append_nil]; exact hown
  · refine wpList_append_own w hgd s x 27 ho B 57 ti (.agg ZC) 4 24 Try.underlying27 hi hz0 hz1 hz2 rfl (by decide) v xs.length (cells4 (xs.map Pt.r4)) hs hown' ⟨g, 0, none⟩ ys.length cap (cells4 (ys.map Pt.r4)) hx (by rw [cells4_len, List.length_map]) ?_ (ones4 (ptone ys)) (by unfold maxLen; omega) (by omega) hB ?_
    · intro j y hy
      have h1 := hu.own
      unfold POwn R4Own at h1
      rw [List.length_map] at h1
      have hj : j < (cells4 (ys.map Pt.r4)).length := (List.getElem?_eq_some_iff.1 hy).1
      rw [cells4_len, List.length_map] at hj
      rw [Addr.add_lit, Nat.zero_add, h1.cellAt j (by omega)]
      exact hy
    · intro v' w' h1 h2 _
      refine h v' w' ?_ h2
      unfold POwn R4Own
      rw [List.map_append, cells4_app, List.length_append, List.length_map, List.length_map]
      exact h1

def catTo (ls rs : List Pt) : Nat → List Pt
  | 0 => []
  | 1 => ls
  | _ => ls ++ rs
theorem n_below {B : Nat} {w w' : World} {v : Value} {ts : List Pt} (h : NOwn B w v ts) (hb : Below w.heap.size w w') : NOwn B w' v ts := ⟨r4_below h.own hb, h.nil⟩

set_option maxHeartbeats 1000000 in
set_option maxRecDepth 100000 in
theorem concat_pt (B s : Nat) (lv rv : Value) (ls rs : List Pt) (w : World) (hl : NOwn B w lv ls) (hr : NOwn B w rv rs) (hn : ls.length + rs.length ≤ 60) (hs : w.heap[s]? = some (.cells #[lv, rv] 27)) :
    Calls Try.prog 98 #[.slice (some ⟨s, 0, none⟩) 2 2] w fun e w' => (∃ v, e = .returned v ∧ POwn w.heap.size w' v (ls ++ rs)) ∧ Below w.heap.size w w' := by
  have HL := Lib.hid hl; have HR := Lib.hid hr; have HS := Lib.hid hs
  clear hl hr hs
  obtain ⟨la, lc, rfl, _⟩ := p_form HL.out.own
  obtain ⟨ra, rc, rfl, _⟩ := p_form HR.out.own
  have s0 : w.cell? ⟨s, 0, none⟩ = some (.slice la ls.length lc) := by rw [Joins.cell_of_block HS.out]; rfl
  have s1 : w.cell? ⟨s, 1, none⟩ = some (.slice ra rs.length rc) := by rw [Joins.cell_of_block HS.out]; rfl
  have hw1 : wrap64 (0 + (ls.length : Int)) = (ls.length : Int) := by rw [Int.zero_add]; exact wrap64_of (by omega) (by omega)
  have hw2 : wrap64 ((ls.length : Int) + (rs.length : Int)) = (ls.length : Int) + (rs.length : Int) := wrap64_of (by omega) (by omega)
  have hn1 : ¬ ((ls.length : Int) < 0) := by omega
  have hn2 : ¬ ((ls.length : Int) + (rs.length : Int) < 0) := by omega
  go_enter Try.func98, Try.ntmps98
  go_wp2_with fail
  go_loopw [3, 11] (fun z i wr => wr = w ∧ (i = .int .i64 0 ∧ z = .int .i64 0 ∨ i = .int .i64 1 ∧ z = .int .i64 (ls.length : Int) ∨ i = .int .i64 2 ∧ z = .int .i64 ((ls.length : Int) + (rs.length : Int)))) (fun _ i _ => 2 - (intOf i).toNat)
  case atStart => exact ⟨rfl, .inl ⟨rfl, rfl⟩⟩
  case round =>
    obtain ⟨rfl, ⟨rfl, rfl⟩ | ⟨rfl, rfl⟩ | ⟨rfl, rfl⟩⟩ := hrel
    · go_wp2_with fail
      go_roundw
      case rel => exact ⟨by first | rfl | trivial, .inr (.inl ⟨by first | rfl | go_num, by first | rfl | rw [hw1]⟩)⟩
      case measure => simp [intOf]
    · go_wp2_with fail
      go_roundw
      case rel => exact ⟨by first | rfl | trivial, .inr (.inr ⟨by first | rfl | go_num, by first | rfl | rw [hw2]⟩)⟩
      case measure => simp [intOf]
    · go_wp2_with fail
      obtain ⟨W0, e0⟩ : ∃ W0, W0 = wr := ⟨wr, rfl⟩
      subst e0
      have hc : ((ls.length : Int) + (rs.length : Int)) = ((ls.length + rs.length : Nat) : Int) := by omega
      rw [hc]
      refine (grow_nil (ls.length + rs.length) (by omega) _).mono ?_
      rintro e w1 ⟨⟨v, rfl, hv, _⟩, hb1⟩
      have HV1 := Lib.hid hv; have HB1 := Lib.hid hb1
      clear hv hb1 hc hw1 hw2 hn1 hn2 s0 s1
      obtain ⟨va, vc, rfl, _⟩ := p_form HV1.out
      go_wp2_with fail
      go_loopw [6, 27] (fun v i wx => ∃ j : Nat, j ≤ 2 ∧ i = .int .i64 (j : Int) ∧ Hid (POwn W0.heap.size wx v (catTo ls rs j)) ∧ Hid (Below W0.heap.size W0 wx)) (fun _ i _ => 2 - (intOf i).toNat)
      case atStart => exact ⟨0, by omega, rfl, HV1, HB1⟩
      case round =>
      clear HV1 HB1
      obtain ⟨j, hj, rfl, HV, HB⟩ := hrel
      have hj3 : j = 0 ∨ j = 1 ∨ j = 2 := by omega
      clear hj
      rcases hj3 with rfl | rfl | rfl
      · obtain ⟨va, vc, rfl, _⟩ := p_form HV.out
        have q0 : wr.cell? ⟨s, 0, none⟩ = some (.slice la ls.length lc) := by rw [Joins.cell_of_block ((HB.out.block s (Array.getElem?_eq_some_iff.1 HS.out).1).trans HS.out)]; rfl
        go_wp2_with (at_builtin; refine wpList_appP rfl _ _ rfl W0.heap.size _ (catTo ls rs 0) rfl HV.out B (.slice la ls.length lc) ls rfl (n_below HL.out HB.out) (by simp only [catTo, List.length_nil]; omega) HB.out.size ?_; intro v' w' hown hgrow)
        have hbk := HV.out.lt
        have HV2 := Lib.hid (show POwn W0.heap.size w' v' (catTo ls rs 1) from by simpa [catTo] using hown)
        have HB2 := Lib.hid (HB.out.grown hgrow HB.out.size (fun i e => (hbk i e).1))
        obtain ⟨xa, xc, rfl, _⟩ := p_form HV2.out
        go_wp2_with fail
        go_roundw
        case rel => exact ⟨1, by omega, rfl, HV2, HB2⟩
        case measure => simp [intOf]
      · obtain ⟨va, vc, rfl, _⟩ := p_form HV.out
        have q1 : wr.cell? ⟨s, 1, none⟩ = some (.slice ra rs.length rc) := by rw [Joins.cell_of_block ((HB.out.block s (Array.getElem?_eq_some_iff.1 HS.out).1).trans HS.out)]; rfl
        go_wp2_with (at_builtin; refine wpList_appP rfl _ _ rfl W0.heap.size _ (catTo ls rs 1) rfl HV.out B (.slice ra rs.length rc) rs rfl (n_below HR.out HB.out) (by simp only [catTo, List.length_nil]; omega) HB.out.size ?_; intro v' w' hown hgrow)
        have hbk := HV.out.lt
        have HV2 := Lib.hid (show POwn W0.heap.size w' v' (catTo ls rs 2) from by exact hown)
        have HB2 := Lib.hid (HB.out.grown hgrow HB.out.size (fun i e => (hbk i e).1))
        obtain ⟨xa, xc, rfl, _⟩ := p_form HV2.out
        go_wp2_with fail
        go_roundw
        case rel => exact ⟨2, by omega, rfl, HV2, HB2⟩
        case measure => simp [intOf]
      · obtain ⟨va, vc, rfl, _⟩ := p_form HV.out
        go_wp2_with fail
        go_ret
        exact ⟨⟨_, rfl, HV.out⟩, HB.out⟩
end Go.Proofs.Ytnknhfhllifnhaa
namespace Go.Proofs.Ytnknhfhllifnhaa
open Go.Fl Go.RowKit
set_option linter.unusedSimpArgs false
set_option linter.unusedVariables false

set_option maxHeartbeats 2000000 in
set_option maxRecDepth 100000 in
theorem iMerge_pt (a b : Int) (hg : gridOk a b = true) (B : Nat) (lv rv : Value) (ls rs : List Pt) (m k : Nat) (w : World) (hl : NOwn B w lv ls) (hr : NOwn B w rv rs) (h1 : oks ls) (h2 : oks rs) (hn : ls.length + rs.length ≤ 48) (im : Num m) (ik : Num k) :
    Calls Try.prog 30 #[CG a b lv m k, CG a b rv m k] w fun e w' => (∃ v, e = .returned (.tuple #[CG a b v m k, .bool true]) ∧ POwn w.heap.size w' v (ls ++ rs)) ∧ Below w.heap.size w w' := by
  have HL := Lib.hid hl; have HR := Lib.hid hr; have H1 := Lib.hid h1; have H2 := Lib.hid h2; have IM := Lib.hid im; have IK := Lib.hid ik; have HG := Lib.hid hg
  clear hl hr h1 h2 im ik hg
  obtain ⟨la, lc, rfl, _⟩ := p_form HL.out.own
  obtain ⟨ra, rc, rfl, _⟩ := p_form HR.out.own
  have hb0 := ((((Below.refl w.heap.size w).alloc (Nat.le_refl _) (.cells (CGc a b (.slice la ls.length lc) m k) 48)).alloc (by simp) (.cells (CGc a b (.slice ra rs.length rc) m k) 48))).alloc (by simp; omega) (.cells (CC 0 0 (.slice none 0 0) 0) 48)
  have hx0 := three_new9 w (.cells (CGc a b (.slice la ls.length lc) m k) 48) (.cells (CGc a b (.slice ra rs.length rc) m k) 48) (.cells (CC 0 0 (.slice none 0 0) 0) 48)
  go_enter Try.func30, Try.ntmps30
  go_wp2_with fail
  generalize ((w.alloc (.cells (CGc a b (.slice la ls.length lc) m k) 48)).alloc (.cells (CGc a b (.slice ra rs.length rc) m k) 48)).alloc (.cells (CC 0 0 (.slice none 0 0) 0) 48) = w1 at hb0 hx0 ⊢
  have HB1 := Lib.hid hb0; have HX1 := Lib.hid hx0
  clear hb0 hx0
  refine (iVC_pq B a b _ (rs.map Pt.pq) m k _ (own_pq (r4_below HR.out.own HB1.out)) (oks_pq H2.out) (by rw [List.length_map]; omega) IM.out IK.out HG.out).mono ?_
  rintro e w2 ⟨rfl, hb2⟩
  have HB2 := Lib.hid (HB1.out.trans (hb2.mono HB1.out.size))
  have HC2 := Lib.hid ((hb2.block w.heap.size (Array.getElem?_eq_some_iff.1 HX1.out.1).1).trans HX1.out.1)
  have HD2 := Lib.hid ((hb2.block (w.heap.size + 1) (Array.getElem?_eq_some_iff.1 HX1.out.2.1).1).trans HX1.out.2.1)
  have HE2 := Lib.hid ((hb2.block (w.heap.size + 2) (Array.getElem?_eq_some_iff.1 HX1.out.2.2).1).trans HX1.out.2.2)
  clear hb2 HB1 HX1
  obtain ⟨a0, a1, _, _, _⟩ := five_cells HC2.out
  obtain ⟨b0, b1, _, _, _⟩ := five_cells HD2.out
  go_upto_region 3 with fail
  have HS := Lib.hid (fun W (hW : Below w2.heap.size w2 W) => And.intro (five_cells ((hW.block w.heap.size (Array.getElem?_eq_some_iff.1 HC2.out).1).trans HC2.out)) (five_cells ((hW.block (w.heap.size + 1) (Array.getElem?_eq_some_iff.1 HD2.out).1).trans HD2.out)).2.2.1)
  have hd0 := (Below.refl w2.heap.size w2).drew
  refine wp_region_noPanic ?_
  refine wp_region_held_drew (S := fun W => (W.cell? ⟨w.heap.size, 0, none⟩ = some (.int .i64 a) ∧ W.cell? ⟨w.heap.size, 1, none⟩ = some (.int .i64 b) ∧ W.cell? ⟨w.heap.size, 2, none⟩ = some (.slice la ls.length lc) ∧ W.cell? ⟨w.heap.size, 3, none⟩ = some (.float .f32 m) ∧ W.cell? ⟨w.heap.size, 4, none⟩ = some (.float .f32 k)) ∧ W.cell? ⟨w.heap.size + 1, 2, none⟩ = some (.slice ra rs.length rc)) (by kernel_rfl) (HS.out _ hd0) (fun hHeld => ?_)
  generalize w2.drew = v0 at hd0 hHeld ⊢
  clear a0 a1 b0 b1
  ((refine wpAnyH_take (i := 0) (v := ?_) rfl (by kernel_rfl) (by kernel_rfl) (by kernel_rfl) (fun _ _ _ h => h) (Or.inl ⟨by rfl, ?_⟩) (by assumption) ?_; rotate_left; (· intro w hSw; (try dsimp only at hSw); go_simp; first | done | with_reducible rfl); (try simp only [List.getElem_toArray, List.getElem_cons_zero, List.getElem_cons_succ, Act.put, List.setIfInBounds_toArray, List.set_cons_zero, List.set_cons_succ])); (refine wpAnyH_take (i := 1) (v := ?_) rfl (by kernel_rfl) (by kernel_rfl) (by kernel_rfl) (fun _ _ _ h => h) (Or.inl ⟨by rfl, ?_⟩) (by assumption) ?_; rotate_left; (· intro w hSw; (try dsimp only at hSw); go_simp; first | done | with_reducible rfl); (try simp only [List.getElem_toArray, List.getElem_cons_zero, List.getElem_cons_succ, Act.put, List.setIfInBounds_toArray, List.set_cons_zero, List.set_cons_succ])); (refine wpAnyH_take (i := 2) (v := ?_) rfl (by kernel_rfl) (by kernel_rfl) (by kernel_rfl) (fun _ _ _ h => h) (Or.inl ⟨by rfl, ?_⟩) (by assumption) ?_; rotate_left; (· intro w hSw; (try dsimp only at hSw); go_simp; first | done | with_reducible rfl); (try simp only [List.getElem_toArray, List.getElem_cons_zero, List.getElem_cons_succ, Act.put, List.setIfInBounds_toArray, List.set_cons_zero, List.set_cons_succ])); (refine wpAnyH_take (i := 3) (v := ?_) rfl (by kernel_rfl) (by kernel_rfl) (by kernel_rfl) (fun _ _ _ h => h) (Or.inl ⟨by rfl, ?_⟩) (by assumption) ?_; rotate_left; (· intro w hSw; (try dsimp only at hSw); go_simp; first | done | with_reducible rfl); (try simp only [List.getElem_toArray, List.getElem_cons_zero, List.getElem_cons_succ, Act.put, List.setIfInBounds_toArray, List.set_cons_zero, List.set_cons_succ])); (refine wpAnyH_take (i := 4) (v := ?_) rfl (by kernel_rfl) (by kernel_rfl) (by kernel_rfl) (fun _ _ _ h => h) (Or.inl ⟨by rfl, ?_⟩) (by assumption) ?_; rotate_left; (· intro w hSw; (try dsimp only at hSw); go_simp; first | done | with_reducible rfl); (try simp only [List.getElem_toArray, List.getElem_cons_zero, List.getElem_cons_succ, Act.put, List.setIfInBounds_toArray, List.set_cons_zero, List.set_cons_succ])))
  (refine wpAnyH_ready (rs := [5]) (by kernel_rfl) (by simp) ?_; refine AllReadyH.cons (i := 5) rfl (fun K hK => ?_) AllReadyH.nil)
  go_simp
  have hd1 := hd0.alloc hd0.size (.cells #[.slice la ls.length lc, .slice ra rs.length rc] 27)
  have HP1 := Lib.hid (heap_alloc_new v0 (.cells #[.slice la ls.length lc, .slice ra rs.length rc] 27))
  (refine hK.out _ _ (HS.out _ hd1) (fun hHeld => ?_); clear hK K; (try simp only [List.getElem_toArray, List.getElem_cons_zero, List.getElem_cons_succ, Act.put, List.setIfInBounds_toArray, List.set_cons_zero, List.set_cons_succ]))
  generalize v0.alloc (.cells #[.slice la ls.length lc, .slice ra rs.length rc] 27) = v1 at hd1 HP1 hHeld ⊢
  generalize v0.heap.size = sb at HP1 ⊢
  (refine wpAnyH_ready (rs := [6]) (by kernel_rfl) (by simp) ?_; refine AllReadyH.cons (i := 6) rfl (fun K hK => ?_) AllReadyH.nil)
  go_simp
  have HL1 := Lib.hid (n_below HL.out (HB2.out.trans (hd1.mono HB2.out.size))); have HR1 := Lib.hid (n_below HR.out (HB2.out.trans (hd1.mono HB2.out.size)))
  refine (concat_pt B sb _ _ ls rs _ HL1.out HR1.out (by omega) HP1.out).mono ?_
  rintro e v2 ⟨⟨V, rfl, O2⟩, hb3⟩
  have hd2 := hd1.trans (hb3.mono hd1.size)
  have HO2 := Lib.hid (show POwn w2.heap.size v2 V (ls ++ rs) from Go.Joins.ownsRow_le O2 hd1.size)
  have HOK := Lib.hid (show oks (ls ++ rs) from fun t ht => (List.mem_append.1 ht).elim (H1.out t) (H2.out t))
  clear hb3 O2 HL1 HR1 HP1
  obtain ⟨va, vc, rfl, _⟩ := p_form HO2.out
  rw [List.length_append] at HO2
  rw [List.length_append]
  go_wp2_with fail
  (refine hK.out _ _ (HS.out _ hd2) (fun hHeld => ?_); clear hK K; (try simp only [List.getElem_toArray, List.getElem_cons_zero, List.getElem_cons_succ, Act.put, List.setIfInBounds_toArray, List.set_cons_zero, List.set_cons_succ]))
  (refine wpAnyH_ready (rs := [7]) (by kernel_rfl) (by simp) ?_; refine AllReadyH.cons (i := 7) rfl (fun K hK => ?_) AllReadyH.nil)
  go_simp
  refine (iWith_pq w2.heap.size a b (.slice la ls.length lc) (.slice va (ls.length + rs.length) vc) ((ls ++ rs).map Pt.pq) m k _ (own_pq HO2.out) (oks_pq HOK.out) (by rw [List.length_map, List.length_append]; omega) IM.out IK.out HG.out rfl).mono ?_
  rintro e v3 ⟨rfl, hb4⟩
  have hd3 := hd2.trans (hb4.mono hd2.size)
  have HO3 := Lib.hid (r4_below HO2.out hb4)
  clear hb4 HO2
  go_wp2_with fail
  (refine hK.out _ _ (HS.out _ hd3) (fun hHeld => ?_); clear hK K; (try simp only [List.getElem_toArray, List.getElem_cons_zero, List.getElem_cons_succ, Act.put, List.setIfInBounds_toArray, List.set_cons_zero, List.set_cons_succ]))
  ((refine wpAnyH_take (i := 8) (v := ?_) rfl (by kernel_rfl) (by kernel_rfl) (by kernel_rfl) (fun _ _ _ h => h) (Or.inl ⟨by rfl, ?_⟩) (by assumption) ?_; rotate_left; (· intro w hSw; (try dsimp only at hSw); go_simp; first | done | with_reducible rfl); (try simp only [List.getElem_toArray, List.getElem_cons_zero, List.getElem_cons_succ, Act.put, List.setIfInBounds_toArray, List.set_cons_zero, List.set_cons_succ])); (refine wpAnyH_take (i := 9) (v := ?_) rfl (by kernel_rfl) (by kernel_rfl) (by kernel_rfl) (fun _ _ _ h => h) (Or.inl ⟨by rfl, ?_⟩) (by assumption) ?_; rotate_left; (· intro w hSw; (try dsimp only at hSw); go_simp; first | done | with_reducible rfl); (try simp only [List.getElem_toArray, List.getElem_cons_zero, List.getElem_cons_succ, Act.put, List.setIfInBounds_toArray, List.set_cons_zero, List.set_cons_succ])))
  have HY := Lib.hid ((hd3.block (w.heap.size + 2) (Array.getElem?_eq_some_iff.1 HE2.out).1).trans HE2.out)
  have HB3 := Lib.hid (HB2.out.trans (hd3.mono HB2.out.size))
  have HS2 := Lib.hid (HS.out _ hd3)
  have HRW := Lib.hid (show (v3.setRow (w.heap.size + 2) (CGc a b (.slice va (ls.length + rs.length) vc) m k)).heap[w.heap.size + 2]? = some (.cells (CGc a b (.slice va (ls.length + rs.length) vc) m k) 48) from setRow_heap _ _ _ _ _ _ HY.out)
  obtain ⟨q0, q1, q2, q3, q4⟩ := five_cells HRW.out
  have HFR := Lib.hid (fun x o u (hx : x = w.heap.size ∨ x = w.heap.size + 1) (h : v3.cell? ⟨x, o, none⟩ = some u) => row_far (W := v3) (g := x) (k := w.heap.size + 2) (ds := CGc a b (.slice va (ls.length + rs.length) vc) m k) (by omega) h)
  (refine wpAnyH_ready (rs := [10]) (by kernel_rfl) (by simp) ?_; refine AllReadyH.cons (i := 10) rfl (fun K hK => ?_) AllReadyH.nil)
  refine hstep_store rfl 48 _ _ rfl (w.heap.size + 2) (CGc a b (.slice va (ls.length + rs.length) vc) m k) rfl rfl 48 _ HY.out info_cloud rfl (one5 _ _ _ _ _ _ _) ?_
  (refine hK.out _ _ (⟨⟨HFR.out _ _ _ (.inl rfl) HS2.out.1.1, HFR.out _ _ _ (.inl rfl) HS2.out.1.2.1, HFR.out _ _ _ (.inl rfl) HS2.out.1.2.2.1, HFR.out _ _ _ (.inl rfl) HS2.out.1.2.2.2.1, HFR.out _ _ _ (.inl rfl) HS2.out.1.2.2.2.2⟩, HFR.out _ _ _ (.inr rfl) HS2.out.2⟩) (fun hHeld => ?_); clear hK K; (try simp only [List.getElem_toArray, List.getElem_cons_zero, List.getElem_cons_succ, Act.put, List.setIfInBounds_toArray, List.set_cons_zero, List.set_cons_succ]))
  ((refine wpAnyH_take (i := 11) (v := ?_) rfl (by kernel_rfl) (by kernel_rfl) (by kernel_rfl) (fun _ _ _ h => h) (Or.inl ⟨by rfl, ?_⟩) (by assumption) ?_; rotate_left; (· intro w hSw; (try dsimp only at hSw); go_simp; first | done | with_reducible rfl); (try simp only [List.getElem_toArray, List.getElem_cons_zero, List.getElem_cons_succ, Act.put, List.setIfInBounds_toArray, List.set_cons_zero, List.set_cons_succ])))
  (refine wpAnyH_done (by kernel_rfl) ?_ _; refine NoPanic.normal ?_)
  clear hHeld
  go_wp2_with fail
  refine bodyPost_ret (v := .tuple #[CG a b (.slice va (ls.length + rs.length) vc) m k, .bool true]) (by simp [results, Try.results30, go_sem, q0, q1, q2, q3, q4]) rfl ?_
  exact ⟨⟨_, rfl, Go.Joins.ownsRow_le (own_row HO3.out (Array.getElem?_eq_some_iff.1 HE2.out).1 _) HB2.out.size⟩, below_setRow HB3.out (by omega) _⟩
end Go.Proofs.Ytnknhfhllifnhaa
