/-
  Stable orders of indices by cells: the insertion sort's result, and what follows of it (mathematics).
  The cells of the particles of a cloud, in order (the program).
  The stable sort of indices by cells (the program, through the library's insertion sort).
  The order of the particles of a cloud (the program).
  How many particles cells have, and where cells begin (the program); and what is told of a cloud by a method.
  What is told of the cells of a cloud (the program): cells, orders, counts, starts.
-/
import Derived.Sort.LotA
import Derived.Sort.Lot0
import Derived.Test.YtnknhfhllifnhaaCnt
import Derived.Test.YtnknhfhllifnhaaCg
import Derived.Shelf.SlSortCmp.Insertion
import Derived.Deep.QuietTactic
import Derived.BigQuiet
import Derived.Shelf.Abstract
namespace Go.Ordr
open Go.Sort
set_option linter.unusedVariables false

/-- The cell of index i. -/
def keyA (cs : List Int) (i : Nat) : Int := cs.getD i 0
/-- Less by cells. -/
def ltK {N : Nat} (cs : List Int) (x y : Fin N) : Bool := decide (keyA cs x.val < keyA cs y.val)
/-- Less by cells, then by indices. -/
def ltX {N : Nat} (cs : List Int) (x y : Fin N) : Bool := decide (keyA cs x.val < keyA cs y.val ∨ (keyA cs x.val = keyA cs y.val ∧ x.val < y.val))

theorem swoX {N : Nat} (cs : List Int) : SWO (ltX (N := N) cs) where
  irrefl x := decide_eq_false (by omega)
  trans x y z h1 h2 := by
    have h1 := of_decide_eq_true h1; have h2 := of_decide_eq_true h2
    exact decide_eq_true (by omega)
  ntrans x y z h1 h2 := by
    have h1 := of_decide_eq_false h1; have h2 := of_decide_eq_false h2
    exact decide_eq_false (by omega)

section
variable {α : Type} [Inhabited α]
theorem inner_congr (lt lt' : α → α → Bool) : ∀ (j : Nat) (d : Array α), j < d.size → (∀ k, k < j → lt d[j]! d[k]! = lt' d[j]! d[k]!) → insInner lt 0 j d = insInner lt' 0 j d
  | 0, d, _, _ => by rw [insInner, insInner]
  | j + 1, d, hj, h => by
    rw [insInner, insInner, h j (by omega)]
    have ih := inner_congr lt lt' j (swp d (j + 1) j) (by rw [size_swp]; omega) (fun k hk => by
      rw [swp_right d (j + 1) j (by omega), swp_other d (j + 1) j k (by omega) (by omega)]
      exact h k (by omega))
    rw [ih]
end

theorem spec_inner {N : Nat} [Inhabited (Fin N)] (cs : List Int) (i : Nat) (d : Array (Fin N)) (hi : i < d.size) (hs : SortedIn (ltX cs) 0 i d) :
    PermIn 0 (i + 1) d (insInner (ltX cs) 0 i d) ∧ SortedIn (ltX cs) 0 (i + 1) (insInner (ltX cs) 0 i d) :=
  insInner_spec (swoX cs) swp_permIn permIn_refl permIn_trans 0 (i + 1) i (by omega) i d (by omega) (Nat.le_refl _) (by omega) ⟨fun p q hap hpq hqi _ hq => hs p q hap hpq (by omega), fun q h1 h2 => by omega⟩

theorem outer_congr {N : Nat} [Inhabited (Fin N)] (cs : List Int) : ∀ (n i : Nat) (d : Array (Fin N)), N - i = n → i ≤ N → d.size = N → (∀ k, k < i → (d[k]!).val < i) → (∀ k, i ≤ k → k < N → (d[k]!).val = k) → SortedIn (ltX cs) 0 i d →
    insOuter (ltK cs) 0 N i d = insOuter (ltX cs) 0 N i d
  | 0, i, d, hn, hi, hd, h1, h2, h3 => by rw [insOuter, if_neg (by omega), insOuter, if_neg (by omega)]
  | n + 1, i, d, hn, hi, hd, h1, h2, h3 => by
    have hlt : i < N := by omega
    rw [show insOuter (ltK cs) 0 N i d = insOuter (ltK cs) 0 N (i + 1) (insInner (ltK cs) 0 i d) by rw [insOuter, if_pos hlt], show insOuter (ltX cs) 0 N i d = insOuter (ltX cs) 0 N (i + 1) (insInner (ltX cs) 0 i d) by rw [insOuter, if_pos hlt]]
    have hc : insInner (ltK cs) 0 i d = insInner (ltX cs) 0 i d := inner_congr _ _ i d (by omega) (fun k hk => by
      have e1 := h1 k hk; have e2 := h2 i (Nat.le_refl _) hlt
      unfold ltK ltX
      rw [decide_eq_decide]
      omega)
    obtain ⟨p1, p2⟩ := spec_inner cs i d (by omega) h3
    rw [hc]
    refine outer_congr cs n (i + 1) _ (by omega) hlt (p1.1.trans hd) ?_ ?_ p2
    · intro k hk
      exact permIn_all d _ 0 (i + 1) (fun x => x.val < i + 1) (by omega) p1 (fun q _ hq => by
        by_cases e : q = i
        · subst e; rw [h2 q (Nat.le_refl _) hlt]; omega
        · have := h1 q (by omega); omega) k (Nat.zero_le _) hk
    · intro k hk hkN
      rw [p1.2.1 k (.inr hk)]
      exact h2 k (by omega) hkN

/-- The indices in order. -/
def idn (N : Nat) : Array (Fin N) := (List.finRange N).toArray
theorem idn_size (N : Nat) : (idn N).size = N := by simp [idn]
theorem idn_at {N : Nat} [Inhabited (Fin N)] (k : Nat) (h : k < N) : (idn N)[k]! = ⟨k, h⟩ := by
  rw [getElem!_pos _ k (by rw [idn_size]; exact h)]
  simp [idn]

/-- What an order of the cells cs is. -/
structure Ordd (cs : List Int) (os : List Nat) : Prop where
  perm : os.Perm (List.range cs.length)
  asc : os.Pairwise (fun x y => keyA cs x < keyA cs y ∨ (keyA cs x = keyA cs y ∧ x < y))

theorem Ordd.len {cs : List Int} {os : List Nat} (h : Ordd cs os) : os.length = cs.length := by have := h.perm.length_eq; simpa using this
theorem Ordd.lt {cs : List Int} {os : List Nat} (h : Ordd cs os) : ∀ x ∈ os, x < cs.length := fun x hx => by have := h.perm.subset hx; simpa using this
theorem Ordd.nil : Ordd [] [] := ⟨List.Perm.refl _, List.Pairwise.nil⟩
theorem Ordd.at_lt {cs : List Int} {os : List Nat} (h : Ordd cs os) {k : Nat} (hk : k < cs.length) : os.getD k 0 < cs.length := by
  have hk' : k < os.length := by rw [h.len]; exact hk
  have := h.lt (os[k]) (List.getElem_mem hk')
  simpa [List.getD, hk'] using this

/-- The list that an array of indices is. -/
def natsOf {N : Nat} (d : Array (Fin N)) : List Nat := d.toList.map Fin.val

theorem sort_ordd (cs : List Int) {N : Nat} [Inhabited (Fin N)] (hN : cs.length = N) : Ordd cs (natsOf (insertionSort (ltK cs) (idn N) 0 N)) := by
  by_cases h0 : N = 0
  · subst h0
    have hd : (insertionSort (ltK cs) (idn 0) 0 0).toList = [] := by
      unfold insertionSort
      rw [insOuter, if_neg (by omega)]
      rfl
    obtain rfl : cs = [] := List.length_eq_zero_iff.1 hN
    refine ⟨?_, ?_⟩ <;> unfold natsOf <;> rw [hd]
    · exact List.Perm.refl _
    · exact List.Pairwise.nil
  have e : insertionSort (ltK cs) (idn N) 0 N = insertionSort (ltX cs) (idn N) 0 N := by
    unfold insertionSort
    refine outer_congr cs (N - 1) 1 _ (by omega) (by omega) (idn_size N) ?_ ?_ ?_
    · intro k hk
      obtain rfl : k = 0 := by omega
      rw [idn_at 0 (by omega)]
      exact Nat.zero_lt_one
    · intro k _ hk
      rw [idn_at k hk]
    · intro i j _ hij hj; omega
  rw [e]
  obtain ⟨p1, p2⟩ := insertionSort_of swp_permIn permIn_refl permIn_trans (swoX cs) (idn N) 0 N (Nat.zero_le _) (by rw [idn_size]; exact Nat.le_refl _)
  generalize insertionSort (ltX cs) (idn N) 0 N = r at p1 p2
  have hr : r.size = N := p1.1.trans (idn_size N)
  have hp : r.toList.Perm (List.finRange N) := by
    have h := p1.2.2
    have e1 : r.extract 0 N = r := Array.extract_eq_self_of_le (by omega)
    have e2 : (idn N).extract 0 N = idn N := Array.extract_eq_self_of_le (by rw [idn_size]; exact Nat.le_refl _)
    rw [e1, e2] at h
    exact h
  refine ⟨?_, ?_⟩
  · unfold natsOf
    have := hp.map Fin.val
    rw [hN]
    refine this.trans ?_
    rw [show (List.finRange N).map Fin.val = List.range N by apply List.ext_getElem <;> simp]
  · unfold natsOf
    rw [List.pairwise_map]
    rw [List.pairwise_iff_getElem]
    intro i j hi hj hij
    have hi' : i < r.size := by simpa using hi
    have hj' : j < r.size := by simpa using hj
    have h := p2 i j (Nat.zero_le _) hij (by omega)
    rw [getElem!_pos r i hi', getElem!_pos r j hj'] at h
    have h := of_decide_eq_false h
    have hne : (r[i]'hi').val ≠ (r[j]'hj').val := by
      intro e
      have nd : r.toList.Nodup := hp.nodup_iff.2 (List.nodup_finRange N)
      have := (List.pairwise_iff_getElem.1 nd) i j hi hj hij
      exact this (by simpa using Fin.ext e)
    simp only [Array.getElem_toList]
    omega

/-! ### the blocks of an order -/
/-- The indices of the particles of cell k. -/
def inCell (cs : List Int) (k : Nat) : List Nat := (List.range cs.length).filter (fun i => decide (keyA cs i = (k : Int)))
/-- The indices of those of the cells before k. -/
def upTo (cs : List Int) (k : Nat) : List Nat := (List.range k).flatMap (inCell cs)

theorem upTo_succ (cs : List Int) (k : Nat) : upTo cs (k + 1) = upTo cs k ++ inCell cs k := by
  unfold upTo
  rw [List.range_succ, List.flatMap_append]
  simp

theorem mem_inCell {cs : List Int} {k i : Nat} : i ∈ inCell cs k ↔ i < cs.length ∧ keyA cs i = (k : Int) := by
  unfold inCell
  simp [List.mem_filter]

theorem mem_upTo {cs : List Int} {k i : Nat} (h0 : 0 ≤ keyA cs i) : i ∈ upTo cs k ↔ i < cs.length ∧ keyA cs i < (k : Int) := by
  unfold upTo
  rw [List.mem_flatMap]
  constructor
  · rintro ⟨q, hq, hi⟩
    have := mem_inCell.1 hi
    have hq := List.mem_range.1 hq
    exact ⟨this.1, by omega⟩
  · rintro ⟨h1, h2⟩
    refine ⟨(keyA cs i).toNat, List.mem_range.2 (by omega), mem_inCell.2 ⟨h1, by omega⟩⟩

theorem asc_inCell (cs : List Int) (k : Nat) : (inCell cs k).Pairwise (· < ·) := by
  unfold inCell
  exact List.Pairwise.filter _ List.pairwise_lt_range

theorem asc_upTo (cs : List Int) (k : Nat) (h0 : ∀ i, i < cs.length → 0 ≤ keyA cs i) : (upTo cs k).Pairwise (fun x y => keyA cs x < keyA cs y ∨ (keyA cs x = keyA cs y ∧ x < y)) := by
  induction k with
  | zero => exact List.Pairwise.nil
  | succ k ih =>
    rw [upTo_succ, List.pairwise_append]
    refine ⟨ih, ?_, ?_⟩
    · refine List.Pairwise.imp_of_mem ?_ (asc_inCell cs k)
      intro x y hx hy hxy
      have a := (mem_inCell.1 hx).2; have b := (mem_inCell.1 hy).2
      exact .inr ⟨by omega, hxy⟩
    · intro x hx y hy
      have hy := mem_inCell.1 hy
      have hx' : x < cs.length := by
        unfold upTo at hx
        obtain ⟨q, _, hq⟩ := List.mem_flatMap.1 hx
        exact (mem_inCell.1 hq).1
      have := (mem_upTo (h0 x hx')).1 hx
      exact .inl (by omega)

theorem nodup_upTo (cs : List Int) (k : Nat) (h0 : ∀ i, i < cs.length → 0 ≤ keyA cs i) : (upTo cs k).Nodup :=
  List.Pairwise.imp (fun {a b} h e => by subst e; omega) (asc_upTo cs k h0)

theorem Ordd.blocks {cs : List Int} {os : List Nat} (h : Ordd cs os) (K : Nat) (h0 : ∀ i, i < cs.length → 0 ≤ keyA cs i ∧ keyA cs i < (K : Int)) : os = upTo cs K := by
  have hp : os.Perm (upTo cs K) := by
    refine h.perm.trans ?_
    rw [List.perm_ext_iff_of_nodup List.nodup_range (nodup_upTo cs K (fun i hi => (h0 i hi).1))]
    intro a
    rw [List.mem_range]
    constructor
    · intro ha; exact (mem_upTo (h0 a ha).1).2 ⟨ha, (h0 a ha).2⟩
    · intro ha
      unfold upTo at ha
      obtain ⟨q, _, hq⟩ := List.mem_flatMap.1 ha
      exact (mem_inCell.1 hq).1
  exact List.Perm.eq_of_pairwise (fun a b _ _ h1 h2 => by omega) h.asc (asc_upTo cs K (fun i hi => (h0 i hi).1)) hp

theorem upTo_at {cs : List Int} {K k i : Nat} (hk : k < K) (hi : i < (inCell cs k).length) : (upTo cs K).getD ((upTo cs k).length + i) 0 = (inCell cs k).getD i 0 := by
  obtain ⟨m, rfl⟩ : ∃ m, K = k + 1 + m := ⟨K - (k + 1), by omega⟩
  have e : ∃ l, upTo cs (k + 1 + m) = upTo cs (k + 1) ++ l := by
    clear hk hi
    induction m with
    | zero => exact ⟨[], by simp⟩
    | succ m ih =>
      obtain ⟨l, hl⟩ := ih
      refine ⟨l ++ inCell cs (k + 1 + m), ?_⟩
      rw [show k + 1 + (m + 1) = k + 1 + m + 1 by omega, upTo_succ, hl, List.append_assoc]
  obtain ⟨l, hl⟩ := e
  rw [hl, upTo_succ, List.append_assoc, List.getD_eq_getElem?_getD, List.getElem?_append_right (by omega), List.getElem?_append_left (by omega), List.getD_eq_getElem?_getD]
  congr 2
  omega

/-- How many of the first i have cell k. -/
theorem inCell_len (cs : List Int) (k : Nat) : ((inCell cs k).length : Int) = (cs.map (fun c => if c = (k : Int) then (1 : Int) else 0)).sum := by
  suffices h : ∀ n, n ≤ cs.length → (((List.range n).filter (fun i => decide (keyA cs i = (k : Int)))).length : Int) = ((cs.take n).map (fun c => if c = (k : Int) then (1 : Int) else 0)).sum by
    have := h cs.length (Nat.le_refl _)
    rw [List.take_length] at this
    exact this
  intro n
  induction n with
  | zero => intro _; simp
  | succ n ih =>
    intro hn
    have ih := ih (by omega)
    rw [List.range_succ, List.filter_append, List.length_append, List.take_succ_eq_append_getElem (by omega), List.map_append, List.sum_append]
    rw [Int.natCast_add, ih]
    congr 1
    have e : keyA cs n = cs[n] := by unfold keyA; simp [List.getD, show n < cs.length by omega]
    by_cases h : cs[n] = (k : Int)
    · simp [e, h]
    · simp [e, h]
end Go.Ordr
namespace Go.Proofs.Ytnknhfhllifnhaa
open Go.Fl Go.RowKit Go.Ordr
set_option linter.unusedSimpArgs false
set_option linter.unusedVariables false

/-- The cell of a particle. -/
def keyP (a b : Int) (t : Pt) : Int := cornIx a b (t.n % (8 * a) / 8) (t.m % (8 * b) / 8)
/-- The cells of a list. -/
def keysP (a b : Int) (ts : List Pt) : List Int := ts.map (keyP a b)
theorem keysP_len (a b : Int) (ts : List Pt) : (keysP a b ts).length = ts.length := by simp [keysP]
theorem keysP_at {a b : Int} {ts : List Pt} {k : Nat} (h : k < ts.length) : (keysP a b ts).getD k 0 = keyP a b ts[k] := by simp [keysP, List.getD, h]
theorem keyP_in {a b : Int} (ha : 4 ≤ a) (hb : 4 ≤ b) (t : Pt) : 0 ≤ keyP a b t ∧ keyP a b t < a * b := cornIx_in ha hb

theorem list_of_at {xs ys : List Int} (h : xs.length = ys.length) (ht : ∀ j, j < ys.length → xs.getD j 0 = ys.getD j 0) : xs = ys := by
  apply List.ext_getElem h
  intro i h1 h2
  have := ht i h2
  simpa [List.getD, h1, h2] using this
theorem set_at {xs : List Int} {k : Nat} {r : Int} {F : Nat → Int} (hk : k < xs.length) (hr : r = F k) (h : ∀ j, j < k → xs.getD j 0 = F j) : ∀ j, j < k + 1 → (xs.set k r).getD j 0 = F j := by
  intro j hj
  rw [List.getD_eq_getElem?_getD, List.getElem?_set]
  by_cases e : k = j
  · subst e
    rw [if_pos rfl, if_pos hk]
    exact hr
  · rw [if_neg e, ← List.getD_eq_getElem?_getD]
    exact h j (by omega)

set_option maxHeartbeats 1000000 in
set_option maxRecDepth 100000 in
theorem iCellsM_pt (a b : Int) (ha : 4 ≤ a) (ha' : a ≤ 7) (hb : 4 ≤ b) (hb' : b ≤ 7) (B : Nat) (v : Value) (ts : List Pt) (m k : Nat) (w : World) (hv : POwn B w v ts) (h : oks ts) (hn : ts.length ≤ 48) :
    Calls Try.prog 108 #[CG a b v m k] w fun e w' => (∃ g n, e = .returned (.slice (some ⟨g, 0, none⟩) n n) ∧ IR w.heap.size w' g n (keysP a b ts)) ∧ Below w.heap.size w w' := by
  obtain ⟨ti, hi, hz0, hz1, hz2⟩ := info_parts I64inf
  obtain ⟨av, cap, rfl, hf⟩ := p_form hv
  have HV := Lib.hid hv; have HO := Lib.hid h
  obtain ⟨n, hnn⟩ : ∃ n, n = ts.length := ⟨_, rfl⟩
  have HNN := Lib.hid hnn
  have hN : n ≤ 48 := by omega
  have hb4 : ti.bytes * n ≤ 281474976710656 := by rw [hz2]; omega
  have hml : n ≤ maxLen := by unfold maxLen; omega
  have HI := Lib.hid hi; have HZ0 := Lib.hid hz0; have HZ1 := Lib.hid hz1
  have HX0 := Lib.hid (heap_alloc_new w (.cells (CGc a b (.slice av ts.length cap) m k) 48))
  have HB0 := Lib.hid ((Below.refl w.heap.size w).alloc (Nat.le_refl _) (.cells (CGc a b (.slice av ts.length cap) m k) 48))
  have HZG := Lib.hid (show w.heap.size < (w.alloc (.cells (CGc a b (.slice av ts.length cap) m k) 48)).heap.size by simp)
  have HM0 := Lib.hid (fun v5 (G : (w.alloc (.cells (CGc a b (.slice av ts.length cap) m k) 48)).grownBy v5 none) => five_cells ((G.block w.heap.size HZG.out (fun e => by cases e)).trans HX0.out))
  clear hv h hi hz0 hz1 hz2
  rw [← hnn] at HV HX0 HB0 HZG HM0 hn ⊢
  clear hnn
  go_enter Try.func108, Try.ntmps108
  go_wp2_with (at_make; refine wpList_make_full _ rfl _ _ 41 rfl w.heap.size 2 ti (.int .i64 0) 1 Try.underlying41 HI.out HZ0.out HZ1.out _ _ _ _ n rfl rfl rfl rfl hb4 hml HB0.out.size ?_; intro v5 hown hgrow; obtain ⟨g0, g1, g2, g3, g4⟩ := HM0.out v5 hgrow)
  clear g0 g1 g2 g3 g4 HM0
  have hs1 : (w.alloc (.cells (CGc a b (.slice av n cap) m k) 48)).heap.size = w.heap.size + 1 := by simp
  generalize w.alloc (.cells (CGc a b (.slice av n cap) m k) 48) = v1 at HX0 HB0 HZG hown hgrow hs1 ⊢
  rw [Nat.mul_one, show (madeCells (Value.int .i64 0).cells n).toList = (List.replicate n (0 : Int)).map (Value.int .i64) by rw [List.map_replicate]; exact toList_madeCells_one _ _] at hown
  have HR0 := Lib.hid (show IR w.heap.size v5 v1.heap.size n (List.replicate n 0) from ⟨by simp, hown⟩)
  have HB5 := Lib.hid (HB0.out.grown hgrow HB0.out.size (fun k h => by cases h))
  have HX5 := Lib.hid ((hgrow.block w.heap.size HZG.out (fun e => by cases e)).trans HX0.out)
  have HGF := Lib.hid (show w.heap.size < v1.heap.size from HZG.out)
  rw [hs1] at HR0 HGF
  clear hown hgrow hb4 hml HI HZ0 HZ1 HX0 hs1
  generalize w.heap.size + 1 = gf at HR0 HGF ⊢
  have HVF := Lib.hid (fun w' (G : v5.grownBy w' (some gf)) => (show POwn B w' (.slice av n cap) ts from by
    have h5 := r4_below HV.out HB5.out
    refine World.ownsRow.kept h5 G ?_
    rcases hf with rfl | ⟨g, rfl, _, hg⟩
    · rcases h5.2 with ⟨h6, _⟩ | ⟨g, _, _, h6, h7, _⟩
      · exact .inl (by rw [h6]; rfl)
      · have hl := HV.out.lt
        rw [h6] at hl ⊢
        exact .inr (fun e => by have := (hl g rfl).2; have h8 : g = gf := Option.some.inj e; have := HGF.out; omega)
    · exact .inr (fun e => by have h8 : g = gf := Option.some.inj e; have := HGF.out; omega)))
  have HPF := Lib.hid (fun w' (G : v5.grownBy w' (some gf)) => five_cells (show w'.heap[w.heap.size]? = some (.cells (CGc a b (.slice av n cap) m k) 48) from by
    have hx := HGF.out
    rw [G.block w.heap.size (Array.getElem?_eq_some_iff.1 HX5.out).1 (fun e => by have := Option.some.inj e; omega)]
    exact HX5.out))
  go_loopw [13] (fun i wr => ∃ k : Nat, k ≤ n ∧ i = .int .i64 k ∧ Hid (v5.grownBy wr (some gf)) ∧ ∃ xs, Hid (IR w.heap.size wr gf n xs) ∧ Hid (∀ j, j < k → xs.getD j 0 = (keysP a b ts).getD j 0)) (fun i _ => n - (intOf i).toNat)
  case atStart => exact ⟨0, Nat.zero_le _, rfl, Lib.hid (grown_refl _ _), _, HR0, Lib.hid (fun j hj => absurd hj (Nat.not_lt_zero _))⟩
  case round =>
    clear HR0
    obtain ⟨q, hq, rfl, HG, xs, HR, HD⟩ := hrel
    by_cases hlt : q < n
    · rcases hf with hf | ⟨g, rfl, _, _⟩
      · have := HNN.out; subst hf; simp at this; omega
      have hlt' : q < ts.length := by have := HNN.out; omega
      obtain ⟨c0, c1, c2, c3⟩ := p_cells (HVF.out _ HG.out) hlt'
      have HT := Lib.hid (oks_at HO.out hlt')
      have HKY := Lib.hid (keysP_at (a := a) (b := b) hlt')
      generalize ts[q] = t at c0 c1 c2 c3 HT HKY
      clear hlt'
      have hn' := HT.out.n0; have hn'' := HT.out.n1; have hm' := HT.out.m0; have hm'' := HT.out.m1
      have HR1 := Lib.hid (HR.out.kept ((Below.refl wr.heap.size wr).alloc (Nat.le_refl _) (.cells #[.complex .f32 (E8 t.n) (E8 t.m), .complex .f32 t.x t.y, .float .f32 (E8 t.c), .float .f32 (E8 t.s)] 57)))
      have HG1 := Lib.hid (grown_trans HG.out (grown_below (row := some gf) ((Below.refl wr.heap.size wr).alloc (Nat.le_refl _) (.cells #[.complex .f32 (E8 t.n) (E8 t.m), .complex .f32 t.x t.y, .float .f32 (E8 t.c), .float .f32 (E8 t.s)] 57))))
      obtain ⟨g0, g1, g2, g3, g4⟩ := HPF.out _ HG1.out
      go_wp2_with fail
      generalize wr.alloc (.cells #[.complex .f32 (E8 t.n) (E8 t.m), .complex .f32 t.x t.y, .float .f32 (E8 t.c), .float .f32 (E8 t.s)] 57) = w1 at HR1 HG1 ⊢
      clear c0 c1 c2 c3 g0 g1 g2 g3 g4 HR HG
      refine (iCellIn_e8 a b ha ha' hb hb' t.n t.m hn' hn'' hm' hm'' _).mono ?_
      rintro e w2 ⟨rfl, h2⟩
      have HR2 := Lib.hid (HR1.out.kept h2); have HG2 := Lib.hid (grown_trans HG1.out (grown_below (row := some gf) h2))
      have hz : (q : Int) < (n : Int) := by omega
      have hz0 : (0 : Int) ≤ (q : Int) := Int.natCast_nonneg _
      have xk := HR2.out.at hlt
      have hf := HR2.out.frozen q
      have hkey : cornIx a b (t.n % (8 * a) / 8) (t.m % (8 * b) / 8) = (keysP a b ts).getD q 0 := HKY.out.symm
      generalize cornIx a b (t.n % (8 * a) / 8) (t.m % (8 * b) / 8) = z at hkey ⊢
      have PT := HR2.out.put hlt z
      have HR3 := Lib.hid PT.1; have HG3 := Lib.hid (grown_trans HG2.out PT.2)
      have HD3 := Lib.hid (set_at (r := z) (F := fun j => (keysP a b ts).getD j 0) (show q < xs.length by rw [HR2.out.1]; exact hlt) hkey HD.out)
      clear PT h2 HR1 HG1 hkey hn' hn'' hm' hm''
      go_wp2_with fail
      go_roundw
      case rel => exact ⟨q + 1, by omega, by go_num, HG3, _, HR3, HD3⟩
      case measure => simp [intOf]; omega
    · obtain rfl : q = n := by omega
      clear hlt
      go_wp2
      go_ret
      have hx : xs = keysP a b ts := list_of_at (by rw [HR.out.1, keysP_len]; exact HNN.out) (fun j hj => HD.out j (by rw [keysP_len] at hj; have := HNN.out; omega))
      rw [← hx]
      exact ⟨⟨_, _, rfl, HR.out⟩, below_row HB5.out HB5.out.size (Nat.le_of_lt HGF.out) HG.out⟩
end Go.Proofs.Ytnknhfhllifnhaa
namespace Go.Proofs.Ytnknhfhllifnhaa
open Go.Fl Go.RowKit Go.Ordr
set_option linter.unusedSimpArgs false
set_option linter.unusedVariables false

/-- What cmp.Compare says of two integers. -/
def cmpI (x y : Int) : Int := if x < y then -1 else if y < x then 1 else 0
theorem cmpI_lt (x y : Int) : (cmpI x y < 0) ↔ x < y := by unfold cmpI; split <;> (try split) <;> omega
theorem cmpI_1 {x y : Int} (h : x < y) : cmpI x y = -1 := by unfold cmpI; rw [if_pos h]
theorem cmpI_2 {x y : Int} (h : y < x) : cmpI x y = 1 := by unfold cmpI; rw [if_neg (by omega), if_pos h]
theorem cmpI_3 {x y : Int} (h : x = y) : cmpI x y = 0 := by unfold cmpI; rw [if_neg (by omega), if_neg (by omega)]

theorem isNaN_int (x : Int) (w : World) : Calls Try.prog 180 #[.int .i64 x] w fun e w' => e = .returned (.bool false) ∧ w' = w := by
  go_enter Try.func180, Try.ntmps180
  go_wp2_with fail
  go_ret
  exact ⟨by simp, rfl⟩

theorem cmp_any (x y : Int) (w : World) : Calls Try.prog 162 #[.int .i64 x, .int .i64 y] w fun e w' => e = .returned (.int .i64 (cmpI x y)) ∧ w' = w := by
  rcases Int.lt_trichotomy x y with h | h | h
  · rw [cmpI_1 h]
    go_enter Try.func162, Try.ntmps162
    go_wp2_with (go_at_call 180; refine (isNaN_int _ _).mono ?_; rintro e w' ⟨rfl, rfl⟩)
    go_ret
    exact ⟨rfl, rfl⟩
  · rw [cmpI_3 h]
    have h1 : ¬ x < y := by omega
    have h2 : ¬ y < x := by omega
    clear h
    go_enter Try.func162, Try.ntmps162
    go_wp2_with (go_at_call 180; refine (isNaN_int _ _).mono ?_; rintro e w' ⟨rfl, rfl⟩)
    go_ret
    exact ⟨rfl, rfl⟩
  · rw [cmpI_2 h]
    have h1 : ¬ x < y := by omega
    go_enter Try.func162, Try.ntmps162
    go_wp2_with (go_at_call 180; refine (isNaN_int _ _).mono ?_; rintro e w' ⟨rfl, rfl⟩)
    go_ret
    exact ⟨rfl, rfl⟩

set_option maxRecDepth 100000 in
theorem less_any (cb g n x y : Nat) (X Y : Int) (w : World) (hn : n ≤ 48) (hc : w.cell? ⟨cb, 0, none⟩ = some (.slice (some ⟨g, 0, none⟩) n n)) (hx : x < n) (hy : y < n) (hX : w.cell? ⟨g, x, none⟩ = some (.int .i64 X)) (hY : w.cell? ⟨g, y, none⟩ = some (.int .i64 Y)) :
    Calls Try.prog 161 #[.int .i64 (x : Int), .int .i64 (y : Int), .pointer (some ⟨cb, 0, none⟩)] w fun e w' => e = .returned (.int .i64 (cmpI X Y)) ∧ ∃ q, w' = w.drewN q := by
  have hx' : (x : Int) < (n : Int) := by omega
  have hy' : (y : Int) < (n : Int) := by omega
  have hx0 : (0 : Int) ≤ (x : Int) := Int.natCast_nonneg _
  have hy0 : (0 : Int) ≤ (y : Int) := Int.natCast_nonneg _
  go_enter Try.func161, Try.ntmps161
  go_wp2_with fail
  go_quiet (first | (go_at_call 162; exact Calls.quiet_of_same (cmp_any _ _ _)))
  go_wp2_with fail
  go_ret
  exact ⟨rfl, _, rfl⟩

/-! ### the library's insertion sort at this program's numbers -/
def renS : Go.Shelf.Ren := ⟨fun _ => 193, fun x => if x = 0 then 0 else if x = 3 then 3 else if x = 4 then 4 else if x = 22 then 41 else if x = 24 then 2 else 198, fun x => x⟩
theorem laysS : SlLaysF.n20 Try.prog renS where
  mixed := by kernel_rfl
  f20 := ⟨"slices.insertionSortCmpFunc[int64]", by decide, by kernel_rfl⟩
  t0 := Try.underlying0
  a0 := Try.isAgg0
  z0 := Try.sizeOf0
  v0 := Try.zeroValue0
  t3 := Try.underlying3
  a3 := Try.isAgg3
  z3 := Try.sizeOf3
  v3 := Try.zeroValue3
  t4 := Try.underlying4
  a4 := Try.isAgg4
  z4 := Try.sizeOf4
  v4 := Try.zeroValue4
  t22 := Try.underlying41
  a22 := Try.isAgg41
  z22 := Try.sizeOf41
  v22 := Try.zeroValue41
  a24 := Try.isAgg2
  z24 := Try.sizeOf2
  t25 := Try.underlying198
  a25 := Try.isAgg198
  z25 := Try.sizeOf198
  v25 := Try.zeroValue198

/-- Indices as integers. -/
def natI (os : List Nat) : List Int := os.map (fun (x : Nat) => (x : Int))
theorem natI_len (os : List Nat) : (natI os).length = os.length := by simp [natI]
theorem natI_at {os : List Nat} {k : Nat} (h : k < os.length) : (natI os).getD k 0 = ((os.getD k 0 : Nat) : Int) := by simp [natI, List.getD, h]
def encN (N : Nat) : Fin N → Value := fun x => .int .i64 (x.val : Int)

open Go.Shelf Go.Sort in
theorem ir_put {B g N : Nat} {w : World} {xs : List Int} [Inhabited (Fin N)] (h : IR B w g N xs) (d : Array (Fin N)) (hd : d.size = N) :
    IR B (putRow (encN N) w g 0 d) g N (natI (natsOf d)) ∧ w.grownBy (putRow (encN N) w g 0 d) (some g) := by
  obtain ⟨hl, hx⟩ := h
  obtain ⟨h1, h2⟩ := hx
  rcases h2 with ⟨h', _⟩ | ⟨g', cap, cur, h', hb, hg, hnc, hcm, hcs, htake⟩
  · simp at h'
  simp only [Value.slice.injEq, Option.some.injEq, Addr.mk.injEq, and_true, true_and] at h'
  obtain ⟨rfl, rfl⟩ := h'
  have hs : cur.size = N := by omega
  have hheap : (putRow (encN N) w g 0 d).heap[g]? = some (.cells (putCells (encN N) 0 d cur) 2 (0, 0)) := by
    unfold putRow mapBlock
    simp [Array.getElem?_modify, hg, onCells]
  refine ⟨⟨by simp [natI, natsOf, hd], by simp [natI, natsOf, hd], .inr ⟨g, N, _, rfl, hb, hheap, hnc, hcm, by simp [putCells, hs], ?_⟩⟩, ?_⟩
  · rw [List.take_of_length_le (by simp [putCells, hs])]
    apply List.ext_getElem
    · simp [putCells, natI, natsOf, hs, hd]
    · intro i h1 h2
      have hi : i < N := by simpa [putCells, hs] using h1
      have hi' : i < d.size := by omega
      simp [putCells, natI, natsOf, encN, hi', getElem!_pos d i hi']
  · refine ⟨rfl, rfl, rfl, by simp, fun k hk hne => ?_⟩
    unfold putRow mapBlock
    have hne' : g ≠ k := fun e => hne (by rw [e])
    simp [Array.getElem?_modify, hne']

open Go.Shelf Go.Sort in
theorem ir_holds {B g N : Nat} {w : World} [Inhabited (Fin N)] (d : Array (Fin N)) (hd : d.size = N) (h : IR B w g N (natI (natsOf d))) : Holds (encN N) w g 0 d := by
  intro j hj
  rw [Nat.zero_add]
  refine ⟨?_, h.frozen j⟩
  rw [h.at (by omega), natI_at (by simp [natsOf]; omega)]
  simp [natsOf, encN, List.getD, hj, getElem!_pos d j hj]

theorem natsOf_idn (N : Nat) : natsOf (idn N) = List.range N := by
  unfold natsOf idn
  apply List.ext_getElem <;> simp

open Go.Shelf Go.Sort in
theorem iIns_any (cs : List Int) (N : Nat) (h1 : 0 < N) (hN : cs.length = N) (hn : N ≤ 48) (B g cb gc : Nat) (w : World) (h : IR B w g N (natI (List.range N))) (hc : w.cell? ⟨cb, 0, none⟩ = some (.slice (some ⟨gc, 0, none⟩) N N))
    (hcs : ∀ i, i < N → w.cell? ⟨gc, i, none⟩ = some (.int .i64 (keyA cs i))) (n1 : cb ≠ g) (n2 : gc ≠ g) :
    Calls Try.prog 193 #[.slice (some ⟨g, 0, none⟩) N N, .int .i64 0, .int .i64 (N : Int), .func (.func 161) #[] #[.pointer (some ⟨cb, 0, none⟩)]] w fun e w' =>
      e = .returned (.tuple #[]) ∧ ∃ os, IR B w' g N (natI os) ∧ Ordd cs os ∧ w.grownBy w' (some g) := by
  haveI : Inhabited (Fin N) := ⟨⟨0, h1⟩⟩
  have hd : (idn N).size = N := idn_size N
  have hH : Holds (encN N) w g 0 (idn N) := ir_holds (idn N) hd (by rw [natsOf_idn]; exact h)
  have hcb := block_lt_of_cell hc
  have hcmp : CmpReads Try.prog 161 #[.pointer (some ⟨cb, 0, none⟩)] (encN N) (fun x y => cmpI (keyA cs x.val) (keyA cs y.val)) g 0 (idn N).size w := by
    intro m os dk hsz x y
    have hw : ∀ a : Addr, a.block < w.heap.size → a.block ≠ g → (sortWorld (encN N) w g 0 m dk os).cell? a = w.cell? a := by
      intro a ha hne
      unfold sortWorld
      rw [cell?_grow _ _ _ (by rw [size_putRow]; exact ha), cell?_putRow_other _ _ _ _ _ _ (.inl hne)]
      rfl
    have kx := hcs x.val x.isLt
    have ky := hcs y.val y.isLt
    exact less_any cb gc N x.val y.val _ _ _ hn ((hw ⟨cb, 0, none⟩ hcb n1).trans hc) x.isLt y.isLt ((hw ⟨gc, x.val, none⟩ (block_lt_of_cell kx) n2).trans kx) ((hw ⟨gc, y.val, none⟩ (block_lt_of_cell ky) n2).trans ky)
  have hcon := Any.insertionSortCmpFunc_one laysS (encN N) (fun _ => rfl) (fun x y => cmpI (keyA cs x.val) (keyA cs y.val)) 161 #[.pointer (some ⟨cb, 0, none⟩)] g 0 N 0 N (idn N) w
    (enters_of Try.func161 (by kernel_rfl) rfl) hcmp hH (Nat.zero_le _) (by omega) (by omega)
  rw [hd] at hcon
  change Calls Try.prog 193 _ _ _ at hcon
  refine hcon.mono ?_
  rintro e w' ⟨rfl, n, rfl⟩
  refine ⟨rfl, natsOf (insertionSort (ltK cs) (idn N) 0 N), ?_, sort_ordd cs hN, ?_⟩
  all_goals
    have e : ltOf (fun x y : Fin N => cmpI (keyA cs x.val) (keyA cs y.val)) = ltK cs := by
      funext x y
      unfold ltOf ltK
      rw [decide_eq_decide]
      exact cmpI_lt _ _
    rw [e]
    obtain ⟨p1, _⟩ := insertionSort_of swp_permIn permIn_refl permIn_trans (lt := ltX cs) (swoX cs) (idn N) 0 N (Nat.zero_le _) (by omega)
    have hsz : (insertionSort (ltK cs) (idn N) 0 N).size = N := by
      have := (sort_ordd cs hN).len
      simpa [natsOf, hN] using this
    obtain ⟨q1, q2⟩ := ir_put h (insertionSort (ltK cs) (idn N) 0 N) hsz
  · exact q1
  · exact grown_trans q2 (grown_below (row := some g) (below_drewN (Below.refl _ _) n))

theorem iIns_zero (g : Nat) (f : Value) (w : World) : Calls Try.prog 193 #[.slice (some ⟨g, 0, none⟩) 0 0, .int .i64 0, .int .i64 0, f] w fun e w' => e = .returned (.tuple #[]) ∧ w = w' := by
  go_enter Try.func193, Try.ntmps193
  go_wp2
  refine wp_loop_rounds 1 ?_
  rw [rounds_succ]
  go_wp2
  go_end0
  exact ⟨rfl, rfl⟩

theorem iInsZ_any (cs : List Int) (N : Nat) (hN : cs.length = N) (hn : N ≤ 48) (B g cb gc : Nat) (w : World) (h : IR B w g N (natI (List.range N))) (hc : w.cell? ⟨cb, 0, none⟩ = some (.slice (some ⟨gc, 0, none⟩) N N))
    (hcs : ∀ i, i < N → w.cell? ⟨gc, i, none⟩ = some (.int .i64 (keyA cs i))) (n1 : cb ≠ g) (n2 : gc ≠ g) :
    Calls Try.prog 193 #[.slice (some ⟨g, 0, none⟩) N N, .int .i64 0, .int .i64 (N : Int), .func (.func 161) #[] #[.pointer (some ⟨cb, 0, none⟩)]] w fun e w' =>
      e = .returned (.tuple #[]) ∧ ∃ os, IR B w' g N (natI os) ∧ Ordd cs os ∧ w.grownBy w' (some g) := by
  by_cases h1 : 0 < N
  · exact iIns_any cs N h1 hN hn B g cb gc w h hc hcs n1 n2
  · obtain rfl : N = 0 := by omega
    obtain rfl : cs = [] := List.length_eq_zero_iff.1 hN
    refine (iIns_zero g _ w).mono ?_
    rintro e w' ⟨rfl, rfl⟩
    exact ⟨rfl, [], h, Ordd.nil, grown_refl _ _⟩

set_option maxHeartbeats 1000000 in
set_option maxRecDepth 100000 in
theorem iStable_any (cs : List Int) (N : Nat) (hN : cs.length = N) (hn : N ≤ 19) (B g cb gc : Nat) (w : World) (h : IR B w g N (natI (List.range N))) (hc : w.cell? ⟨cb, 0, none⟩ = some (.slice (some ⟨gc, 0, none⟩) N N))
    (hcs : ∀ i, i < N → w.cell? ⟨gc, i, none⟩ = some (.int .i64 (keyA cs i))) (n1 : cb ≠ g) (n2 : gc ≠ g) :
    Calls Try.prog 160 #[.slice (some ⟨g, 0, none⟩) N N, .func (.func 161) #[] #[.pointer (some ⟨cb, 0, none⟩)]] w fun e w' =>
      e = .returned (.tuple #[]) ∧ ∃ os, IR B w' g N (natI os) ∧ Ordd cs os ∧ w.grownBy w' (some g) := by
  have HC := Lib.hid (iInsZ_any cs N hN (by omega) B g cb gc w h hc hcs n1 n2)
  have q1 : ¬ (20 : Int) ≤ (N : Int) := by omega
  have q2 : ¬ (20 : Int) < (N : Int) := by omega
  clear h hc hcs n1 n2 hN
  have HS : Calls Try.prog 179 #[.slice (some ⟨g, 0, none⟩) N N, .int .i64 (N : Int), .func (.func 161) #[] #[.pointer (some ⟨cb, 0, none⟩)]] w fun e w' =>
      e = .returned (.tuple #[]) ∧ ∃ os, IR B w' g N (natI os) ∧ Ordd cs os ∧ w.grownBy w' (some g) := by
    go_enter Try.func179, Try.ntmps179
    go_wp2
    refine wp_loop_rounds 1 ?_
    rw [rounds_succ]
    go_wp2_with (go_at_call 193; refine (HC.out).mono ?_; rintro e w1 ⟨rfl, os, h1, h2, h3⟩; (have H1 := Lib.hid h1); (have H2 := Lib.hid h2); (have H3 := Lib.hid h3); clear h1 h2 h3)
    refine wp_loop_rounds 1 ?_
    rw [rounds_succ]
    go_wp2
    go_end0
    exact ⟨rfl, os, H1.out, H2.out, H3.out⟩
  go_enter Try.func160, Try.ntmps160
  go_wp2_with (go_at_call 179; refine HS.mono ?_; rintro e w1 ⟨rfl, os, h1, h2, h3⟩; (have H1 := Lib.hid h1); (have H2 := Lib.hid h2); (have H3 := Lib.hid h3); clear h1 h2 h3)
  go_end0
  exact ⟨rfl, os, H1.out, H2.out, H3.out⟩
end Go.Proofs.Ytnknhfhllifnhaa
namespace Go.Proofs.Ytnknhfhllifnhaa
open Go.Fl Go.RowKit Go.Ordr
set_option linter.unusedSimpArgs false
set_option linter.unusedVariables false

theorem natI_range {xs : List Int} {n : Nat} (h : xs.length = n) (ht : ∀ j, j < n → xs.getD j 0 = (j : Int)) : xs = natI (List.range n) :=
  list_of_at (by rw [h, natI_len, List.length_range]) (fun j hj => by
    rw [natI_len, List.length_range] at hj
    rw [ht j hj, natI_at (by simpa using hj)]
    simp [List.getD, hj])

set_option maxHeartbeats 1000000 in
set_option maxRecDepth 100000 in
theorem iOrderM_pt (a b : Int) (ha : 4 ≤ a) (ha' : a ≤ 7) (hb : 4 ≤ b) (hb' : b ≤ 7) (B : Nat) (v : Value) (ts : List Pt) (m k : Nat) (w : World) (hv : POwn B w v ts) (h : oks ts) (hn : ts.length ≤ 19) :
    Calls Try.prog 105 #[CG a b v m k] w fun e w' => (∃ g n os, e = .returned (.slice (some ⟨g, 0, none⟩) n n) ∧ IR w.heap.size w' g n (natI os) ∧ Ordd (keysP a b ts) os) ∧ Below w.heap.size w w' := by
  obtain ⟨ti, hi, hz0, hz1, hz2⟩ := info_parts I64inf
  obtain ⟨av, cap, rfl, hf⟩ := p_form hv
  have HO := Lib.hid h
  have HI := Lib.hid hi; have HZ0 := Lib.hid hz0; have HZ1 := Lib.hid hz1; have HZ2 := Lib.hid hz2
  have HB0 := Lib.hid ((Below.refl w.heap.size w).alloc (Nat.le_refl _) (.cells (CGc a b (.slice av ts.length cap) m k) 48))
  have HV := Lib.hid (r4_below hv HB0.out)
  have HZG := Lib.hid (show w.heap.size < (w.alloc (.cells (CGc a b (.slice av ts.length cap) m k) 48)).heap.size by simp)
  clear hv h hi hz0 hz1 hz2
  go_enter Try.func105, Try.ntmps105
  go_wp2_with fail
  generalize w.alloc (.cells (CGc a b (.slice av ts.length cap) m k) 48) = v1 at HB0 HV HZG ⊢
  refine (iCellsM_pt a b ha ha' hb hb' B _ ts m k _ HV.out HO.out (by omega)).mono ?_
  rintro e v2 ⟨⟨gc, n, rfl, hc⟩, h2⟩
  have HN := Lib.hid (show n = ts.length by rw [← keysP_len a b, hc.1])
  have hn' : n ≤ 19 := by have := HN.out; omega
  have HB2 := Lib.hid (HB0.out.trans (h2.mono HB0.out.size))
  have HGC := Lib.hid ((hc.2.lt gc rfl).2)
  have HGC0 := Lib.hid (show v1.heap.size ≤ gc from (hc.2.lt gc rfl).1)
  have HC2 := Lib.hid hc
  have HCB := Lib.hid (heap_alloc_new v2 (.cells #[.slice (some ⟨gc, 0, none⟩) n n] 41))
  have HB3 := Lib.hid (HB2.out.alloc HB2.out.size (.cells #[.slice (some ⟨gc, 0, none⟩) n n] 41))
  have HC3 := Lib.hid (hc.kept ((Below.refl v2.heap.size v2).alloc (Nat.le_refl _) (.cells #[.slice (some ⟨gc, 0, none⟩) n n] 41)))
  have HZB := Lib.hid (show v2.heap.size < (v2.alloc (.cells #[.slice (some ⟨gc, 0, none⟩) n n] 41)).heap.size by simp)
  have hcb0 : (v2.alloc (.cells #[.slice (some ⟨gc, 0, none⟩) n n] 41)).cell? ⟨v2.heap.size, 0, none⟩ = some (.slice (some ⟨gc, 0, none⟩) n n) := by rw [Joins.cell_of_block HCB.out]; rfl
  have hb4 : ti.bytes * n ≤ 281474976710656 := by rw [HZ2.out]; omega
  have hml : n ≤ maxLen := by unfold maxLen; omega
  have hsz : (v2.alloc (.cells #[.slice (some ⟨gc, 0, none⟩) n n] 41)).heap.size = v2.heap.size + 1 := by simp
  have HSZ := Lib.hid hsz
  clear hc h2 hsz HC2
  go_wp2_with (at_make; refine wpList_make_full _ rfl _ _ 41 rfl w.heap.size 2 ti (.int .i64 0) 1 Try.underlying41 HI.out HZ0.out HZ1.out _ _ _ _ n rfl rfl rfl rfl hb4 hml HB3.out.size ?_; intro v5 hown hgrow)
  clear hcb0
  generalize v2.alloc (.cells #[.slice (some ⟨gc, 0, none⟩) n n] 41) = v4 at HCB HB3 HC3 HZB HSZ hown hgrow ⊢
  rw [Nat.mul_one, show (madeCells (Value.int .i64 0).cells n).toList = (List.replicate n (0 : Int)).map (Value.int .i64) by rw [List.map_replicate]; exact toList_madeCells_one _ _] at hown
  rw [HSZ.out] at hown
  have HR0 := Lib.hid (show IR w.heap.size v5 (v2.heap.size + 1) n (List.replicate n 0) from ⟨by simp, hown⟩)
  have HB5 := Lib.hid (HB3.out.grown hgrow HB3.out.size (fun k h => by cases h))
  have HC5 := Lib.hid (HC3.out.kept (Below.grown (Below.refl v4.heap.size v4) hgrow (Nat.le_refl _) (fun k h => by cases h)))
  have HCB5 := Lib.hid ((hgrow.block v2.heap.size HZB.out (fun e => by cases e)).trans HCB.out)
  clear hown hgrow hb4 hml HI HZ0 HZ1 HCB HC3
  go_loopw [13] (fun i wr => ∃ q : Nat, q ≤ n ∧ i = .int .i64 q ∧ Hid (v5.grownBy wr (some (v2.heap.size + 1))) ∧ ∃ xs, Hid (IR w.heap.size wr (v2.heap.size + 1) n xs) ∧ Hid (∀ j, j < q → xs.getD j 0 = (j : Int))) (fun i _ => n - (intOf i).toNat)
  case atStart => exact ⟨0, Nat.zero_le _, rfl, Lib.hid (grown_refl _ _), _, HR0, Lib.hid (fun j hj => absurd hj (Nat.not_lt_zero _))⟩
  case round =>
    clear HR0
    obtain ⟨q, hq, rfl, HG, xs, HR, HD⟩ := hrel
    by_cases hlt : q < n
    · have hz : (q : Int) < (n : Int) := by omega
      have hz0 : (0 : Int) ≤ (q : Int) := Int.natCast_nonneg _
      have xk := HR.out.at hlt
      have hf := HR.out.frozen q
      have PT := HR.out.put hlt (q : Int)
      have HR3 := Lib.hid PT.1; have HG3 := Lib.hid (grown_trans HG.out PT.2)
      have HD3 := Lib.hid (set_at (r := (q : Int)) (F := fun j => (j : Int)) (show q < xs.length by rw [HR.out.1]; exact hlt) rfl HD.out)
      clear PT HR HG
      go_wp2_with fail
      go_roundw
      case rel => exact ⟨q + 1, by omega, by go_num, HG3, _, HR3, HD3⟩
      case measure => simp [intOf]; omega
    · obtain rfl : q = n := by omega
      clear hlt
      have HXS := Lib.hid (natI_range HR.out.1 HD.out)
      have HCR := Lib.hid (show wr.heap[v2.heap.size]? = some (.cells #[.slice (some ⟨gc, 0, none⟩) q q] 41) from (HG.out.block v2.heap.size (Array.getElem?_eq_some_iff.1 HCB5.out).1 (fun e => by have := Option.some.inj e; omega)).trans HCB5.out)
      have HK := Lib.hid (fun i (hi : i < q) => show wr.cell? ⟨gc, i, none⟩ = some (.int .i64 (keyA (keysP a b ts) i)) from by
        have h5 := HC5.out.at hi
        rw [cell_grown HG.out (block_lt_of_cell h5) (by have := HGC.out; show gc ≠ v2.heap.size + 1; omega)]
        exact h5)
      go_wp2_with fail
      refine (iStable_any (keysP a b ts) q (by rw [keysP_len]; exact HN.out.symm) (by omega) w.heap.size (v2.heap.size + 1) v2.heap.size gc _ (by rw [← HXS.out]; exact HR.out) (by rw [Joins.cell_of_block HCR.out]; rfl) HK.out (by omega) (by have := HGC.out; omega)).mono ?_
      rintro e w6 ⟨rfl, os, h1, h2, h3⟩
      have H1 := Lib.hid h1; have H2 := Lib.hid h2
      have HB6 := Lib.hid (below_row HB5.out HB5.out.size (show w.heap.size ≤ v2.heap.size + 1 from by have := HB2.out.size; omega) (grown_trans HG.out h3))
      clear h1 h2 h3 HR HG HD
      go_wp2_with fail
      go_ret
      exact ⟨⟨_, _, os, rfl, H1.out, H2.out⟩, HB6.out⟩
end Go.Proofs.Ytnknhfhllifnhaa
namespace Go.Proofs.Ytnknhfhllifnhaa
open Go.Fl Go.RowKit Go.Ordr
set_option linter.unusedSimpArgs false
set_option linter.unusedVariables false

/-- How many particles each cell has. -/
def CN (cs : List Int) (n : Nat) : List Int := (List.range n).map (fun k => ((inCell cs k).length : Int))
/-- How many all cells before it have. -/
def SN (cs : List Int) (n : Nat) : List Int := (List.range n).map (fun k => ((upTo cs k).length : Int))
theorem CN_len (cs : List Int) (n : Nat) : (CN cs n).length = n := by simp [CN]
theorem SN_len (cs : List Int) (n : Nat) : (SN cs n).length = n := by simp [SN]
theorem CN_at {cs : List Int} {n k : Nat} (h : k < n) : (CN cs n).getD k 0 = ((inCell cs k).length : Int) := by simp [CN, List.getD, h]
theorem SN_at {cs : List Int} {n k : Nat} (h : k < n) : (SN cs n).getD k 0 = ((upTo cs k).length : Int) := by simp [SN, List.getD, h]
theorem upTo_len (cs : List Int) (k : Nat) : ((upTo cs (k + 1)).length : Int) = ((upTo cs k).length : Int) + ((inCell cs k).length : Int) := by rw [upTo_succ, List.length_append, Int.natCast_add]

theorem count_key {a b : Int} (ha : 4 ≤ a) (hb : 4 ≤ b) (ts : List Pt) (j : Nat) : sumI (cntAt a b j) ts ts.length = ((inCell (keysP a b ts) j).length : Int) := by
  rw [inCell_len]
  unfold sumI keysP
  rw [List.take_length, List.map_map]
  congr 2
  funext t
  have h0 := (keyP_in ha hb t).1
  show cntAt a b j t = if keyP a b t = (j : Int) then 1 else 0
  unfold cntAt at1
  show (if (j : Int) = keyP a b t then (1 : Int) else 0) = _
  by_cases e : keyP a b t = (j : Int)
  · rw [if_pos e, if_pos e.symm]
  · rw [if_neg e, if_neg (fun h => e h.symm)]

theorem upTo_le (cs : List Int) (k : Nat) (h0 : ∀ i, i < cs.length → 0 ≤ keyA cs i) : (upTo cs k).length ≤ cs.length := by
  have hn := nodup_upTo cs k h0
  have hp : (upTo cs k).Perm ((List.range cs.length).filter (fun i => decide (keyA cs i < (k : Int)))) := by
    rw [List.perm_ext_iff_of_nodup hn (List.Pairwise.filter _ List.nodup_range)]
    intro x
    rw [List.mem_filter, List.mem_range, decide_eq_true_eq]
    constructor
    · intro hx
      have hx' : x < cs.length := by
        unfold upTo at hx
        obtain ⟨q, _, hq⟩ := List.mem_flatMap.1 hx
        exact (mem_inCell.1 hq).1
      exact (mem_upTo (h0 x hx')).1 hx
    · rintro ⟨h1, h2⟩
      exact (mem_upTo (h0 x h1)).2 ⟨h1, h2⟩
  have := hp.length_eq
  have h2 := List.length_filter_le (fun i => decide (keyA cs i < (k : Int))) (List.range cs.length)
  rw [List.length_range] at h2
  omega

theorem keys_nn {a b : Int} (ha : 4 ≤ a) (hb : 4 ≤ b) (ts : List Pt) : ∀ i, i < (keysP a b ts).length → 0 ≤ keyA (keysP a b ts) i ∧ keyA (keysP a b ts) i < a * b := by
  intro i hi
  rw [keysP_len] at hi
  unfold keyA
  rw [keysP_at hi]
  exact keyP_in ha hb _

set_option maxHeartbeats 1000000 in
set_option maxRecDepth 100000 in
theorem iCountsM_pt (a b : Int) (ha : 4 ≤ a) (ha' : a ≤ 7) (hb : 4 ≤ b) (hb' : b ≤ 7) (B : Nat) (v : Value) (ts : List Pt) (m k : Nat) (w : World) (hv : POwn B w v ts) (h : oks ts) (hn : ts.length ≤ 48) :
    Calls Try.prog 109 #[CG a b v m k] w fun e w' => (∃ g n, e = .returned (.slice (some ⟨g, 0, none⟩) n n) ∧ IR w.heap.size w' g n (CN (keysP a b ts) n) ∧ (n : Int) = a * b) ∧ Below w.heap.size w w' := by
  obtain ⟨av, cap, rfl, hf⟩ := p_form hv
  have HO := Lib.hid h
  have HB0 := Lib.hid ((Below.refl w.heap.size w).alloc (Nat.le_refl _) (.cells (CGc a b (.slice av ts.length cap) m k) 48))
  have HV := Lib.hid (r4_below hv HB0.out)
  have HX := Lib.hid (heap_alloc_new w (.cells (CGc a b (.slice av ts.length cap) m k) 48))
  obtain ⟨q0, q1, q2, q3, q4⟩ := five_cells HX.out
  clear hv h
  go_enter Try.func109, Try.ntmps109
  go_wp2_with fail
  generalize w.alloc (.cells (CGc a b (.slice av ts.length cap) m k) 48) = v1 at HB0 HV HX q0 q1 q2 q3 q4 ⊢
  clear q0 q1 q2 q3 q4
  refine (iCount_pt a b ha ha' hb hb' B _ ts _ HV.out HO.out (by omega)).mono ?_
  rintro e v2 ⟨⟨g, n, xs, rfl, h1, h2, h3⟩, hb2⟩
  have HR := Lib.hid (show IR w.heap.size v2 g n xs from ⟨h1.1, Go.Joins.ownsRow_le h1.2 HB0.out.size⟩)
  have HNN := Lib.hid h2
  have HX := Lib.hid (show xs = CN (keysP a b ts) n from list_of_at (by rw [CN_len]; exact h1.1) (fun j hj => by
    rw [CN_len] at hj
    rw [h3 j (by rw [h1.1]; exact hj), CN_at hj]
    exact count_key ha hb ts j))
  have HB2 := Lib.hid (HB0.out.trans (hb2.mono HB0.out.size))
  clear h1 h2 h3 hb2
  go_wp2_with fail
  go_ret
  refine ⟨⟨_, _, rfl, ?_, HNN.out⟩, HB2.out⟩
  have := HR.out
  rw [HX.out] at this
  exact this

set_option maxHeartbeats 1000000 in
set_option maxRecDepth 100000 in
theorem iStartsM_pt (a b : Int) (ha : 4 ≤ a) (ha' : a ≤ 7) (hb : 4 ≤ b) (hb' : b ≤ 7) (B : Nat) (v : Value) (ts : List Pt) (m k : Nat) (w : World) (hv : POwn B w v ts) (h : oks ts) (hn : ts.length ≤ 48) :
    Calls Try.prog 110 #[CG a b v m k] w fun e w' => (∃ g n, e = .returned (.slice (some ⟨g, 0, none⟩) n n) ∧ IR w.heap.size w' g n (SN (keysP a b ts) n) ∧ (n : Int) = a * b) ∧ Below w.heap.size w w' := by
  obtain ⟨av, cap, rfl, hf⟩ := p_form hv
  have HO := Lib.hid h
  have HB0 := Lib.hid ((Below.refl w.heap.size w).alloc (Nat.le_refl _) (.cells (CGc a b (.slice av ts.length cap) m k) 48))
  have HV := Lib.hid (r4_below hv HB0.out)
  have HUL := Lib.hid (fun q => upTo_le (keysP a b ts) q (fun i hi => (keys_nn ha hb ts i hi).1))
  have HKL := Lib.hid (keysP_len a b ts)
  clear hv h
  go_enter Try.func110, Try.ntmps110
  go_wp2_with fail
  generalize w.alloc (.cells (CGc a b (.slice av ts.length cap) m k) 48) = v1 at HB0 HV ⊢
  refine (iCountsM_pt a b ha ha' hb hb' B _ ts m k _ HV.out HO.out hn).mono ?_
  rintro e v2 ⟨⟨g, n, rfl, h1, h2⟩, hb2⟩
  have HNN := Lib.hid h2
  have HR0 := Lib.hid (show IR w.heap.size v2 g n (CN (keysP a b ts) n) from ⟨h1.1, Go.Joins.ownsRow_le h1.2 HB0.out.size⟩)
  have HB2 := Lib.hid (HB0.out.trans (hb2.mono HB0.out.size))
  have HGL := Lib.hid (show w.heap.size ≤ g from by have := (h1.2.lt g rfl).1; have := HB0.out.size; omega)
  have hm1 : a * b ≤ 7 * 7 := Int.mul_le_mul ha' hb' (by omega) (by omega)
  have hnl : n ≤ 49 := by omega
  clear h1 h2 hb2 HV HB0 hm1
  go_wp2_with fail
  go_loopw [4, 11] (fun s i wr => ∃ q : Nat, q ≤ n ∧ i = .int .i64 q ∧ (∃ u : Nat, s = .int .i64 (u : Int) ∧ Hid (u = (upTo (keysP a b ts) q).length)) ∧ Hid (v2.grownBy wr (some g)) ∧ ∃ xs, Hid (IR w.heap.size wr g n xs) ∧ Hid (∀ j, j < q → xs.getD j 0 = (SN (keysP a b ts) n).getD j 0) ∧ Hid (∀ j, q ≤ j → j < n → xs.getD j 0 = (CN (keysP a b ts) n).getD j 0)) (fun _ i _ => n - (intOf i).toNat)
  case atStart => exact ⟨0, Nat.zero_le _, rfl, ⟨0, rfl, Lib.hid rfl⟩, Lib.hid (grown_refl _ _), _, HR0, Lib.hid (fun j hj => absurd hj (Nat.not_lt_zero _)), Lib.hid (fun j _ _ => rfl)⟩
  case round =>
    clear HR0
    obtain ⟨q, hq, rfl, ⟨u, rfl, HU⟩, HG, xs, HR, HD, HE⟩ := hrel
    by_cases hlt : q < n
    · have hz : (q : Int) < (n : Int) := by omega
      have hz0 : (0 : Int) ≤ (q : Int) := Int.natCast_nonneg _
      have xk := HR.out.at hlt
      rw [HE.out q (Nat.le_refl _) hlt, CN_at hlt] at xk
      have hf := HR.out.frozen q
      have PT := HR.out.put hlt (u : Int)
      have HR3 := Lib.hid PT.1; have HG3 := Lib.hid (grown_trans HG.out PT.2)
      have HD3 := Lib.hid (set_at (r := (u : Int)) (F := fun j => (SN (keysP a b ts) n).getD j 0) (show q < xs.length by rw [HR.out.1]; exact hlt) (by show _ = (SN (keysP a b ts) n).getD q 0; rw [SN_at hlt, HU.out]) HD.out)
      have HE3 := Lib.hid (show ∀ j, q + 1 ≤ j → j < n → (xs.set q (u : Int)).getD j 0 = (CN (keysP a b ts) n).getD j 0 from fun j h1 h2 => by
        rw [List.getD_eq_getElem?_getD, List.getElem?_set, if_neg (by omega), ← List.getD_eq_getElem?_getD]
        exact HE.out j (by omega) h2)
      have hl1 : (upTo (keysP a b ts) (q + 1)).length ≤ 48 := by have := HUL.out (q + 1); have := HKL.out; omega
      have hl0 := upTo_len (keysP a b ts) q
      have hu := HU.out
      have hsum : (u : Int) + ((inCell (keysP a b ts) q).length : Int) ≤ 48 := by omega
      have HU3 := Lib.hid (show u + (inCell (keysP a b ts) q).length = (upTo (keysP a b ts) (q + 1)).length by omega)
      clear PT HR HG HE HD hl0 hl1 hu
      generalize (inCell (keysP a b ts) q).length = c at xk hsum HU3
      go_wp2_with fail
      go_roundw
      case rel => exact ⟨q + 1, by omega, by go_num, ⟨u + c, by go_num, HU3⟩, HG3, _, HR3, HD3, HE3⟩
      case measure => simp [intOf]; omega
    · obtain rfl : q = n := by omega
      clear hlt
      have HX := Lib.hid (show xs = SN (keysP a b ts) q from list_of_at (by rw [SN_len]; exact HR.out.1) (fun j hj => by rw [SN_len] at hj; exact HD.out j hj))
      go_wp2_with fail
      go_ret
      refine ⟨⟨_, _, rfl, ?_, HNN.out⟩, below_row HB2.out HB2.out.size HGL.out HG.out⟩
      have := HR.out
      rw [HX.out] at this
      exact this
end Go.Proofs.Ytnknhfhllifnhaa
namespace Go.Proofs.Ytnknhfhllifnhaa
open Go.Fl Go.RowKit Go.Ordr
set_option linter.unusedSimpArgs false
set_option linter.unusedVariables false

theorem num_dy' {x : Nat} {n : Int} (h : Dy .f32 146 x n) : Num x := dv_num h.dv
theorem grid_small' {a b : Int} (ha : 4 ≤ a) (ha' : a ≤ 7) (hb : 4 ≤ b) (hb' : b ≤ 7) : gridOk a b = true := by
  unfold gridOk; exact decide_eq_true ⟨ha, by omega, hb, by omega⟩

set_option maxHeartbeats 1000000 in
set_option maxRecDepth 100000 in
theorem iMeasI_pt (fn : Nat) (R : Nat → Nat → World → Prop) (a b : Int) (ha : 4 ≤ a) (ha' : a ≤ 7) (hb : 4 ≤ b) (hb' : b ≤ 7) (B : Nat) (v : Value) (ts : List Pt) (m k : Nat) (im : Num m) (ik : Num k) (w : World) (hv : POwn B w v ts) (h : oks ts) (hn : ts.length ≤ 48)
    (he : ∀ args w, (callFunc fn args).run Try.prog w = .ok (.enter fn args) w)
    (hf : ∀ w1, Below w.heap.size w w1 → POwn B w1 v ts → Calls Try.prog fn #[CG a b v m k] w1 fun e w' => (∃ g n, e = .returned (.slice (some ⟨g, 0, none⟩) n n) ∧ R g n w') ∧ Below w1.heap.size w1 w') :
    Calls Try.prog 104 #[CG a b v m k, .func (.func fn) #[] #[]] w fun e w' => (∃ g n, e = .returned (.tuple #[.slice (some ⟨g, 0, none⟩) n n, .bool true]) ∧ R g n w') ∧ Below w.heap.size w w' := by
  obtain ⟨av, cap, rfl, hff⟩ := p_form hv
  have HO := Lib.hid h; have HF := Lib.hid hf; have HE := Lib.hid he; have IM := Lib.hid im; have IK := Lib.hid ik
  have HB2 := Lib.hid ((Below.refl w.heap.size w).alloc (Nat.le_refl _) (.cells (CGc a b (.slice av ts.length cap) m k) 48))
  have HV := Lib.hid hv
  have HZ2 := Lib.hid (heap_alloc_new w (.cells (CGc a b (.slice av ts.length cap) m k) 48))
  have HS2 := Lib.hid (show w.heap.size < (w.alloc (.cells (CGc a b (.slice av ts.length cap) m k) 48)).heap.size by simp)
  clear hv h hf he im ik
  go_enter Try.func104, Try.ntmps104
  go_wp2_with fail
  generalize w.alloc (.cells (CGc a b (.slice av ts.length cap) m k) 48) = w2 at HB2 HZ2 HS2 ⊢
  refine (iVC_pq B a b _ (ts.map Pt.pq) m k _ (own_pq (r4_below HV.out HB2.out)) (oks_pq HO.out) (by rw [List.length_map]; exact hn) IM.out IK.out (grid_small' ha ha' hb hb')).mono ?_
  rintro e w3 ⟨rfl, hb3⟩
  have HB3 := Lib.hid (HB2.out.trans (hb3.mono HB2.out.size))
  obtain ⟨q0, q1, q2, q3, q4⟩ := five_cells ((hb3.block w.heap.size HS2.out).trans HZ2.out)
  clear hb3
  go_wp2_with fail
  rw [HE.out]
  go_simp
  refine (HF.out _ HB3.out (r4_below HV.out HB3.out)).mono ?_
  rintro e w4 ⟨⟨g, n, rfl, hr⟩, hb4⟩
  have HB4 := Lib.hid (HB3.out.trans (hb4.mono HB3.out.size))
  have HR := Lib.hid hr
  clear hr hb4 q0 q1 q2 q3 q4
  go_wp2_with fail
  go_ret2
  exact ⟨⟨_, _, rfl, HR.out⟩, HB4.out⟩

set_option maxHeartbeats 1000000 in
theorem iCellsOf_pt (a b : Int) (ha : 4 ≤ a) (ha' : a ≤ 7) (hb : 4 ≤ b) (hb' : b ≤ 7) (B : Nat) (v : Value) (ts : List Pt) (m k : Nat) (im : Num m) (ik : Num k) (w : World) (hv : POwn B w v ts) (h : oks ts) (hn : ts.length ≤ 48) :
    Calls Try.prog 37 #[CG a b v m k] w fun e w' => (∃ g n, e = .returned (.tuple #[.slice (some ⟨g, 0, none⟩) n n, .bool true]) ∧ IR w.heap.size w' g n (keysP a b ts)) ∧ Below w.heap.size w w' := by
  obtain ⟨av, cap, rfl, hff⟩ := p_form hv
  have HO := Lib.hid h; have IM := Lib.hid im; have IK := Lib.hid ik
  have HB1 := Lib.hid ((Below.refl w.heap.size w).alloc (Nat.le_refl _) (.cells (CGc a b (.slice av ts.length cap) m k) 48))
  have HV := Lib.hid (r4_below hv HB1.out)
  clear hv h im ik
  go_enter Try.func37, Try.ntmps37
  go_wp2_with fail
  generalize w.alloc (.cells (CGc a b (.slice av ts.length cap) m k) 48) = w1 at HB1 HV ⊢
  refine (iMeasI_pt 108 (fun g n w' => IR w.heap.size w' g n (keysP a b ts)) a b ha ha' hb hb' B _ ts m k IM.out IK.out _ HV.out HO.out (by omega) (enters_of Try.func108 (by kernel_rfl) rfl) (fun w2 hw2 hv2 => ?_)).mono ?_
  · refine (iCellsM_pt a b ha ha' hb hb' B _ ts m k _ hv2 HO.out hn).mono ?_
    rintro e w3 ⟨⟨g, n, rfl, h1⟩, hb3⟩
    exact ⟨⟨_, _, rfl, ⟨h1.1, Go.Joins.ownsRow_le h1.2 (Nat.le_trans HB1.out.size hw2.size)⟩⟩, hb3⟩
  rintro e w4 ⟨⟨g, n, rfl, hr⟩, hb4⟩
  have HB4 := Lib.hid (HB1.out.trans (hb4.mono HB1.out.size))
  have HR := Lib.hid hr
  clear hr hb4
  go_wp2_with fail
  go_ret2
  exact ⟨⟨_, _, rfl, HR.out⟩, HB4.out⟩

set_option maxHeartbeats 1000000 in
theorem iOrderOf_pt (a b : Int) (ha : 4 ≤ a) (ha' : a ≤ 7) (hb : 4 ≤ b) (hb' : b ≤ 7) (B : Nat) (v : Value) (ts : List Pt) (m k : Nat) (im : Num m) (ik : Num k) (w : World) (hv : POwn B w v ts) (h : oks ts) (hn : ts.length ≤ 19) :
    Calls Try.prog 35 #[CG a b v m k] w fun e w' => (∃ g n, e = .returned (.tuple #[.slice (some ⟨g, 0, none⟩) n n, .bool true]) ∧ (∃ os, IR w.heap.size w' g n (natI os) ∧ Ordd (keysP a b ts) os)) ∧ Below w.heap.size w w' := by
  obtain ⟨av, cap, rfl, hff⟩ := p_form hv
  have HO := Lib.hid h; have IM := Lib.hid im; have IK := Lib.hid ik
  have HB1 := Lib.hid ((Below.refl w.heap.size w).alloc (Nat.le_refl _) (.cells (CGc a b (.slice av ts.length cap) m k) 48))
  have HV := Lib.hid (r4_below hv HB1.out)
  clear hv h im ik
  go_enter Try.func35, Try.ntmps35
  go_wp2_with fail
  generalize w.alloc (.cells (CGc a b (.slice av ts.length cap) m k) 48) = w1 at HB1 HV ⊢
  refine (iMeasI_pt 105 (fun g n w' => (∃ os, IR w.heap.size w' g n (natI os) ∧ Ordd (keysP a b ts) os)) a b ha ha' hb hb' B _ ts m k IM.out IK.out _ HV.out HO.out (by omega) (enters_of Try.func105 (by kernel_rfl) rfl) (fun w2 hw2 hv2 => ?_)).mono ?_
  · refine (iOrderM_pt a b ha ha' hb hb' B _ ts m k _ hv2 HO.out hn).mono ?_
    rintro e w3 ⟨⟨g, n, os, rfl, h1, h2⟩, hb3⟩
    exact ⟨⟨_, _, rfl, os, ⟨h1.1, Go.Joins.ownsRow_le h1.2 (Nat.le_trans HB1.out.size hw2.size)⟩, h2⟩, hb3⟩
  rintro e w4 ⟨⟨g, n, rfl, hr⟩, hb4⟩
  have HB4 := Lib.hid (HB1.out.trans (hb4.mono HB1.out.size))
  have HR := Lib.hid hr
  clear hr hb4
  go_wp2_with fail
  go_ret2
  exact ⟨⟨_, _, rfl, HR.out⟩, HB4.out⟩

set_option maxHeartbeats 1000000 in
theorem iCountsOf_pt (a b : Int) (ha : 4 ≤ a) (ha' : a ≤ 7) (hb : 4 ≤ b) (hb' : b ≤ 7) (B : Nat) (v : Value) (ts : List Pt) (m k : Nat) (im : Num m) (ik : Num k) (w : World) (hv : POwn B w v ts) (h : oks ts) (hn : ts.length ≤ 48) :
    Calls Try.prog 38 #[CG a b v m k] w fun e w' => (∃ g n, e = .returned (.tuple #[.slice (some ⟨g, 0, none⟩) n n, .bool true]) ∧ IR w.heap.size w' g n (CN (keysP a b ts) n) ∧ (n : Int) = a * b) ∧ Below w.heap.size w w' := by
  obtain ⟨av, cap, rfl, hff⟩ := p_form hv
  have HO := Lib.hid h; have IM := Lib.hid im; have IK := Lib.hid ik
  have HB1 := Lib.hid ((Below.refl w.heap.size w).alloc (Nat.le_refl _) (.cells (CGc a b (.slice av ts.length cap) m k) 48))
  have HV := Lib.hid (r4_below hv HB1.out)
  clear hv h im ik
  go_enter Try.func38, Try.ntmps38
  go_wp2_with fail
  generalize w.alloc (.cells (CGc a b (.slice av ts.length cap) m k) 48) = w1 at HB1 HV ⊢
  refine (iMeasI_pt 109 (fun g n w' => IR w.heap.size w' g n (CN (keysP a b ts) n) ∧ (n : Int) = a * b) a b ha ha' hb hb' B _ ts m k IM.out IK.out _ HV.out HO.out (by omega) (enters_of Try.func109 (by kernel_rfl) rfl) (fun w2 hw2 hv2 => ?_)).mono ?_
  · refine (iCountsM_pt a b ha ha' hb hb' B _ ts m k _ hv2 HO.out hn).mono ?_
    rintro e w3 ⟨⟨g, n, rfl, h1, h2⟩, hb3⟩
    exact ⟨⟨_, _, rfl, ⟨h1.1, Go.Joins.ownsRow_le h1.2 (Nat.le_trans HB1.out.size hw2.size)⟩, h2⟩, hb3⟩
  rintro e w4 ⟨⟨g, n, rfl, hr⟩, hb4⟩
  have HB4 := Lib.hid (HB1.out.trans (hb4.mono HB1.out.size))
  have HR := Lib.hid hr
  clear hr hb4
  go_wp2_with fail
  go_ret2
  exact ⟨⟨_, _, rfl, HR.out⟩, HB4.out⟩

set_option maxHeartbeats 1000000 in
theorem iStartsOf_pt (a b : Int) (ha : 4 ≤ a) (ha' : a ≤ 7) (hb : 4 ≤ b) (hb' : b ≤ 7) (B : Nat) (v : Value) (ts : List Pt) (m k : Nat) (im : Num m) (ik : Num k) (w : World) (hv : POwn B w v ts) (h : oks ts) (hn : ts.length ≤ 48) :
    Calls Try.prog 39 #[CG a b v m k] w fun e w' => (∃ g n, e = .returned (.tuple #[.slice (some ⟨g, 0, none⟩) n n, .bool true]) ∧ IR w.heap.size w' g n (SN (keysP a b ts) n) ∧ (n : Int) = a * b) ∧ Below w.heap.size w w' := by
  obtain ⟨av, cap, rfl, hff⟩ := p_form hv
  have HO := Lib.hid h; have IM := Lib.hid im; have IK := Lib.hid ik
  have HB1 := Lib.hid ((Below.refl w.heap.size w).alloc (Nat.le_refl _) (.cells (CGc a b (.slice av ts.length cap) m k) 48))
  have HV := Lib.hid (r4_below hv HB1.out)
  clear hv h im ik
  go_enter Try.func39, Try.ntmps39
  go_wp2_with fail
  generalize w.alloc (.cells (CGc a b (.slice av ts.length cap) m k) 48) = w1 at HB1 HV ⊢
  refine (iMeasI_pt 110 (fun g n w' => IR w.heap.size w' g n (SN (keysP a b ts) n) ∧ (n : Int) = a * b) a b ha ha' hb hb' B _ ts m k IM.out IK.out _ HV.out HO.out (by omega) (enters_of Try.func110 (by kernel_rfl) rfl) (fun w2 hw2 hv2 => ?_)).mono ?_
  · refine (iStartsM_pt a b ha ha' hb hb' B _ ts m k _ hv2 HO.out hn).mono ?_
    rintro e w3 ⟨⟨g, n, rfl, h1, h2⟩, hb3⟩
    exact ⟨⟨_, _, rfl, ⟨h1.1, Go.Joins.ownsRow_le h1.2 (Nat.le_trans HB1.out.size hw2.size)⟩, h2⟩, hb3⟩
  rintro e w4 ⟨⟨g, n, rfl, hr⟩, hb4⟩
  have HB4 := Lib.hid (HB1.out.trans (hb4.mono HB1.out.size))
  have HR := Lib.hid hr
  clear hr hb4
  go_wp2_with fail
  go_ret2
  exact ⟨⟨_, _, rfl, HR.out⟩, HB4.out⟩
end Go.Proofs.Ytnknhfhllifnhaa
