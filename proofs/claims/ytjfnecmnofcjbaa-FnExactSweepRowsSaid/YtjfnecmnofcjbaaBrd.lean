/-
  Copies of fields, and the program's boards.
-/
import Derived.Test.YtjfnecmnofcjbaaFby
import Derived.Test.YtjfnecmnofcjbaaLevel
import Derived.Laws.Cover3
namespace Go.Proofs.Ytjfnecmnofcjbaa
open Go.Fl Go.RowKit
open Go.Joins (ownsRow_le)
set_option linter.unusedSimpArgs false
set_option linter.unusedVariables false

@[go_sem] theorem eql_nil32 (a : Option Addr) (l c : Nat) (w : World) : (binOp .eql 24 (.slice a l c) (.slice none 0 0)).run Try.prog w = .ok (.bool a.isNone) w := by
  simp [binOp, run_equal_slice_nil w _ _ a l c Try.underlying24, go_sem]

theorem news_of {w : World} {b off : Nat} {xs : List Nat} (h : ∀ i, i < xs.length → w.cell? ⟨b, off + i, none⟩ = some (.float .f32 (xs.getD i 0))) :
    ∀ j u, (xs.map (Value.float .f32))[j]? = some u → w.cell? ((⟨b, off, none⟩ : Addr).add j) = some u := by
  intro j u hu
  rw [List.getElem?_map] at hu
  cases hx : xs[j]? with
  | none => rw [hx] at hu; cases hu
  | some x =>
    rw [hx] at hu
    simp only [Option.map_some, Option.some.injEq] at hu
    have hj : j < xs.length := (List.getElem?_eq_some_iff.1 hx).1
    have := h j hj
    rw [List.getD_eq_getElem?_getD, hx, Option.getD_some] at this
    subst hu
    by_cases hz : j = 0
    · subst hz; simpa [Addr.add] using this
    · simpa [Addr.add, hz] using this

set_option maxHeartbeats 400000 in
set_option maxRecDepth 100000 in
theorem clone_any (u : Value) (xs : List Nat) (w : World) (hu : FS .f32 w u xs) (h0 : 0 < xs.length) (h1 : xs.length ≤ 1048576) :
    Calls Try.prog 173 #[u] w fun e w' => (∃ v, e = .returned v ∧ FOwn w.heap.size w' v xs) ∧ Below w.heap.size w w' := by
  obtain ⟨i0, hi, hz0, hz1, hz2⟩ := info_parts F32info
  obtain ⟨a, cap, rfl, hlc, hcm, hwf, hmem⟩ := hu
  rcases hmem with rfl | ⟨b, off, rfl, hb, hc⟩
  · simp at h0
  have hbel := (Below.refl w.heap.size w).alloc (Nat.le_refl _) (.cells #[] 37)
  have hown0 := own_start w.heap.size w (Nat.le_refl _)
  have hnews := Lib.hid (news_of (w := w.alloc (.cells #[] 37)) (b := b) (off := off) (xs := xs) (fun i hi => by rw [hbel.cell (p := ⟨b, off + i, none⟩) hb]; exact hc i hi))
  have HB := Lib.hid hbel
  have HO := Lib.hid hown0
  clear hc hbel hown0
  go_enter Try.func173, Try.ntmps173
  go_wp2_with (at_builtin; refine wpList_append_lies _ rfl _ _ _ rfl w.heap.size 37 i0 _ 1 4 Try.underlying24 hi hz0 hz1 hz2 rfl (by omega) (.slice (some ⟨w.heap.size, 0, none⟩) 0 0) 0 [] rfl HO.out ⟨b, off, none⟩ xs.length cap (xs.map (Value.float .f32)) rfl (by simp) hnews.out (by intro u hu; obtain ⟨x, _, rfl⟩ := List.mem_map.1 hu; rfl) h0 (by unfold maxLen; omega) (by omega) (by simp) (w.heap.size + 1) (by simp) ?_; intro g2 cap2 w3 hown hgrow hat hltg)
  have hb5 := HB.out.grown hgrow HB.out.size (fun k hk => (HO.out.lt k hk).1)
  go_ret
  exact ⟨⟨_, rfl, by unfold FOwn; simpa using hown⟩, hb5⟩

set_option maxHeartbeats 400000 in
set_option maxRecDepth 100000 in
theorem sOwn_any (u : Value) (xs : List Nat) (w : World) (hu : FS .f32 w u xs) (h0 : 0 < xs.length) (h1 : xs.length ≤ 1048576) :
    Calls Try.prog 89 #[u] w fun e w' => (∃ v, e = .returned v ∧ FOwn w.heap.size w' v xs) ∧ Below w.heap.size w w' := by
  obtain ⟨i0, hi, hz0, hz1, hz2⟩ := info_parts F32info
  obtain ⟨a, cap, rfl, hlc, hcm, hwf, hmem⟩ := hu
  rcases hmem with rfl | ⟨b, off, rfl, hb, hc⟩
  · simp at h0
  have hbel := (Below.refl w.heap.size w).alloc (Nat.le_refl _) (.cells #[] 37)
  have hown0 := own_start w.heap.size w (Nat.le_refl _)
  have hnews := Lib.hid (news_of (w := w.alloc (.cells #[] 37)) (b := b) (off := off) (xs := xs) (fun i hi => by rw [hbel.cell (p := ⟨b, off + i, none⟩) hb]; exact hc i hi))
  have HB := Lib.hid hbel
  have HO := Lib.hid hown0
  clear hc hbel hown0
  go_enter Try.func89, Try.ntmps89
  go_wp2_with (at_builtin; refine wpList_append_lies _ rfl _ _ _ rfl w.heap.size 37 i0 _ 1 4 Try.underlying24 hi hz0 hz1 hz2 rfl (by omega) (.slice (some ⟨w.heap.size, 0, none⟩) 0 0) 0 [] rfl HO.out ⟨b, off, none⟩ xs.length cap (xs.map (Value.float .f32)) rfl (by simp) hnews.out (by intro u hu; obtain ⟨x, _, rfl⟩ := List.mem_map.1 hu; rfl) h0 (by unfold maxLen; omega) (by omega) (by simp) (w.heap.size + 1) (by simp) ?_; intro g2 cap2 w3 hown hgrow hat hltg)
  have hb5 := HB.out.grown hgrow HB.out.size (fun k hk => (HO.out.lt k hk).1)
  go_ret
  exact ⟨⟨_, rfl, by unfold FOwn; simpa using hown⟩, hb5⟩

theorem four_cells {w : World} {k : Nat} {v0 v1 v2 v3 : Value} {t : TypeId} (h : w.heap[k]? = some (.cells #[v0, v1, v2, v3] t)) : w.cell? ⟨k, 0, none⟩ = some v0 ∧ w.cell? ⟨k, 1, none⟩ = some v1 ∧ w.cell? ⟨k, 2, none⟩ = some v2 ∧ w.cell? ⟨k, 3, none⟩ = some v3 ∧
    w.frozen? ⟨k, 0, none⟩ = false ∧ w.frozen? ⟨k, 1, none⟩ = false ∧ w.frozen? ⟨k, 2, none⟩ = false ∧ w.frozen? ⟨k, 3, none⟩ = false :=
  ⟨by rw [Go.Joins.cell_of_block h]; rfl, by rw [Go.Joins.cell_of_block h]; rfl, by rw [Go.Joins.cell_of_block h]; rfl, by rw [Go.Joins.cell_of_block h]; rfl, by simp [World.frozen?, h], by simp [World.frozen?, h], by simp [World.frozen?, h], by simp [World.frozen?, h]⟩

/-- The value of a board. -/
abbrev BV (a b : Int) (v l : Value) : Value := .agg #[.int .i64 a, .int .i64 b, v, l]

set_option maxHeartbeats 1000000 in
set_option maxRecDepth 100000 in
theorem newBoard_yes (a b : Int) (u v : Value) (xs zs : List Nat) (w : World) (hu : FS .f32 w u xs) (hv : FS .f32 w v zs) (h1 : fieldOk a b xs.length = true) (h2 : fieldOk a b zs.length = true) :
    Calls Try.prog 92 #[GV a b, u, v] w fun e w' => (∃ p q, e = .returned (.tuple #[BV a b p q, .bool true]) ∧ FOwn w.heap.size w' p xs ∧ FRes w.heap.size w' q zs.length (lvlF zs) ∧ (q.ownBlock = none ∨ q.ownBlock ≠ p.ownBlock) ∧ (p.ownBlock = none ∨ p.ownBlock ≠ q.ownBlock)) ∧ Below w.heap.size w w' := by
  have HU := Lib.hid hu; have HV := Lib.hid hv
  have H1 := Lib.hid h1; have H2 := Lib.hid (show okWithoutMean a b zs = true from h2)
  have HLE := Lib.hid (show lenWithoutMean a b zs = zs.length by unfold lenWithoutMean; rw [show okWithoutMean a b zs = true from h2, if_pos rfl])
  have HA := Lib.hid (fieldOk_true h1); have HA2 := Lib.hid (fieldOk_true h2)
  obtain ⟨a1, c1, rfl, hlc, hcm, hwf, hmem⟩ := hu
  clear hv hlc hcm hwf hmem h1 h2
  go_enter Try.func92, Try.ntmps92
  go_wp2_with fail
  obtain ⟨n1, n2, n3, n4⟩ := two_new w (.cells #[.int .i64 a, .int .i64 b] 27) (.cells #[.int .i64 0, .int .i64 0, .slice none 0 0, .slice none 0 0] 108)
  have HG := Lib.hid n1; have HR := Lib.hid n2; have HB := Lib.hid n3; have HS := Lib.hid n4
  clear n1 n2 n3 n4
  generalize (w.alloc (.cells #[.int .i64 a, .int .i64 b] 27)).alloc (.cells #[.int .i64 0, .int .i64 0, .slice none 0 0, .slice none 0 0] 108) = w1 at HG HR HB HS ⊢
  refine (iWithoutMean_any a b _ zs _ (HV.out.below HB.out) (by have := HA2.out; omega)).mono ?_; rw [H2.out, HLE.out]; rintro e w2 ⟨⟨q, rfl, hq⟩, hb2⟩
  obtain ⟨aq, cq, rfl⟩ : ∃ aq cq, q = .slice aq zs.length cq := by
    obtain ⟨rs, hl, he, ho⟩ := hq
    obtain ⟨aq, cq, e, _⟩ := fown_form ho
    exact ⟨aq, cq, by rw [e, hl]⟩
  have HQ := Lib.hid hq
  have hs := HS.out
  have BG := Lib.hid ((hb2.block w.heap.size (by omega)).trans HG.out)
  have BR := Lib.hid ((hb2.block (w.heap.size + 1) (by omega)).trans HR.out)
  have BB := Lib.hid (HB.out.trans (hb2.mono HB.out.size))
  have c0 := (pair_cells BG.out).1; have c1' := (pair_cells BG.out).2.1
  clear hb2 hs hq
  go_wp2_with fail
  refine (iIsField_any a b a1 xs.length c1 _).mono ?_; rw [H1.out]; rintro e w3 ⟨rfl, hb3⟩
  have HQ3 := Lib.hid (fres_below HQ.out hb3)
  have CG := Lib.hid ((hb3.block w.heap.size (Array.getElem?_eq_some_iff.1 BG.out).1).trans BG.out)
  have CR := Lib.hid ((hb3.block (w.heap.size + 1) (Array.getElem?_eq_some_iff.1 BR.out).1).trans BR.out)
  have CB := Lib.hid (BB.out.trans (hb3.mono BB.out.size))
  clear hb3 c0 c1'
  have c0 := (pair_cells CG.out).1; have c1' := (pair_cells CG.out).2.1
  go_wp2_with fail
  refine wp_region_noPanic ?_
  refine wp_region_held_drew (S := fun w' => w'.cell? ⟨w.heap.size, 0, none⟩ = some (.int .i64 a) ∧ w'.cell? ⟨w.heap.size, 1, none⟩ = some (.int .i64 b)) (by kernel_rfl) ⟨c0, c1'⟩ (fun hHeld => ?_)
  have hd := (Below.refl w3.heap.size w3).drew
  have HQ4 := Lib.hid (fres_below HQ3.out hd)
  have DG := Lib.hid ((hd.block w.heap.size (Array.getElem?_eq_some_iff.1 CG.out).1).trans CG.out)
  have DR := Lib.hid ((hd.block (w.heap.size + 1) (Array.getElem?_eq_some_iff.1 CR.out).1).trans CR.out)
  have DB := Lib.hid (CB.out.trans (hd.mono CB.out.size))
  clear hd c0 c1'
  generalize w3.drew = v0 at hHeld HQ4 DG DR DB ⊢
  ((refine wpAnyH_take (i := 0) (v := ?_) rfl (by kernel_rfl) (by kernel_rfl) (by kernel_rfl) (fun _ _ _ h => h) (Or.inl ⟨by rfl, ?_⟩) (by assumption) ?_; rotate_left; (· intro w hSw; (try dsimp only at hSw); go_simp; first | done | with_reducible rfl); (try simp only [List.getElem_toArray, List.getElem_cons_zero, List.getElem_cons_succ, Act.put, List.setIfInBounds_toArray, List.set_cons_zero, List.set_cons_succ])); (refine wpAnyH_take (i := 1) (v := ?_) rfl (by kernel_rfl) (by kernel_rfl) (by kernel_rfl) (fun _ _ _ h => h) (Or.inl ⟨by rfl, ?_⟩) (by assumption) ?_; rotate_left; (· intro w hSw; (try dsimp only at hSw); go_simp; first | done | with_reducible rfl); (try simp only [List.getElem_toArray, List.getElem_cons_zero, List.getElem_cons_succ, Act.put, List.setIfInBounds_toArray, List.set_cons_zero, List.set_cons_succ])); (refine wpAnyH_take (i := 3) (v := ?_) rfl (by kernel_rfl) (by kernel_rfl) (by kernel_rfl) (fun _ _ _ h => h) (Or.inl ⟨by rfl, ?_⟩) (by assumption) ?_; rotate_left; (· intro w hSw; (try dsimp only at hSw); go_simp; first | done | with_reducible rfl); (try simp only [List.getElem_toArray, List.getElem_cons_zero, List.getElem_cons_succ, Act.put, List.setIfInBounds_toArray, List.set_cons_zero, List.set_cons_succ])))
  (refine wpAnyH_ready (rs := [2]) (by kernel_rfl) (by simp) ?_; refine AllReadyH.cons (i := 2) rfl (fun K hK => ?_) AllReadyH.nil)
  go_simp
  refine (clone_any _ xs _ (HU.out.below DB.out) (by have := HA.out; have : 4 * 4 ≤ a * b := Int.mul_le_mul (by omega) (by omega) (by omega) (by omega); omega) (by have := HA.out; omega)).mono ?_; rintro e w5 ⟨⟨p, rfl, hp⟩, hb5⟩
  obtain ⟨ap, cp, rfl⟩ : ∃ ap cp, p = .slice ap xs.length cp := by
    obtain ⟨ap, cp, e, _⟩ := fown_form hp
    exact ⟨ap, cp, e⟩
  have HPP := Lib.hid hp
  have HQ5 := Lib.hid (fres_below HQ4.out hb5)
  have EG := Lib.hid ((hb5.block w.heap.size (Array.getElem?_eq_some_iff.1 DG.out).1).trans DG.out)
  have ER := Lib.hid ((hb5.block (w.heap.size + 1) (Array.getElem?_eq_some_iff.1 DR.out).1).trans DR.out)
  have EB := Lib.hid (DB.out.trans (hb5.mono DB.out.size))
  have HQP := Lib.hid (show ((Value.slice aq zs.length cq).ownBlock = none ∨ (Value.slice aq zs.length cq).ownBlock ≠ (Value.slice ap xs.length cp).ownBlock) ∧ ((Value.slice ap xs.length cp).ownBlock = none ∨ (Value.slice ap xs.length cp).ownBlock ≠ (Value.slice aq zs.length cq).ownBlock) by
    obtain ⟨rs, h1, h2, h3⟩ := HQ4.out
    exact ⟨apart h3.lt hp.lt (.inl (Nat.le_refl _)), apart hp.lt h3.lt (.inr (Nat.le_refl _))⟩)
  have KQ := Lib.hid (show w.heap.size + 1 < w1.heap.size by have := HS.out; omega)
  have KP := Lib.hid (show w.heap.size + 1 < v0.heap.size from (Array.getElem?_eq_some_iff.1 DR.out).1)
  clear hp hb5
  go_wp2_with fail
  (refine hK.out _ _ (⟨And.left (pair_cells EG.out), And.left (And.right (pair_cells EG.out))⟩) (fun hHeld => ?_); clear hK K; (try simp only [List.getElem_toArray, List.getElem_cons_zero, List.getElem_cons_succ, Act.put, List.setIfInBounds_toArray, List.set_cons_zero, List.set_cons_succ]))
  ((refine wpAnyH_take (i := 4) (v := ?_) rfl (by kernel_rfl) (by kernel_rfl) (by kernel_rfl) (fun _ _ _ h => h) (Or.inl ⟨by rfl, ?_⟩) (by assumption) ?_; rotate_left; (· intro w hSw; (try dsimp only at hSw); go_simp; first | done | with_reducible rfl); (try simp only [List.getElem_toArray, List.getElem_cons_zero, List.getElem_cons_succ, Act.put, List.setIfInBounds_toArray, List.set_cons_zero, List.set_cons_succ])))
  have y := four_cells ER.out
  have y0 := y.1; have y1 := y.2.1; have y2 := y.2.2.1; have y3 := y.2.2.2.1
  have f0 := y.2.2.2.2.1; have f1 := y.2.2.2.2.2.1; have f2 := y.2.2.2.2.2.2.1; have f3 := y.2.2.2.2.2.2.2
  clear y
  (refine wpAnyH_ready (rs := [5]) (by kernel_rfl) (by simp) ?_; refine AllReadyH.cons (i := 5) rfl (fun K hK => ?_) AllReadyH.nil)
  go_simp
  have hn1 : w.heap.size ≠ w.heap.size + 1 := by omega
  have FG := Lib.hid (show ((((w5.setCell ⟨w.heap.size + 1, 0, none⟩ (.int .i64 a)).setCell ⟨w.heap.size + 1, 1, none⟩ (.int .i64 b)).setCell ⟨w.heap.size + 1, 2, none⟩ (.slice ap xs.length cp)).setCell ⟨w.heap.size + 1, 3, none⟩ (.slice aq zs.length cq)).heap[w.heap.size]? = some (.cells #[.int .i64 a, .int .i64 b] 27) by
    rw [Below.heap_setCell _ _ _ _ hn1, Below.heap_setCell _ _ _ _ hn1, Below.heap_setCell _ _ _ _ hn1, Below.heap_setCell _ _ _ _ hn1]; exact EG.out)
  have q0 : ((((w5.setCell ⟨w.heap.size + 1, 0, none⟩ (.int .i64 a)).setCell ⟨w.heap.size + 1, 1, none⟩ (.int .i64 b)).setCell ⟨w.heap.size + 1, 2, none⟩ (.slice ap xs.length cp)).setCell ⟨w.heap.size + 1, 3, none⟩ (.slice aq zs.length cq)).cell? ⟨w.heap.size + 1, 0, none⟩ = some (.int .i64 a) := by go_simp
  have q1 : ((((w5.setCell ⟨w.heap.size + 1, 0, none⟩ (.int .i64 a)).setCell ⟨w.heap.size + 1, 1, none⟩ (.int .i64 b)).setCell ⟨w.heap.size + 1, 2, none⟩ (.slice ap xs.length cp)).setCell ⟨w.heap.size + 1, 3, none⟩ (.slice aq zs.length cq)).cell? ⟨w.heap.size + 1, 1, none⟩ = some (.int .i64 b) := by go_simp
  have q2 : ((((w5.setCell ⟨w.heap.size + 1, 0, none⟩ (.int .i64 a)).setCell ⟨w.heap.size + 1, 1, none⟩ (.int .i64 b)).setCell ⟨w.heap.size + 1, 2, none⟩ (.slice ap xs.length cp)).setCell ⟨w.heap.size + 1, 3, none⟩ (.slice aq zs.length cq)).cell? ⟨w.heap.size + 1, 2, none⟩ = some (.slice ap xs.length cp) := by go_simp
  have q3 : ((((w5.setCell ⟨w.heap.size + 1, 0, none⟩ (.int .i64 a)).setCell ⟨w.heap.size + 1, 1, none⟩ (.int .i64 b)).setCell ⟨w.heap.size + 1, 2, none⟩ (.slice ap xs.length cp)).setCell ⟨w.heap.size + 1, 3, none⟩ (.slice aq zs.length cq)).cell? ⟨w.heap.size + 1, 3, none⟩ = some (.slice aq zs.length cq) := by go_simp
  have HX := Lib.hid ((((EB.out.setCell (p := ⟨w.heap.size + 1, 0, none⟩) (by simp) (.int .i64 a)).setCell (p := ⟨w.heap.size + 1, 1, none⟩) (by simp) (.int .i64 b)).setCell (p := ⟨w.heap.size + 1, 2, none⟩) (by simp) (.slice ap xs.length cp)).setCell (p := ⟨w.heap.size + 1, 3, none⟩) (by simp) (.slice aq zs.length cq))
  have HQ6 := Lib.hid (fres_le (fres_cell (fres_cell (fres_cell (fres_cell HQ5.out KQ.out (p := ⟨w.heap.size + 1, 0, none⟩) (.int .i64 a)) KQ.out (p := ⟨w.heap.size + 1, 1, none⟩) (.int .i64 b)) KQ.out (p := ⟨w.heap.size + 1, 2, none⟩) (.slice ap xs.length cp)) KQ.out (p := ⟨w.heap.size + 1, 3, none⟩) (.slice aq zs.length cq)) HB.out.size)
  have HP6 := Lib.hid (ownsRow_le (own_cell (own_cell (own_cell (own_cell HPP.out (p := ⟨w.heap.size + 1, 0, none⟩) KP.out (.int .i64 a)) (p := ⟨w.heap.size + 1, 1, none⟩) KP.out (.int .i64 b)) (p := ⟨w.heap.size + 1, 2, none⟩) KP.out (.slice ap xs.length cp)) (p := ⟨w.heap.size + 1, 3, none⟩) KP.out (.slice aq zs.length cq)) DB.out.size)
  generalize (((w5.setCell ⟨w.heap.size + 1, 0, none⟩ (.int .i64 a)).setCell ⟨w.heap.size + 1, 1, none⟩ (.int .i64 b)).setCell ⟨w.heap.size + 1, 2, none⟩ (.slice ap xs.length cp)).setCell ⟨w.heap.size + 1, 3, none⟩ (.slice aq zs.length cq) = w6 at FG q0 q1 q2 q3 HX HQ6 HP6 ⊢
  clear y0 y1 y2 y3 f0 f1 f2 f3
  (refine hK.out _ _ (⟨And.left (pair_cells FG.out), And.left (And.right (pair_cells FG.out))⟩) (fun hHeld => ?_); clear hK K; (try simp only [List.getElem_toArray, List.getElem_cons_zero, List.getElem_cons_succ, Act.put, List.setIfInBounds_toArray, List.set_cons_zero, List.set_cons_succ]))
  ((refine wpAnyH_take (i := 6) (v := ?_) rfl (by kernel_rfl) (by kernel_rfl) (by kernel_rfl) (fun _ _ _ h => h) (Or.inl ⟨by rfl, ?_⟩) (by assumption) ?_; rotate_left; (· intro w hSw; (try dsimp only at hSw); go_simp; first | done | with_reducible rfl); (try simp only [List.getElem_toArray, List.getElem_cons_zero, List.getElem_cons_succ, Act.put, List.setIfInBounds_toArray, List.set_cons_zero, List.set_cons_succ])))
  (refine wpAnyH_done (by kernel_rfl) ?_ _; refine NoPanic.normal ?_)
  clear hHeld
  go_wp2_with fail
  refine bodyPost_ret (v := .tuple #[BV a b (.slice ap xs.length cp) (.slice aq zs.length cq), .bool true]) (by simp [results, Try.results92, go_sem, q0, q1, q2, q3]) rfl ?_
  exact ⟨⟨_, _, rfl, HP6.out, HQ6.out, HQP.out.1, HQP.out.2⟩, HX.out⟩

set_option maxHeartbeats 1000000 in
theorem newBoard_no (a b : Int) (u v : Value) (xs zs : List Nat) (w : World) (hu : FS .f32 w u xs) (hv : FS .f32 w v zs) (hz : zs.length ≤ 1048576) (h : (fieldOk a b xs.length && fieldOk a b zs.length) = false) :
    Calls Try.prog 92 #[GV a b, u, v] w fun e w' => e = .returned (.tuple #[BV 0 0 (.slice none 0 0) (.slice none 0 0), .bool false]) ∧ Below w.heap.size w w' := by
  have HU := Lib.hid hu; have HV := Lib.hid hv
  obtain ⟨a1, c1, rfl, hlc, hcm, hwf, hmem⟩ := hu
  obtain ⟨n1, n2, n3, n4⟩ := two_new w (.cells #[.int .i64 a, .int .i64 b] 27) (.cells #[.int .i64 0, .int .i64 0, .slice none 0 0, .slice none 0 0] 108)
  have HG := Lib.hid n1; have HR := Lib.hid n2; have HB := Lib.hid n3; have HS := Lib.hid n4
  clear hv hlc hcm hwf hmem n1 n2 n3 n4
  cases h2 : fieldOk a b zs.length with
  | true =>
    have h1 : fieldOk a b xs.length = false := by rw [h2] at h; simpa using h
    have H1 := Lib.hid h1; have H2 := Lib.hid (show okWithoutMean a b zs = true from h2)
    clear h h1 h2
    go_enter Try.func92, Try.ntmps92
    go_wp2_with fail
    generalize (w.alloc (.cells #[.int .i64 a, .int .i64 b] 27)).alloc (.cells #[.int .i64 0, .int .i64 0, .slice none 0 0, .slice none 0 0] 108) = w1 at HG HR HB HS ⊢
    refine (iWithoutMean_any a b _ zs _ (HV.out.below HB.out) hz).mono ?_; rw [H2.out]; rintro e w2 ⟨⟨q, rfl, hq⟩, hb2⟩
    have hs := HS.out
    have BG := Lib.hid ((hb2.block w.heap.size (by omega)).trans HG.out)
    have BR := Lib.hid ((hb2.block (w.heap.size + 1) (by omega)).trans HR.out)
    have BB := Lib.hid (HB.out.trans (hb2.mono HB.out.size))
    have c0 := (pair_cells BG.out).1; have c1' := (pair_cells BG.out).2.1
    clear hb2 hs hq
    go_wp2_with fail
    refine (iIsField_any a b a1 xs.length c1 _).mono ?_; rw [H1.out]; rintro e w3 ⟨rfl, hb3⟩
    have CR := Lib.hid ((hb3.block (w.heap.size + 1) (Array.getElem?_eq_some_iff.1 BR.out).1).trans BR.out)
    have CB := Lib.hid (BB.out.trans (hb3.mono BB.out.size))
    clear hb3 c0 c1'
    have y := four_cells CR.out
    have y0 := y.1; have y1 := y.2.1; have y2 := y.2.2.1; have y3 := y.2.2.2.1
    have f0 := y.2.2.2.2.1; have f1 := y.2.2.2.2.2.1; have f2 := y.2.2.2.2.2.2.1; have f3 := y.2.2.2.2.2.2.2
    clear y
    go_wp2_with fail
    refine bodyPost_ret (v := .tuple #[BV 0 0 (.slice none 0 0) (.slice none 0 0), .bool false]) (by simp [results, Try.results92, go_sem, y0, y1, y2, y3]) rfl ?_
    exact ⟨rfl, (((CB.out.setCell (p := ⟨w.heap.size + 1, 0, none⟩) (by simp) _).setCell (p := ⟨w.heap.size + 1, 1, none⟩) (by simp) _).setCell (p := ⟨w.heap.size + 1, 2, none⟩) (by simp) _).setCell (p := ⟨w.heap.size + 1, 3, none⟩) (by simp) _⟩
  | false =>
    have H2 := Lib.hid (show okWithoutMean a b zs = false from h2)
    clear h h2
    go_enter Try.func92, Try.ntmps92
    go_wp2_with fail
    generalize (w.alloc (.cells #[.int .i64 a, .int .i64 b] 27)).alloc (.cells #[.int .i64 0, .int .i64 0, .slice none 0 0, .slice none 0 0] 108) = w1 at HG HR HB HS ⊢
    refine (iWithoutMean_any a b _ zs _ (HV.out.below HB.out) hz).mono ?_; rw [H2.out]; rintro e w2 ⟨⟨q, rfl, hq⟩, hb2⟩
    have hs := HS.out
    have BR := Lib.hid ((hb2.block (w.heap.size + 1) (by omega)).trans HR.out)
    have BB := Lib.hid (HB.out.trans (hb2.mono HB.out.size))
    clear hb2 hs hq
    have y := four_cells BR.out
    have y0 := y.1; have y1 := y.2.1; have y2 := y.2.2.1; have y3 := y.2.2.2.1
    have f0 := y.2.2.2.2.1; have f1 := y.2.2.2.2.2.1; have f2 := y.2.2.2.2.2.2.1; have f3 := y.2.2.2.2.2.2.2
    clear y
    go_wp2_with fail
    refine bodyPost_ret (v := .tuple #[BV 0 0 (.slice none 0 0) (.slice none 0 0), .bool false]) (by simp [results, Try.results92, go_sem, y0, y1, y2, y3]) rfl ?_
    exact ⟨rfl, (((BB.out.setCell (p := ⟨w.heap.size + 1, 0, none⟩) (by simp) _).setCell (p := ⟨w.heap.size + 1, 1, none⟩) (by simp) _).setCell (p := ⟨w.heap.size + 1, 2, none⟩) (by simp) _).setCell (p := ⟨w.heap.size + 1, 3, none⟩) (by simp) _⟩
end Go.Proofs.Ytjfnecmnofcjbaa
