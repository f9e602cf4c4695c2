/-
  What potentials are the potential of: told point by point by the program.
-/
import Derived.Test.YtjfnecmnofcjbaaIter
namespace Go.Proofs.Ytjfnecmnofcjbaa
open Go.Fl Go.RowKit
open Go.Shelf
set_option linter.unusedSimpArgs false
set_option linter.unusedVariables false
attribute [local go_sem] Oper.semAt_some

theorem KeepsOthers_drewN (W : World) (m : Nat) : KeepsOthers W (W.drewN m) := ⟨Nat.le_refl _, fun _ _ h _ => h⟩
/-- A number less those of a list. -/
def subs (s : Nat) (xs : List W32) : Nat := xs.foldl (fun s x => fop .sub .f32 s (cn .f32 x.1)) s
theorem subs_snoc (s : Nat) (xs : List W32) (x : W32) : subs s (xs ++ [x]) = fop .sub .f32 (subs s xs) (cn .f32 x.1) := by simp [subs]
/-- Four times a number less its neighbours. -/
def lapV (a b : Int) (xs : List Nat) (j : Nat) : Nat :=
  fop .sub .f32 (fop .sub .f32 (fop .sub .f32 (fop .sub .f32 (fop .mul .f32 1082130432 (cn .f32 (xs.getD j 0))) (nbF a b xs (-1) 0 j)) (nbF a b xs 1 0 j)) (nbF a b xs 0 (-1) j)) (nbF a b xs 0 1 j)

set_option maxHeartbeats 4000000 in
set_option maxRecDepth 100000 in
theorem lap1_any (a b : Int) (t : Value) (xs : List Nat) (c1 c2 : Value) (w : World) (hu : FS .f32 w t xs) (h1 : fieldOk a b xs.length = true) (hc1 : BX w c1 t) (hc2 : GP w c2 a b) :
    Tells w 221 c1 c2 a b (lapV a b xs) := by
  refine ⟨enters_of Try.func221 (by kernel_rfl) rfl, ?_⟩
  intro u v j wr hu1 hv1 hj hbel
  have HU := Lib.hid hu
  have HA := Lib.hid (fieldOk_true h1)
  obtain ⟨a1, cap1, rfl, hlc, hcm, hwf, hmem⟩ := hu
  have hb1 := hc1.below hbel
  have hg1 := hc2.below hbel
  obtain ⟨k1, rfl, hk1, hc⟩ := hb1
  obtain ⟨k2, rfl, hk2, hg0, hg1⟩ := hg1
  have hA : 4 ≤ a ∧ a ≤ 16 ∧ 4 ≤ b ∧ b ≤ 16 := ⟨HA.out.1, HA.out.2.1, HA.out.2.2.1, HA.out.2.2.2.1⟩
  obtain ⟨e0, m0⟩ := nbI_facts (-1) 0 u v hA.1 hA.2.2.1
  obtain ⟨e1, m1⟩ := nbI_facts 1 0 u v hA.1 hA.2.2.1
  obtain ⟨e2, m2⟩ := nbI_facts 0 (-1) u v hA.1 hA.2.2.1
  obtain ⟨e3, m3⟩ := nbI_facts 0 1 u v hA.1 hA.2.2.1
  clear e0 e1 e2 e3
  have hF : lapV a b xs j = fop .sub .f32 (fop .sub .f32 (fop .sub .f32 (fop .sub .f32 (fop .mul .f32 1082130432 (cn .f32 (xs.getD j 0))) (nbF a b xs (-1) 0 j)) (nbF a b xs 1 0 j)) (nbF a b xs 0 (-1) j)) (nbF a b xs 0 1 j) := rfl
  rw [nbF_at xs (-1) 0 hA.1 hu1 hj, nbF_at xs 1 0 hA.1 hu1 hj, nbF_at xs 0 (-1) hA.1 hu1 hj, nbF_at xs 0 1 hA.1 hu1 hj] at hF
  have HNB := Lib.hid (fun w0 => neighbours_any a b a1 xs.length cap1 u v w0 (by rw [fieldOk, Bool.and_eq_true] at h1; exact h1.1) hu1 hv1)
  generalize nbI a b (-1) 0 u v = n0 at m0 hF HNB
  generalize nbI a b 1 0 u v = n1 at m1 hF HNB
  generalize nbI a b 0 (-1) u v = n2 at m2 hF HNB
  generalize nbI a b 0 1 u v = n3 at m3 hF HNB
  have hlen := HA.out.2.2.2.2.1
  have hm : a * ((v : Int) + 1) ≤ a * b := Int.mul_le_mul_of_nonneg_left (by omega) (by omega)
  rw [Int.mul_add, Int.mul_one] at hm
  have ljj : j < xs.length := by omega
  have l0 : n0 < xs.length := by omega
  have l1 : n1 < xs.length := by omega
  have l2 : n2 < xs.length := by omega
  have l3 : n3 < xs.length := by omega
  have HJ := Lib.hid (show (j : Int) = (u : Int) % a + a * ((v : Int) % b) by rw [Int.emod_eq_of_lt (by omega) hu1, Int.emod_eq_of_lt (by omega) hv1]; omega)
  obtain ⟨bk, ok, e5, hcx⟩ := FS.at HU.out hbel ljj
  obtain rfl := e5
  have HC := Lib.hid (FS.ever HU.out ljj)
  have C0 := Lib.hid (FS.ever HU.out l0)
  have C1 := Lib.hid (FS.ever HU.out l1)
  have C2 := Lib.hid (FS.ever HU.out l2)
  have C3 := Lib.hid (FS.ever HU.out l3)
  have hbk : bk < w.heap.size := by
    rcases hmem with h | ⟨b', o', e, hlt, _⟩
    · rw [h] at ljj; exact absurd ljj (Nat.not_lt_zero _)
    · cases e; exact hlt
  have ix := FS.is hwf j ljj
  have G0 : xs.getD n0 0 < 2 ^ FloatKind.f32.format.width := hwf _ (by rw [List.getD_eq_getElem?_getD, List.getElem?_eq_getElem l0]; exact List.getElem_mem l0)
  have G1 : xs.getD n1 0 < 2 ^ FloatKind.f32.format.width := hwf _ (by rw [List.getD_eq_getElem?_getD, List.getElem?_eq_getElem l1]; exact List.getElem_mem l1)
  have G2 : xs.getD n2 0 < 2 ^ FloatKind.f32.format.width := hwf _ (by rw [List.getD_eq_getElem?_getD, List.getElem?_eq_getElem l2]; exact List.getElem_mem l2)
  have G3 : xs.getD n3 0 < 2 ^ FloatKind.f32.format.width := hwf _ (by rw [List.getD_eq_getElem?_getD, List.getElem?_eq_getElem l3]; exact List.getElem_mem l3)
  generalize cn .f32 (xs.getD j 0) = X at ix hF
  generalize xs.getD j 0 = x0 at hcx ix HC
  generalize xs.getD n0 0 = y0 at hF C0 G0
  generalize xs.getD n1 0 = y1 at hF C1 G1
  generalize xs.getD n2 0 = y2 at hF C2 G2
  generalize xs.getD n3 0 = y3 at hF C3 G3
  have HF := Lib.hid (show lapV a b xs j = subs (fop .mul .f32 1082130432 X) [⟨y0, G0⟩, ⟨y1, G1⟩, ⟨y2, G2⟩, ⟨y3, G3⟩] from hF)
  have i1 : (0 : Int) ≤ (j : Int) := Int.natCast_nonneg _
  have i2 : (j : Int) < (xs.length : Int) := by omega
  have HJJ := Lib.hid hj
  clear hF m0 m1 m2 m3 hmem hlc hcm h1 hc1 hc2 hm hlen hj
  have hd3 := (Below.refl wr.heap.size wr).drew
  refine (callsIn_wide (n := 5)).1 ?_
  refine callsIn_of_wp_marks Try.func221 rfl trivial ?_ rfl
  simp only [Try.ntmps221, List.size_toArray, List.length_cons, List.length_nil, Nat.reduceAdd, Nat.reduceSub, Array.replicate_succ, Array.replicate_zero, List.push_toArray, List.append_toArray, List.nil_append, List.cons_append]
  gi_wp2_with fail
  refine wpIn_wide.2 ?_
  refine wp_region_noPanic ?_
  refine wp_region_held_drew (S := fun w' => w'.cell? ⟨k1, 0, none⟩ = some (.slice (some ⟨bk, ok, none⟩) xs.length cap1) ∧ w'.cell? ⟨k2, 0, none⟩ = some (.int .i64 a) ∧ w'.cell? ⟨k2, 1, none⟩ = some (.int .i64 b) ∧ w'.cell? ⟨bk, ok + j, none⟩ = some (.float .f32 x0)) (by kernel_rfl) ⟨hc, hg0, hg1, hcx⟩ (fun hHeld => ?_)
  have HD0 := Lib.hid hd3
  clear hd3
  generalize wr.drew = v0 at HD0 hHeld ⊢
  ((refine wpAnyH_take (i := 0) (v := ?_) rfl (by kernel_rfl) (by kernel_rfl) (by kernel_rfl) (fun _ _ _ h => h) (Or.inl ⟨by rfl, ?_⟩) (by assumption) ?_; rotate_left; (· intro w hSw; (try dsimp only at hSw); go_simp; first | done | with_reducible rfl); (try simp only [List.getElem_toArray, List.getElem_cons_zero, List.getElem_cons_succ, Act.put, List.setIfInBounds_toArray, List.set_cons_zero, List.set_cons_succ])); (refine wpAnyH_take (i := 1) (v := ?_) rfl (by kernel_rfl) (by kernel_rfl) (by kernel_rfl) (fun _ _ _ h => h) (Or.inl ⟨by rfl, ?_⟩) (by assumption) ?_; rotate_left; (· intro w hSw; (try dsimp only at hSw); go_simp; first | done | with_reducible rfl); (try simp only [List.getElem_toArray, List.getElem_cons_zero, List.getElem_cons_succ, Act.put, List.setIfInBounds_toArray, List.set_cons_zero, List.set_cons_succ])); (refine wpAnyH_take (i := 2) (v := ?_) rfl (by kernel_rfl) (by kernel_rfl) (by kernel_rfl) (fun _ _ _ h => h) (Or.inl ⟨by rfl, ?_⟩) (by assumption) ?_; rotate_left; (· intro w hSw; (try dsimp only at hSw); go_simp; first | done | with_reducible rfl); (try simp only [List.getElem_toArray, List.getElem_cons_zero, List.getElem_cons_succ, Act.put, List.setIfInBounds_toArray, List.set_cons_zero, List.set_cons_succ])); (refine wpAnyH_take (i := 3) (v := ?_) rfl (by kernel_rfl) (by kernel_rfl) (by kernel_rfl) (fun _ _ _ h => h) (Or.inl ⟨by rfl, ?_⟩) (by assumption) ?_; rotate_left; (· intro w hSw; (try dsimp only at hSw); go_simp; first | done | with_reducible rfl); (try simp only [List.getElem_toArray, List.getElem_cons_zero, List.getElem_cons_succ, Act.put, List.setIfInBounds_toArray, List.set_cons_zero, List.set_cons_succ])))
  refine wpAnyH_ready (rs := [4, 8]) (by kernel_rfl) (by simp) ?_
  refine (AllReadyH.cons (i := 4) rfl (fun K hK => ?_) (AllReadyH.cons (i := 8) rfl (fun K hK => ?_) AllReadyH.nil))
  · skip
    go_simp
    refine (indexOf_any a b (u : Int) (v : Int) j _ ⟨hA.1, hA.2.1⟩ ⟨hA.2.2.1, hA.2.2.2⟩ HJ.out).mono ?_; rintro e v1 ⟨rfl, hb1⟩
    have HD1 := Lib.hid (HD0.out.trans (hb1.mono HD0.out.size))
    clear hb1
    go_wp2_with fail
    (refine hK.out _ _ (⟨by rw [HD1.out.cell (p := ⟨k1, 0, none⟩) hk1]; exact hc, by rw [HD1.out.cell (p := ⟨k2, 0, none⟩) hk2]; exact hg0, by rw [HD1.out.cell (p := ⟨k2, 1, none⟩) hk2]; exact hg1, HC.out _ (hbel.trans (HD1.out.mono hbel.size))⟩) (fun hHeld => ?_); clear hK K; (try simp only [List.getElem_toArray, List.getElem_cons_zero, List.getElem_cons_succ, Act.put, List.setIfInBounds_toArray, List.set_cons_zero, List.set_cons_succ]))
    ((refine wpAnyH_take (i := 5) (v := ?_) rfl (by kernel_rfl) (by kernel_rfl) (by kernel_rfl) (fun _ _ _ h => h) (Or.inl ⟨by rfl, ?_⟩) (by assumption) ?_; rotate_left; (· intro w hSw; (try dsimp only at hSw); go_simp; first | done | with_reducible rfl); (try simp only [List.getElem_toArray, List.getElem_cons_zero, List.getElem_cons_succ, Act.put, List.setIfInBounds_toArray, List.set_cons_zero, List.set_cons_succ])); (refine wpAnyH_take (i := 6) (v := ?_) rfl (by kernel_rfl) (by kernel_rfl) (by kernel_rfl) (fun _ _ _ h => h) (Or.inl ⟨by rfl, ?_⟩) (by assumption) ?_; rotate_left; (· intro w hSw; (try dsimp only at hSw); go_simp; first | done | with_reducible rfl); (try simp only [List.getElem_toArray, List.getElem_cons_zero, List.getElem_cons_succ, Act.put, List.setIfInBounds_toArray, List.set_cons_zero, List.set_cons_succ])))
    refine wpAnyH_ready (rs := [7, 8]) (by kernel_rfl) (by simp) ?_
    refine (AllReadyH.cons (i := 7) rfl (fun K hK => ?_) (AllReadyH.cons (i := 8) rfl (fun K hK => ?_) AllReadyH.nil))
    · skip
      refine hstep_fa rfl .mul 37 37 _ _ rfl rfl .f32 1082130432 x0 rfl rfl (Is.const rfl) ix ?_
      intro r m hr
      have HD2 := Lib.hid (below_drewN HD1.out m)
      generalize v1.drewN m = v2 at HD2 ⊢
      (refine hK.out _ _ (⟨by rw [HD2.out.cell (p := ⟨k1, 0, none⟩) hk1]; exact hc, by rw [HD2.out.cell (p := ⟨k2, 0, none⟩) hk2]; exact hg0, by rw [HD2.out.cell (p := ⟨k2, 1, none⟩) hk2]; exact hg1, HC.out _ (hbel.trans (HD2.out.mono hbel.size))⟩) (fun hHeld => ?_); clear hK K; (try simp only [List.getElem_toArray, List.getElem_cons_zero, List.getElem_cons_succ, Act.put, List.setIfInBounds_toArray, List.set_cons_zero, List.set_cons_succ]))
      refine wpAnyH_ready (rs := [8]) (by kernel_rfl) (by simp) ?_
      refine (AllReadyH.cons (i := 8) rfl (fun K hK => ?_) AllReadyH.nil)
      go_simp
      go_wp2_with fail
      have hb3 := (Below.refl v2.heap.size v2).alloc (Nat.le_refl _) (.cells #[.float .f32 0] 37)
      have HD3 := Lib.hid (HD2.out.trans (hb3.mono HD2.out.size))
      have HA3 := Lib.hid (And.intro (heap_alloc_new v2 (.cells #[.float .f32 0] 37)) (And.intro HD2.out.size (show v2.heap.size < (v2.alloc (.cells #[.float .f32 0] 37)).heap.size by simp)))
      clear hb3
      generalize v2.alloc (.cells #[.float .f32 0] 37) = v3 at HD3 HA3 ⊢
      generalize v2.heap.size = p at HA3 ⊢
      (refine hK.out _ _ (⟨by rw [HD3.out.cell (p := ⟨k1, 0, none⟩) hk1]; exact hc, by rw [HD3.out.cell (p := ⟨k2, 0, none⟩) hk2]; exact hg0, by rw [HD3.out.cell (p := ⟨k2, 1, none⟩) hk2]; exact hg1, HC.out _ (hbel.trans (HD3.out.mono hbel.size))⟩) (fun hHeld => ?_); clear hK K; (try simp only [List.getElem_toArray, List.getElem_cons_zero, List.getElem_cons_succ, Act.put, List.setIfInBounds_toArray, List.set_cons_zero, List.set_cons_succ]))
      have z0 : v3.cell? ⟨p, 0, none⟩ = some (.float .f32 0) := by rw [Joins.cell_of_block HA3.out.1]; rfl
      have f0 : v3.frozen? ⟨p, 0, none⟩ = false := by simp [World.frozen?, HA3.out.1]
      have HD9 := Lib.hid (HD3.out.setCell (p := ⟨p, 0, none⟩) HA3.out.2.1 (.float .f32 r))
      have HA9 := Lib.hid (And.intro (show (v3.setCell ⟨p, 0, none⟩ (.float .f32 r)).heap[p]? = some (.cells #[.float .f32 r] 37) from heap_setCell_same v3 p 0 _ _ (.float .f32 r) HA3.out.1) HA3.out.2.1)
      (refine wpAnyH_ready (rs := [9]) (by kernel_rfl) (by simp) ?_; refine AllReadyH.cons (i := 9) rfl (fun K hK => ?_) AllReadyH.nil)
      go_simp
      (refine hK.out _ _ (⟨by rw [HD9.out.cell (p := ⟨k1, 0, none⟩) hk1]; exact hc, by rw [HD9.out.cell (p := ⟨k2, 0, none⟩) hk2]; exact hg0, by rw [HD9.out.cell (p := ⟨k2, 1, none⟩) hk2]; exact hg1, HC.out _ (hbel.trans (HD9.out.mono hbel.size))⟩) (fun hHeld => ?_); clear hK K; (try simp only [List.getElem_toArray, List.getElem_cons_zero, List.getElem_cons_succ, Act.put, List.setIfInBounds_toArray, List.set_cons_zero, List.set_cons_succ]))
      (refine wpAnyH_done (by kernel_rfl) ?_ _; refine NoPanic.normal ?_)
      clear hHeld z0 f0
      generalize v3.setCell ⟨p, 0, none⟩ (.float .f32 r) = w8 at HD9 HA9 ⊢
      have hc := show w8.cell? ⟨k1, 0, none⟩ = _ from (HD9.out.cell (p := ⟨k1, 0, none⟩) hk1).trans hc
      have hg0 := show w8.cell? ⟨k2, 0, none⟩ = _ from (HD9.out.cell (p := ⟨k2, 0, none⟩) hk2).trans hg0
      have hg1 := show w8.cell? ⟨k2, 1, none⟩ = _ from (HD9.out.cell (p := ⟨k2, 1, none⟩) hk2).trans hg1
      simp only [Exit.then]
      gi_wp2_with (refine ⟨trivial, ?_⟩; gi_at_call 209; refine (callsIn_wide.2 (HNB.out _)).mono ?_; rintro e w9 ⟨q1, q2, rfl, hq1, hq2, h4, hs, hb9⟩)
      have hp8 : p < w8.heap.size := (Array.getElem?_eq_some_iff.1 HA9.out.1).1
      have HE := Lib.hid (HD9.out.trans (hb9.mono HD9.out.size))
      have HP9 := Lib.hid ((hb9.block p hp8).trans HA9.out.1)
      have hq1s : q1 < w9.heap.size := block_lt_of_cell h4.1
      have hq2s : q2 < w9.heap.size := block_lt_of_cell hs
      have hpq : p ≠ q2 := by omega
      have hwp : wr.heap.size ≤ p := HA9.out.2
      have hp9 : p < w9.heap.size := by have := hb9.size; omega
      have HR := Lib.hid hr
      clear hc hg0 hg1 hr
      refine wpIn_rangeFunc_ownF rfl (by omega) (gf := 238) (lb := #[.pointer (some ⟨q1, 0, none⟩), .pointer (some ⟨q2, 0, none⟩)]) rfl trivial (enters_of Try.func238 (by kernel_rfl) rfl) (iter_stops (5 - 1) (by omega) q1 q2 bk ok xs.length cap1 wr.heap.size n0 n1 n2 n3 ⟨y0, G0⟩ ⟨y1, G1⟩ ⟨y2, G2⟩ ⟨y3, G3⟩ w9 hq1s hq2s HE.out.size (Nat.lt_of_lt_of_le hbk hbel.size) h4 hs l0 l1 l2 l3 (C0.out _ (hbel.trans (HE.out.mono hbel.size))) (C1.out _ (hbel.trans (HE.out.mono hbel.size))) (C2.out _ (hbel.trans (HE.out.mono hbel.size))) (C3.out _ (hbel.trans (HE.out.mono hbel.size))))
        (fun h k => ⟨k.1.trans h.1, h.2.trans k.2⟩)
        (fun W l o o' hl h hc hw => ⟨(belowK_b (n₀ := w9.heap.size) (w := w9) (Nat.le_refl _) W l o o' hl h hc hw).cell (p := ⟨q2, 0, none⟩) hq2s, belowK_b (w := w9) HE.out.size W l o o' hl h hc hw⟩)
        (Below.refl _ _) (fun _ => rfl)
        (fun pre W => (∃ r, W.cell? ⟨p, 0, none⟩ = some (.float .f32 r) ∧ W.frozen? ⟨p, 0, none⟩ = false ∧ Is .f32 r (subs (fop .mul .f32 1082130432 X) pre)) ∧ Below wr.heap.size wr W)
        (fun _ _ _ => False)
        (OwnFrom.and (Own.from (fun s A B row hs hg hr => by obtain ⟨r, h1, h2, h3⟩ := hs; exact ⟨r, cell_kept h1 hg hr, (frozen_kept h1 hg hr).trans h2, h3⟩) _) (ownFrom_below (Nat.le_refl _) HE.out.size))
        (fun _ _ _ _ _ hs _ _ => hs)
        ⟨⟨r, by rw [Joins.cell_of_block HP9.out]; rfl, by simp [World.frozen?, HP9.out], HR.out⟩, HE.out⟩
        ?a1 ?assign ?body ?done ?stop
      case assign =>
        intro l x W K hK
        gi_wp2
        exact hK
      case body =>
        rintro l pre x W ⟨⟨r1, hc1, hf1, hr1⟩, hB⟩ _
        have ixx : Is .f32 x.1 (cn .f32 x.1) := Is.of_lt x.2
        gi_wp2_with (apply wpListIn_farith; rfl; rfl; rfl; rfl; (first | with_reducible assumption | exact Is.const rfl); (first | with_reducible assumption | exact Is.const rfl); intro r2 m2 hr2)
        have hb2 := below_drewN hB m2
        exact ⟨(KeepsOthers_drewN W m2).trans (KeepsOthers.setCell _ _ _), ⟨World.cell?_setCell_other _ _ _ _ (fun e => hpq (congrArg Addr.block e)), (below_drewN (Below.refl _ W) m2).setCell (p := ⟨p, 0, none⟩) hwp _⟩, ⟨r2, World.cell?_setCell_same' _ _ _ (by rw [show (W.drewN m2).cell? ⟨p, 0, none⟩ = _ from hc1]; rfl), by rw [World.frozen?_setCell]; exact hf1, by rw [subs_snoc]; exact hr2⟩, hb2.setCell (p := ⟨p, 0, none⟩) hwp _⟩
      case done =>
        rintro D ys W hD rfl ⟨⟨r1, hc1, hf1, hr1⟩, hB⟩ hK
        gi_wp2
        refine ⟨by simp, .inl ⟨_, _, rfl, run_takeDeferred hK, ?_⟩⟩
        exact ⟨_, results_tmp rfl _ _ _, ⟨r1, rfl, by rw [HF.out]; exact hr1⟩, hB.trans (belowK_b (w := wr) (Nat.le_refl _) W D _ _ (Nat.le_trans HE.out.size hD) hK rfl rfl)⟩
      case stop =>
        rintro D c pre W _ _ h _
        exact h.elim
    · skip
      go_simp
      go_wp2_with fail
      have hb2 := (Below.refl v1.heap.size v1).alloc (Nat.le_refl _) (.cells #[.float .f32 0] 37)
      have HD2 := Lib.hid (HD1.out.trans (hb2.mono HD1.out.size))
      have HA2 := Lib.hid (And.intro (heap_alloc_new v1 (.cells #[.float .f32 0] 37)) (And.intro HD1.out.size (show v1.heap.size < (v1.alloc (.cells #[.float .f32 0] 37)).heap.size by simp)))
      clear hb2
      generalize v1.alloc (.cells #[.float .f32 0] 37) = v2 at HD2 HA2 ⊢
      generalize v1.heap.size = p at HA2 ⊢
      (refine hK.out _ _ (⟨by rw [HD2.out.cell (p := ⟨k1, 0, none⟩) hk1]; exact hc, by rw [HD2.out.cell (p := ⟨k2, 0, none⟩) hk2]; exact hg0, by rw [HD2.out.cell (p := ⟨k2, 1, none⟩) hk2]; exact hg1, HC.out _ (hbel.trans (HD2.out.mono hbel.size))⟩) (fun hHeld => ?_); clear hK K; (try simp only [List.getElem_toArray, List.getElem_cons_zero, List.getElem_cons_succ, Act.put, List.setIfInBounds_toArray, List.set_cons_zero, List.set_cons_succ]))
      refine wpAnyH_ready (rs := [7]) (by kernel_rfl) (by simp) ?_
      refine (AllReadyH.cons (i := 7) rfl (fun K hK => ?_) AllReadyH.nil)
      refine hstep_fa rfl .mul 37 37 _ _ rfl rfl .f32 1082130432 x0 rfl rfl (Is.const rfl) ix ?_
      intro r m hr
      have HD3 := Lib.hid (below_drewN HD2.out m)
      have HA3 : Hid ((v2.drewN m).heap[p]? = some (.cells #[.float .f32 0] 37) ∧ wr.heap.size ≤ p ∧ p < (v2.drewN m).heap.size) := Lib.hid HA2.out
      generalize v2.drewN m = v3 at HD3 HA3 ⊢
      (refine hK.out _ _ (⟨by rw [HD3.out.cell (p := ⟨k1, 0, none⟩) hk1]; exact hc, by rw [HD3.out.cell (p := ⟨k2, 0, none⟩) hk2]; exact hg0, by rw [HD3.out.cell (p := ⟨k2, 1, none⟩) hk2]; exact hg1, HC.out _ (hbel.trans (HD3.out.mono hbel.size))⟩) (fun hHeld => ?_); clear hK K; (try simp only [List.getElem_toArray, List.getElem_cons_zero, List.getElem_cons_succ, Act.put, List.setIfInBounds_toArray, List.set_cons_zero, List.set_cons_succ]))
      have z0 : v3.cell? ⟨p, 0, none⟩ = some (.float .f32 0) := by rw [Joins.cell_of_block HA3.out.1]; rfl
      have f0 : v3.frozen? ⟨p, 0, none⟩ = false := by simp [World.frozen?, HA3.out.1]
      have HD9 := Lib.hid (HD3.out.setCell (p := ⟨p, 0, none⟩) HA3.out.2.1 (.float .f32 r))
      have HA9 := Lib.hid (And.intro (show (v3.setCell ⟨p, 0, none⟩ (.float .f32 r)).heap[p]? = some (.cells #[.float .f32 r] 37) from heap_setCell_same v3 p 0 _ _ (.float .f32 r) HA3.out.1) HA3.out.2.1)
      (refine wpAnyH_ready (rs := [9]) (by kernel_rfl) (by simp) ?_; refine AllReadyH.cons (i := 9) rfl (fun K hK => ?_) AllReadyH.nil)
      go_simp
      (refine hK.out _ _ (⟨by rw [HD9.out.cell (p := ⟨k1, 0, none⟩) hk1]; exact hc, by rw [HD9.out.cell (p := ⟨k2, 0, none⟩) hk2]; exact hg0, by rw [HD9.out.cell (p := ⟨k2, 1, none⟩) hk2]; exact hg1, HC.out _ (hbel.trans (HD9.out.mono hbel.size))⟩) (fun hHeld => ?_); clear hK K; (try simp only [List.getElem_toArray, List.getElem_cons_zero, List.getElem_cons_succ, Act.put, List.setIfInBounds_toArray, List.set_cons_zero, List.set_cons_succ]))
      (refine wpAnyH_done (by kernel_rfl) ?_ _; refine NoPanic.normal ?_)
      clear hHeld z0 f0
      generalize v3.setCell ⟨p, 0, none⟩ (.float .f32 r) = w8 at HD9 HA9 ⊢
      have hc := show w8.cell? ⟨k1, 0, none⟩ = _ from (HD9.out.cell (p := ⟨k1, 0, none⟩) hk1).trans hc
      have hg0 := show w8.cell? ⟨k2, 0, none⟩ = _ from (HD9.out.cell (p := ⟨k2, 0, none⟩) hk2).trans hg0
      have hg1 := show w8.cell? ⟨k2, 1, none⟩ = _ from (HD9.out.cell (p := ⟨k2, 1, none⟩) hk2).trans hg1
      simp only [Exit.then]
      gi_wp2_with (refine ⟨trivial, ?_⟩; gi_at_call 209; refine (callsIn_wide.2 (HNB.out _)).mono ?_; rintro e w9 ⟨q1, q2, rfl, hq1, hq2, h4, hs, hb9⟩)
      have hp8 : p < w8.heap.size := (Array.getElem?_eq_some_iff.1 HA9.out.1).1
      have HE := Lib.hid (HD9.out.trans (hb9.mono HD9.out.size))
      have HP9 := Lib.hid ((hb9.block p hp8).trans HA9.out.1)
      have hq1s : q1 < w9.heap.size := block_lt_of_cell h4.1
      have hq2s : q2 < w9.heap.size := block_lt_of_cell hs
      have hpq : p ≠ q2 := by omega
      have hwp : wr.heap.size ≤ p := HA9.out.2
      have hp9 : p < w9.heap.size := by have := hb9.size; omega
      have HR := Lib.hid hr
      clear hc hg0 hg1 hr
      refine wpIn_rangeFunc_ownF rfl (by omega) (gf := 238) (lb := #[.pointer (some ⟨q1, 0, none⟩), .pointer (some ⟨q2, 0, none⟩)]) rfl trivial (enters_of Try.func238 (by kernel_rfl) rfl) (iter_stops (5 - 1) (by omega) q1 q2 bk ok xs.length cap1 wr.heap.size n0 n1 n2 n3 ⟨y0, G0⟩ ⟨y1, G1⟩ ⟨y2, G2⟩ ⟨y3, G3⟩ w9 hq1s hq2s HE.out.size (Nat.lt_of_lt_of_le hbk hbel.size) h4 hs l0 l1 l2 l3 (C0.out _ (hbel.trans (HE.out.mono hbel.size))) (C1.out _ (hbel.trans (HE.out.mono hbel.size))) (C2.out _ (hbel.trans (HE.out.mono hbel.size))) (C3.out _ (hbel.trans (HE.out.mono hbel.size))))
        (fun h k => ⟨k.1.trans h.1, h.2.trans k.2⟩)
        (fun W l o o' hl h hc hw => ⟨(belowK_b (n₀ := w9.heap.size) (w := w9) (Nat.le_refl _) W l o o' hl h hc hw).cell (p := ⟨q2, 0, none⟩) hq2s, belowK_b (w := w9) HE.out.size W l o o' hl h hc hw⟩)
        (Below.refl _ _) (fun _ => rfl)
        (fun pre W => (∃ r, W.cell? ⟨p, 0, none⟩ = some (.float .f32 r) ∧ W.frozen? ⟨p, 0, none⟩ = false ∧ Is .f32 r (subs (fop .mul .f32 1082130432 X) pre)) ∧ Below wr.heap.size wr W)
        (fun _ _ _ => False)
        (OwnFrom.and (Own.from (fun s A B row hs hg hr => by obtain ⟨r, h1, h2, h3⟩ := hs; exact ⟨r, cell_kept h1 hg hr, (frozen_kept h1 hg hr).trans h2, h3⟩) _) (ownFrom_below (Nat.le_refl _) HE.out.size))
        (fun _ _ _ _ _ hs _ _ => hs)
        ⟨⟨r, by rw [Joins.cell_of_block HP9.out]; rfl, by simp [World.frozen?, HP9.out], HR.out⟩, HE.out⟩
        ?a2 ?assign ?body ?done ?stop
      case assign =>
        intro l x W K hK
        gi_wp2
        exact hK
      case body =>
        rintro l pre x W ⟨⟨r1, hc1, hf1, hr1⟩, hB⟩ _
        have ixx : Is .f32 x.1 (cn .f32 x.1) := Is.of_lt x.2
        gi_wp2_with (apply wpListIn_farith; rfl; rfl; rfl; rfl; (first | with_reducible assumption | exact Is.const rfl); (first | with_reducible assumption | exact Is.const rfl); intro r2 m2 hr2)
        have hb2 := below_drewN hB m2
        exact ⟨(KeepsOthers_drewN W m2).trans (KeepsOthers.setCell _ _ _), ⟨World.cell?_setCell_other _ _ _ _ (fun e => hpq (congrArg Addr.block e)), (below_drewN (Below.refl _ W) m2).setCell (p := ⟨p, 0, none⟩) hwp _⟩, ⟨r2, World.cell?_setCell_same' _ _ _ (by rw [show (W.drewN m2).cell? ⟨p, 0, none⟩ = _ from hc1]; rfl), by rw [World.frozen?_setCell]; exact hf1, by rw [subs_snoc]; exact hr2⟩, hb2.setCell (p := ⟨p, 0, none⟩) hwp _⟩
      case done =>
        rintro D ys W hD rfl ⟨⟨r1, hc1, hf1, hr1⟩, hB⟩ hK
        gi_wp2
        refine ⟨by simp, .inl ⟨_, _, rfl, run_takeDeferred hK, ?_⟩⟩
        exact ⟨_, results_tmp rfl _ _ _, ⟨r1, rfl, by rw [HF.out]; exact hr1⟩, hB.trans (belowK_b (w := wr) (Nat.le_refl _) W D _ _ (Nat.le_trans HE.out.size hD) hK rfl rfl)⟩
      case stop =>
        rintro D c pre W _ _ h _
        exact h.elim
  · skip
    go_simp
    go_wp2_with fail
    have hb1 := (Below.refl v0.heap.size v0).alloc (Nat.le_refl _) (.cells #[.float .f32 0] 37)
    have HD1 := Lib.hid (HD0.out.trans (hb1.mono HD0.out.size))
    have HA1 := Lib.hid (And.intro (heap_alloc_new v0 (.cells #[.float .f32 0] 37)) (And.intro HD0.out.size (show v0.heap.size < (v0.alloc (.cells #[.float .f32 0] 37)).heap.size by simp)))
    clear hb1
    generalize v0.alloc (.cells #[.float .f32 0] 37) = v1 at HD1 HA1 ⊢
    generalize v0.heap.size = p at HA1 ⊢
    (refine hK.out _ _ (⟨by rw [HD1.out.cell (p := ⟨k1, 0, none⟩) hk1]; exact hc, by rw [HD1.out.cell (p := ⟨k2, 0, none⟩) hk2]; exact hg0, by rw [HD1.out.cell (p := ⟨k2, 1, none⟩) hk2]; exact hg1, HC.out _ (hbel.trans (HD1.out.mono hbel.size))⟩) (fun hHeld => ?_); clear hK K; (try simp only [List.getElem_toArray, List.getElem_cons_zero, List.getElem_cons_succ, Act.put, List.setIfInBounds_toArray, List.set_cons_zero, List.set_cons_succ]))
    refine wpAnyH_ready (rs := [4]) (by kernel_rfl) (by simp) ?_
    refine (AllReadyH.cons (i := 4) rfl (fun K hK => ?_) AllReadyH.nil)
    go_simp
    refine (indexOf_any a b (u : Int) (v : Int) j _ ⟨hA.1, hA.2.1⟩ ⟨hA.2.2.1, hA.2.2.2⟩ HJ.out).mono ?_; rintro e v2 ⟨rfl, hb2⟩
    have HD2 := Lib.hid (HD1.out.trans (hb2.mono HD1.out.size))
    have HA2 := Lib.hid (And.intro ((hb2.block p HA1.out.2.2).trans HA1.out.1) (And.intro HA1.out.2.1 (Nat.lt_of_lt_of_le HA1.out.2.2 hb2.size)))
    clear hb2
    go_wp2_with fail
    (refine hK.out _ _ (⟨by rw [HD2.out.cell (p := ⟨k1, 0, none⟩) hk1]; exact hc, by rw [HD2.out.cell (p := ⟨k2, 0, none⟩) hk2]; exact hg0, by rw [HD2.out.cell (p := ⟨k2, 1, none⟩) hk2]; exact hg1, HC.out _ (hbel.trans (HD2.out.mono hbel.size))⟩) (fun hHeld => ?_); clear hK K; (try simp only [List.getElem_toArray, List.getElem_cons_zero, List.getElem_cons_succ, Act.put, List.setIfInBounds_toArray, List.set_cons_zero, List.set_cons_succ]))
    ((refine wpAnyH_take (i := 5) (v := ?_) rfl (by kernel_rfl) (by kernel_rfl) (by kernel_rfl) (fun _ _ _ h => h) (Or.inl ⟨by rfl, ?_⟩) (by assumption) ?_; rotate_left; (· intro w hSw; (try dsimp only at hSw); go_simp; first | done | with_reducible rfl); (try simp only [List.getElem_toArray, List.getElem_cons_zero, List.getElem_cons_succ, Act.put, List.setIfInBounds_toArray, List.set_cons_zero, List.set_cons_succ])); (refine wpAnyH_take (i := 6) (v := ?_) rfl (by kernel_rfl) (by kernel_rfl) (by kernel_rfl) (fun _ _ _ h => h) (Or.inl ⟨by rfl, ?_⟩) (by assumption) ?_; rotate_left; (· intro w hSw; (try dsimp only at hSw); go_simp; first | done | with_reducible rfl); (try simp only [List.getElem_toArray, List.getElem_cons_zero, List.getElem_cons_succ, Act.put, List.setIfInBounds_toArray, List.set_cons_zero, List.set_cons_succ])))
    refine wpAnyH_ready (rs := [7]) (by kernel_rfl) (by simp) ?_
    refine (AllReadyH.cons (i := 7) rfl (fun K hK => ?_) AllReadyH.nil)
    refine hstep_fa rfl .mul 37 37 _ _ rfl rfl .f32 1082130432 x0 rfl rfl (Is.const rfl) ix ?_
    intro r m hr
    have HD3 := Lib.hid (below_drewN HD2.out m)
    have HA3 : Hid ((v2.drewN m).heap[p]? = some (.cells #[.float .f32 0] 37) ∧ wr.heap.size ≤ p ∧ p < (v2.drewN m).heap.size) := Lib.hid HA2.out
    generalize v2.drewN m = v3 at HD3 HA3 ⊢
    (refine hK.out _ _ (⟨by rw [HD3.out.cell (p := ⟨k1, 0, none⟩) hk1]; exact hc, by rw [HD3.out.cell (p := ⟨k2, 0, none⟩) hk2]; exact hg0, by rw [HD3.out.cell (p := ⟨k2, 1, none⟩) hk2]; exact hg1, HC.out _ (hbel.trans (HD3.out.mono hbel.size))⟩) (fun hHeld => ?_); clear hK K; (try simp only [List.getElem_toArray, List.getElem_cons_zero, List.getElem_cons_succ, Act.put, List.setIfInBounds_toArray, List.set_cons_zero, List.set_cons_succ]))
    have z0 : v3.cell? ⟨p, 0, none⟩ = some (.float .f32 0) := by rw [Joins.cell_of_block HA3.out.1]; rfl
    have f0 : v3.frozen? ⟨p, 0, none⟩ = false := by simp [World.frozen?, HA3.out.1]
    have HD9 := Lib.hid (HD3.out.setCell (p := ⟨p, 0, none⟩) HA3.out.2.1 (.float .f32 r))
    have HA9 := Lib.hid (And.intro (show (v3.setCell ⟨p, 0, none⟩ (.float .f32 r)).heap[p]? = some (.cells #[.float .f32 r] 37) from heap_setCell_same v3 p 0 _ _ (.float .f32 r) HA3.out.1) HA3.out.2.1)
    (refine wpAnyH_ready (rs := [9]) (by kernel_rfl) (by simp) ?_; refine AllReadyH.cons (i := 9) rfl (fun K hK => ?_) AllReadyH.nil)
    go_simp
    (refine hK.out _ _ (⟨by rw [HD9.out.cell (p := ⟨k1, 0, none⟩) hk1]; exact hc, by rw [HD9.out.cell (p := ⟨k2, 0, none⟩) hk2]; exact hg0, by rw [HD9.out.cell (p := ⟨k2, 1, none⟩) hk2]; exact hg1, HC.out _ (hbel.trans (HD9.out.mono hbel.size))⟩) (fun hHeld => ?_); clear hK K; (try simp only [List.getElem_toArray, List.getElem_cons_zero, List.getElem_cons_succ, Act.put, List.setIfInBounds_toArray, List.set_cons_zero, List.set_cons_succ]))
    (refine wpAnyH_done (by kernel_rfl) ?_ _; refine NoPanic.normal ?_)
    clear hHeld z0 f0
    generalize v3.setCell ⟨p, 0, none⟩ (.float .f32 r) = w8 at HD9 HA9 ⊢
    have hc := show w8.cell? ⟨k1, 0, none⟩ = _ from (HD9.out.cell (p := ⟨k1, 0, none⟩) hk1).trans hc
    have hg0 := show w8.cell? ⟨k2, 0, none⟩ = _ from (HD9.out.cell (p := ⟨k2, 0, none⟩) hk2).trans hg0
    have hg1 := show w8.cell? ⟨k2, 1, none⟩ = _ from (HD9.out.cell (p := ⟨k2, 1, none⟩) hk2).trans hg1
    simp only [Exit.then]
    gi_wp2_with (refine ⟨trivial, ?_⟩; gi_at_call 209; refine (callsIn_wide.2 (HNB.out _)).mono ?_; rintro e w9 ⟨q1, q2, rfl, hq1, hq2, h4, hs, hb9⟩)
    have hp8 : p < w8.heap.size := (Array.getElem?_eq_some_iff.1 HA9.out.1).1
    have HE := Lib.hid (HD9.out.trans (hb9.mono HD9.out.size))
    have HP9 := Lib.hid ((hb9.block p hp8).trans HA9.out.1)
    have hq1s : q1 < w9.heap.size := block_lt_of_cell h4.1
    have hq2s : q2 < w9.heap.size := block_lt_of_cell hs
    have hpq : p ≠ q2 := by omega
    have hwp : wr.heap.size ≤ p := HA9.out.2
    have hp9 : p < w9.heap.size := by have := hb9.size; omega
    have HR := Lib.hid hr
    clear hc hg0 hg1 hr
    refine wpIn_rangeFunc_ownF rfl (by omega) (gf := 238) (lb := #[.pointer (some ⟨q1, 0, none⟩), .pointer (some ⟨q2, 0, none⟩)]) rfl trivial (enters_of Try.func238 (by kernel_rfl) rfl) (iter_stops (5 - 1) (by omega) q1 q2 bk ok xs.length cap1 wr.heap.size n0 n1 n2 n3 ⟨y0, G0⟩ ⟨y1, G1⟩ ⟨y2, G2⟩ ⟨y3, G3⟩ w9 hq1s hq2s HE.out.size (Nat.lt_of_lt_of_le hbk hbel.size) h4 hs l0 l1 l2 l3 (C0.out _ (hbel.trans (HE.out.mono hbel.size))) (C1.out _ (hbel.trans (HE.out.mono hbel.size))) (C2.out _ (hbel.trans (HE.out.mono hbel.size))) (C3.out _ (hbel.trans (HE.out.mono hbel.size))))
      (fun h k => ⟨k.1.trans h.1, h.2.trans k.2⟩)
      (fun W l o o' hl h hc hw => ⟨(belowK_b (n₀ := w9.heap.size) (w := w9) (Nat.le_refl _) W l o o' hl h hc hw).cell (p := ⟨q2, 0, none⟩) hq2s, belowK_b (w := w9) HE.out.size W l o o' hl h hc hw⟩)
      (Below.refl _ _) (fun _ => rfl)
      (fun pre W => (∃ r, W.cell? ⟨p, 0, none⟩ = some (.float .f32 r) ∧ W.frozen? ⟨p, 0, none⟩ = false ∧ Is .f32 r (subs (fop .mul .f32 1082130432 X) pre)) ∧ Below wr.heap.size wr W)
      (fun _ _ _ => False)
      (OwnFrom.and (Own.from (fun s A B row hs hg hr => by obtain ⟨r, h1, h2, h3⟩ := hs; exact ⟨r, cell_kept h1 hg hr, (frozen_kept h1 hg hr).trans h2, h3⟩) _) (ownFrom_below (Nat.le_refl _) HE.out.size))
      (fun _ _ _ _ _ hs _ _ => hs)
      ⟨⟨r, by rw [Joins.cell_of_block HP9.out]; rfl, by simp [World.frozen?, HP9.out], HR.out⟩, HE.out⟩
      ?a3 ?assign ?body ?done ?stop
    case assign =>
      intro l x W K hK
      gi_wp2
      exact hK
    case body =>
      rintro l pre x W ⟨⟨r1, hc1, hf1, hr1⟩, hB⟩ _
      have ixx : Is .f32 x.1 (cn .f32 x.1) := Is.of_lt x.2
      gi_wp2_with (apply wpListIn_farith; rfl; rfl; rfl; rfl; (first | with_reducible assumption | exact Is.const rfl); (first | with_reducible assumption | exact Is.const rfl); intro r2 m2 hr2)
      have hb2 := below_drewN hB m2
      exact ⟨(KeepsOthers_drewN W m2).trans (KeepsOthers.setCell _ _ _), ⟨World.cell?_setCell_other _ _ _ _ (fun e => hpq (congrArg Addr.block e)), (below_drewN (Below.refl _ W) m2).setCell (p := ⟨p, 0, none⟩) hwp _⟩, ⟨r2, World.cell?_setCell_same' _ _ _ (by rw [show (W.drewN m2).cell? ⟨p, 0, none⟩ = _ from hc1]; rfl), by rw [World.frozen?_setCell]; exact hf1, by rw [subs_snoc]; exact hr2⟩, hb2.setCell (p := ⟨p, 0, none⟩) hwp _⟩
    case done =>
      rintro D ys W hD rfl ⟨⟨r1, hc1, hf1, hr1⟩, hB⟩ hK
      gi_wp2
      refine ⟨by simp, .inl ⟨_, _, rfl, run_takeDeferred hK, ?_⟩⟩
      exact ⟨_, results_tmp rfl _ _ _, ⟨r1, rfl, by rw [HF.out]; exact hr1⟩, hB.trans (belowK_b (w := wr) (Nat.le_refl _) W D _ _ (Nat.le_trans HE.out.size hD) hK rfl rfl)⟩
    case stop =>
      rintro D c pre W _ _ h _
      exact h.elim
end Go.Proofs.Ytjfnecmnofcjbaa
