/-
  Two streams: the model, in range.
-/
import Derived.Test.YtibjajgcfbfppaaStrmS
namespace Go.Proofs.Ytibjajgcfbfppaa
open Go.Fl Go.RowKit
set_option linter.unusedSimpArgs false
set_option linter.unusedVariables false

def Halted (p : Prop) : Prop := p
theorem halted {p : Prop} (h : Halted p) : p := h
theorem wpList_app4 {ops : Array Oper} {rest : List Oper} {o : Oper} {a : Act} {w : World} {Q : Exit → Act → World → Prop} (hgd : o.guard = none) (s x : Operand) (ho : o.op = .call { callee := .builtin .append, args := #[s, x], argTypes := #[27, 27] })
    (B : Nat) (v : Value) (n : Nat) (xs : List R4) (hs : a.eval s = v) (hown : R4Own B w v xs) (hl : xs.length = n) (g c : Nat) (hx : a.eval x = .slice (some ⟨g, 0, none⟩) 1 c) (v0 v1 v2 v3 : Value) (hb : w.heap[g]? = some (.cells #[v0, v1, v2, v3] 68))
    (h0 : v0.oneCell' = true) (h1 : v1.oneCell' = true) (h2 : v2.oneCell' = true) (h3 : v3.oneCell' = true) (hn : n ≤ 1000) (hB : B ≤ w.heap.size)
    (h : ∀ g' cap' w', R4Own B w' (.slice (some ⟨g', 0, none⟩) (n + 1) cap') (xs ++ [⟨v0, v1, v2, v3⟩]) → w.grownBy w' v.ownBlock → wpList Try.prog ops Q rest (a.put o.dst (.slice (some ⟨g', 0, none⟩) (n + 1) cap')) w') : wpList Try.prog ops Q (o :: rest) a w := by
  obtain ⟨ti, hi, hz0, hz1, hz2⟩ := info_parts PTinfo
  subst hl
  refine wpList_append_own w hgd s x 27 ho B 68 ti (.agg ZC) 4 24 Try.underlying27 hi hz0 hz1 hz2 rfl (by decide) v xs.length (cells4 xs) hs hown ⟨g, 0, none⟩ 1 c [v0, v1, v2, v3] hx rfl (World.news_of_block (cs := #[v0, v1, v2, v3]) (t := 68) (fr := (0, 0)) hb) (by intro u hu; simp at hu; rcases hu with rfl | rfl | rfl | rfl <;> assumption) (by unfold maxLen; omega) (by omega) hB ?_
  intro v' w' hown' hgrow _
  obtain ⟨g2, cap2, rfl⟩ := Joins.ownsRow_form hown' (by omega)
  refine h g2 cap2 w' ?_ hgrow
  unfold R4Own
  rw [cells4_app, List.length_append, List.length_singleton]
  exact hown'
theorem grown_own9 (w : World) (b i : Nat) (v : Value) : w.grownBy (w.setCell ⟨b, i, none⟩ v) (some b) :=
  ⟨rfl, rfl, rfl, by simp, fun k hk hr => heap_setCell_other w ⟨b, i, none⟩ k v (fun e => hr (by rw [e]))⟩
theorem b_kept {B B' g : Nat} {w w' : World} {v : Value} {ts : List Pb} (h : BOwn B w v ts) (hg : w.grownBy w' (some g)) (hB : B' ≤ g ∧ g < B ∨ B' ≤ B ∧ g < B) : BOwn B' w' v ts := by
  have hl := h.lt
  refine Joins.ownsRow_le (World.ownsRow.kept h hg ?_) (by omega)
  cases hb : v.ownBlock with
  | none => exact .inl rfl
  | some j => exact .inr (fun e => by have := hl j hb; have := Option.some.inj e; omega)

set_option maxHeartbeats 4000000 in
set_option maxRecDepth 100000 in
theorem sTwo_yes (a b : Int) (c N : Nat) (hN : N = 2 * c) (s S : Nat) (is : Is .f32 s S) (hc0 : 1 ≤ c) (hc1 : c ≤ 24) (hg : gridOk a b = true) (w : World) :
    Calls Try.prog 26 #[GV a b, .int .i64 (c : Int), .float .f32 s] w fun e w' => TwoRes a b N S w.heap.size e w' ∧ Below w.heap.size w w' := by
  obtain ⟨ti, hi, hz0, hz1, hz2⟩ := info_parts PTinfo
  have HI := Lib.hid hi; have HZ0 := Lib.hid hz0; have HZ1 := Lib.hid hz1; have HZ2 := Lib.hid hz2
  have HIS := Lib.hid is
  have HB0 := Lib.hid (((Below.refl w.heap.size w).alloc (Nat.le_refl _) (.cells #[.int .i64 a, .int .i64 b] 25)).alloc (by simp) (.cells (CC 0 0 (.slice none 0 0) 0) 56))
  have HP := Lib.hid ((gp_new w a b 25).below ((Below.refl _ _).alloc (Nat.le_refl _) (.cells (CC 0 0 (.slice none 0 0) 0) 56)))
  have HX := Lib.hid (show ((w.alloc (.cells #[.int .i64 a, .int .i64 b] 25)).alloc (.cells (CC 0 0 (.slice none 0 0) 0) 56)).heap[w.heap.size]? = some (.cells #[.int .i64 a, .int .i64 b] 25) from heap_alloc2_old w _ _)
  have HY := Lib.hid (show ((w.alloc (.cells #[.int .i64 a, .int .i64 b] 25)).alloc (.cells (CC 0 0 (.slice none 0 0) 0) 56)).heap[w.heap.size + 1]? = some (.cells (CC 0 0 (.slice none 0 0) 0) 56) from heap_alloc2_new w _ _)
  have HZ := Lib.hid (show ((w.alloc (.cells #[.int .i64 a, .int .i64 b] 25)).alloc (.cells (CC 0 0 (.slice none 0 0) 0) 56)).heap.size = w.heap.size + 1 + 1 by simp)
  have HN2 := Lib.hid (show (2 * (c : Int)) = (N : Int) by omega)
  have hN48 : 2 ≤ N ∧ N ≤ 48 := by omega
  have hd : decide (1 ≤ (c : Int) ∧ (c : Int) ≤ 24) = true := decide_eq_true (by omega)
  obtain ⟨ga, ga', gb, gb'⟩ := gridOk_true hg
  have hm1 : a * b ≤ 16 * 16 := Int.mul_le_mul ga' gb' (by omega) (by omega)
  have hm0 : 4 * 4 ≤ a * b := Int.mul_le_mul ga gb (by omega) (by omega)
  have hw1 : IntKind.i64.wrap (a * b) = a * b := by rw [wrap_i64]; exact wrap64_of (by omega) (by omega)
  have hw3 : wrap64 (a * b) = a * b := wrap64_of (by omega) (by omega)
  have HW := Lib.hid hw1
  have ia := int32_is a; have ib := int32_is b; have iN := int32_is (2 * (c : Int)); have iab := int32_is (a * b)
  clear hi hz0 hz1 hz2 is hm1 hm0 hN
  go_enter Try.func26, Try.ntmps26
  go_wp2_with fail
  generalize (w.alloc (.cells #[.int .i64 a, .int .i64 b] 25)).alloc (.cells (CC 0 0 (.slice none 0 0) 0) 56) = w1 at HB0 HP HX HY HZ ⊢
  refine (sIs_any _ a b _ HP.out).mono ?_; rw [hg]; rintro e w' ⟨rfl, rfl⟩
  go_wp2_with fail
  refine (sIn_any _ _ _ _).mono ?_; rw [hd]; rintro e w' ⟨rfl, rfl⟩
  obtain ⟨g0, g1⟩ := HP.out.cells
  go_wp2_with (first
    | (apply wpList_farith; rfl; rfl; rfl; rfl; (first | with_reducible assumption | exact Is.const rfl); (first | with_reducible assumption | exact Is.const rfl); intro r n hr)
    | ((with_reducible show wpList _ _ _ (Oper.mk none (Op.store _ (Operand.tmp 8) _) _ _ _ _ :: _) _ _); refine wpList_store_row rfl 56 _ _ rfl w1.heap.size _ rfl rfl 56 _ (heap_alloc_new (w1.drewN _) _) info_cloud rfl (one5 _ _ _ _ _ _ _) ?_))
  have HIR := Lib.hid (show Is .f32 r (bkF a b N) from by
    have h1 := hr
    rw [HN2.out, ← HW.out] at h1
    exact h1)
  have bz := ((below_drewN HB0.out n).alloc (show w.heap.size ≤ (w1.drewN n).heap.size from HB0.out.size) (.cells (CC 0 0 (.slice none 0 0) 0) 56))
  have bb : Below w1.heap.size w1 ((w1.drewN n).alloc (.cells (CC 0 0 (.slice none 0 0) 0) 56)) := (below_drewN (Below.refl w1.heap.size w1) n).alloc (Nat.le_refl _) _
  have HBR := Lib.hid (below_setRow bz (show w.heap.size ≤ w1.heap.size from HB0.out.size) (CC a b (.slice none 0 0) r))
  have bb2 := below_setRow bb (Nat.le_refl _) (CC a b (.slice none 0 0) r)
  have HX2 := Lib.hid ((bb2.block w.heap.size (by rw [HZ.out]; omega)).trans HX.out)
  have HY2 := Lib.hid ((bb2.block (w.heap.size + 1) (by rw [HZ.out]; omega)).trans HY.out)
  have HC2 := Lib.hid (setRow_heap ((w1.drewN n).alloc (.cells (CC 0 0 (.slice none 0 0) 0) 56)) w1.heap.size _ (CC a b (.slice none 0 0) r) _ _ (heap_alloc_new (w1.drewN n) (.cells (CC 0 0 (.slice none 0 0) 0) 56)))
  have HBZ := Lib.hid (show (((w1.drewN n).alloc (.cells (CC 0 0 (.slice none 0 0) 0) 56)).setRow w1.heap.size (CC a b (.slice none 0 0) r)).heap.size = w1.heap.size + 1 by simp [World.setRow])
  generalize ((w1.drewN n).alloc (.cells (CC 0 0 (.slice none 0 0) 0) 56)).setRow w1.heap.size (CC a b (.slice none 0 0) r) = w2 at HBR HX2 HY2 HC2 HBZ ⊢
  have HCB := Lib.hid (show w1.heap.size = w.heap.size + 1 + 1 from HZ.out)
  generalize w1.heap.size = cb at HC2 HBZ HCB ⊢
  clear bz bb bb2 HX HY HZ HP HB0 g0 g1 hr iab hw1 hw3 hd ga ga' gb gb'
  go_wp2_with fail
  go_loopw [9] (fun i wr => ∃ k : Nat, k ≤ N ∧ i = .int .i64 (k : Int) ∧ Hid (Below w.heap.size w wr) ∧ cb + 1 ≤ wr.heap.size ∧ Hid (wr.heap[w.heap.size]? = some (.cells #[.int .i64 a, .int .i64 b] 25) ∧ wr.heap[w.heap.size + 1]? = some (.cells (CC 0 0 (.slice none 0 0) 0) 56)) ∧ ∃ (v : Value) (ts : List Pb), ts.length = k ∧ Hid (EqP ts (KS a b N S)) ∧ Hid (BOwn (cb + 1) wr v ts) ∧ Hid (wr.heap[cb]? = some (.cells (CC a b v r) 56))) (fun i _ => N - (intOf i).toNat)
  case atStart => exact ⟨0, Nat.zero_le _, rfl, HBR, by rw [HBZ.out]; omega, Lib.hid ⟨HX2.out, HY2.out⟩, .slice none 0 0, [], rfl, Lib.hid (EqP.nil _), Lib.hid (World.ownsRow_nil _ _ _ _), HC2⟩
  case round =>
    clear HBR HX2 HY2 HC2 HBZ
    obtain ⟨k, hk, rfl, HB, hz, HG, v, ts, htl, HE, HO, HC⟩ := hrel
    by_cases hlt : k < N
    · obtain ⟨av, cap, ev, hfv⟩ := b_form HO.out
      obtain rfl : v = .slice av k cap := by rw [ev, htl]
      have hlt2 : (k : Int) < 2 * (c : Int) := by rw [HN2.out]; omega
      have g0 : wr.cell? ⟨w.heap.size, 0, none⟩ = some (.int .i64 a) := by rw [Joins.cell_of_block HG.out.1]; rfl
      have g1 : wr.cell? ⟨w.heap.size, 1, none⟩ = some (.int .i64 b) := by rw [Joins.cell_of_block HG.out.1]; rfl
      have ik := int32_is (k : Int)
      have HTL := Lib.hid htl
      have hcl : cb < wr.heap.size := by omega
      have hmr : ∀ m Z cs, Below wr.heap.size wr (((wr.drewN m).alloc Z).setRow wr.heap.size cs) := fun m Z cs => below_setRow ((below_drewN (Below.refl wr.heap.size wr) m).alloc (Nat.le_refl _) Z) (Nat.le_refl _) cs
      have hms : ∀ m Z cs, (((wr.drewN m).alloc Z).setRow wr.heap.size cs).heap.size = wr.heap.size + 1 := fun m Z cs => by simp [World.setRow]
      have HBA := Lib.hid (fun m Z cs Q => (show Below wr.heap.size wr ((((wr.drewN m).alloc Z).setRow wr.heap.size cs).alloc Q) from (hmr m Z cs).alloc (by rw [hms]; omega) Q))
      have hcc : ∀ m Z cs, (((wr.drewN m).alloc Z).setRow wr.heap.size cs).cell? ⟨cb, 2, none⟩ = some (.slice av k cap) := fun m Z cs => by
        have h1 := ((hmr m Z cs).block cb hcl).trans HC.out
        rw [Joins.cell_of_block h1]; rfl
      have HOA := Lib.hid (fun m Z cs Q => r4_below HO.out (HBA.out m Z cs Q))
      have HNB := Lib.hid (fun m Z cs Q => (show ((((wr.drewN m).alloc Z).setRow wr.heap.size cs).alloc Q).heap[wr.heap.size + 1]? = some Q from by
        have h1 := heap_alloc_new (((wr.drewN m).alloc Z).setRow wr.heap.size cs) Q
        rwa [hms] at h1))
      have HBZ := Lib.hid (fun m Z cs Q => (show cb + 1 ≤ ((((wr.drewN m).alloc Z).setRow wr.heap.size cs).alloc Q).heap.size from Nat.le_trans (by omega) (HBA.out m Z cs Q).size))
      have HAF := Lib.hid (fun m Z cs Q w' (hg : ((((wr.drewN m).alloc Z).setRow wr.heap.size cs).alloc Q).grownBy w' (Value.slice av k cap).ownBlock) => (show (w'.heap[cb]? = some (.cells (CC a b (.slice av k cap) r) 56) ∧ w'.heap[w.heap.size]? = some (.cells #[.int .i64 a, .int .i64 b] 25) ∧ w'.heap[w.heap.size + 1]? = some (.cells (CC 0 0 (.slice none 0 0) 0) 56)) ∧ Below w.heap.size w w' ∧ cb + 1 ≤ w'.heap.size from by
        have hb := HBA.out m Z cs Q
        have hx := HCB.out
        have hsz : wr.heap.size ≤ ((((wr.drewN m).alloc Z).setRow wr.heap.size cs).alloc Q).heap.size := hb.size
        have hne : ∀ j, j < cb + 1 → some j ≠ (Value.slice av k cap).ownBlock := fun j hj e => by
          have := HO.out.lt j e.symm; omega
        have hk2 : ∀ (j : Nat) (u : Obj), j < cb + 1 → wr.heap[j]? = some u → w'.heap[j]? = some u := fun j u hj hu => (hg.block j (by omega) (hne j hj)).trans ((hb.block j (by omega)).trans hu)
        have hBb := HB.out.trans (hb.mono HB.out.size)
        exact ⟨⟨hk2 _ _ (by omega) HC.out, hk2 _ _ (by omega) HG.out.1, hk2 _ _ (by omega) HG.out.2⟩, hBb.trans ⟨hg.os, hg.tape, hg.output, hg.size, fun i hi => hg.block i (Nat.lt_of_lt_of_le hi hBb.size) (hne i (by omega))⟩, Nat.le_trans (by omega) hg.size⟩))
      have HEE := Lib.hid (fun (t : Pb) (ht : IsP t (KS a b N S k)) => (show EqP (ts ++ [t]) (KS a b N S) from HE.out.snoc (by rw [HTL.out]; exact ht)))
      have hk1000 : k ≤ 1000 := by omega
      have hll : (ts.map Pb.r4).length = k := by rw [List.length_map]; exact htl
      have HLL := Lib.hid hll
      clear HE hll htl ev hfv HB HC HG HO hmr hms
      rcases even_or k with ⟨he, ht⟩ | ⟨he, ht⟩
      · have hem : (k : Int) % 2 = 0 := by omega
        have HKP := Lib.hid (show ∀ x y, Is .f32 x (fop .mul .f32 (floatOfInt .f32 a) (fop .quo .f32 (floatOfInt .f32 (k : Int)) (floatOfInt .f32 (2 * (c : Int))))) → Is .f32 y (fop .mul .f32 1056964608 (floatOfInt .f32 b)) → ∃ t : Pb, t.r4 = ⟨.complex .f32 x y, .complex .f32 (s) 0, .float .f32 3212836864, .float .f32 1065353216⟩ ∧ IsP t (KS a b N S k) from fun x y hx hy => ⟨⟨x, y, s, 0⟩, rfl, by rw [HN2.out] at hx; exact hx, hy, by unfold KS; dsimp only; rw [if_pos he]; exact HIS.out, is_zero⟩)
        clear he
        go_wp2_with (first
          | (apply wpList_farith; rfl; rfl; rfl; rfl; (first | with_reducible assumption | exact Is.const rfl); (first | with_reducible assumption | exact Is.const rfl); intro r n hr)
          | ((with_reducible show wpList _ _ _ (Oper.mk none (Op.store _ (Operand.tmp 12) _) _ _ _ _ :: _) _ _); refine wpList_store_row rfl 68 _ _ rfl wr.heap.size _ rfl rfl 68 _ (heap_alloc_new (wr.drewN _) _) info_pt rfl (one4 _ _ _ _ _ _) ?_)
          | ((with_reducible show wpList _ _ _ (Oper.mk (some 66) _ _ _ _ _ :: _) _ _); refine wpList_load_row rfl 68 _ rfl wr.heap.size rfl 68 _ (0, 0) _ (setRow_heap _ _ _ _ _ _ (heap_alloc_new (wr.drewN _) _)) Try.underlying68 rfl info_pt ?_)
          | (at_builtin; refine halted ?_))
        unfold Halted
        obtain ⟨t9, ht9, hkp⟩ := HKP.out _ _ (by assumption) (by assumption)
        refine wpList_app4 rfl _ _ rfl (cb + 1) (.slice av k cap) k (ts.map Pb.r4) rfl (HOA.out _ _ _ _) HLL.out (wr.heap.size + 1) 1 rfl _ _ _ _ (HNB.out _ _ _ _) rfl rfl rfl rfl hk1000 (HBZ.out _ _ _ _) ?_
        intro g' cap' w' hown hgrow
        rw [← ht9] at hown
        have HW := Lib.hid (HAF.out _ _ _ _ w' hgrow)
        have y2 : w'.cell? ⟨cb, 2, none⟩ = some (.slice av k cap) := by rw [Joins.cell_of_block HW.out.1.1]; rfl
        have yf : w'.frozen? ⟨cb, 2, none⟩ = false := by simp [World.frozen?, HW.out.1.1]
        have hx := HCB.out
        have hg9 : g' ≠ cb := by have := (hown.lt g' rfl).1; omega
        have HON := Lib.hid (show BOwn (cb + 1) (w'.setCell ⟨cb, 2, none⟩ (.slice (some ⟨g', 0, none⟩) (k + 1) cap')) (.slice (some ⟨g', 0, none⟩) (k + 1) cap') (ts ++ [t9]) from by
          have h1 := World.ownsRow.kept hown (grown_own9 w' cb 2 (.slice (some ⟨g', 0, none⟩) (k + 1) cap')) (.inr (fun e => hg9 (Option.some.inj e)))
          unfold BOwn R4Own
          rw [List.map_append]
          exact h1)
        have HEN := Lib.hid (HEE.out _ hkp)
        have HCN := Lib.hid (heap_setCell_same w' cb 2 _ _ (.slice (some ⟨g', 0, none⟩) (k + 1) cap') HW.out.1.1)
        have HGN := Lib.hid (And.intro ((heap_setCell_other w' ⟨cb, 2, none⟩ w.heap.size (.slice (some ⟨g', 0, none⟩) (k + 1) cap') (by show w.heap.size ≠ cb; omega)).trans HW.out.1.2.1) ((heap_setCell_other w' ⟨cb, 2, none⟩ (w.heap.size + 1) (.slice (some ⟨g', 0, none⟩) (k + 1) cap') (by show w.heap.size + 1 ≠ cb; omega)).trans HW.out.1.2.2))
        have HBN := Lib.hid (HW.out.2.1.setCell (p := ⟨cb, 2, none⟩) (show w.heap.size ≤ cb by omega) (.slice (some ⟨g', 0, none⟩) (k + 1) cap'))
        have hsz : cb + 1 ≤ (w'.setCell ⟨cb, 2, none⟩ (.slice (some ⟨g', 0, none⟩) (k + 1) cap')).heap.size := by have := HW.out.2.2; simp; omega
        have HSZ := Lib.hid hsz
        clear hown hgrow hkp ht9 hx hg9 hsz
        go_wp2_with fail
        go_roundw
        case rel => exact ⟨k + 1, by omega, by go_num, HBN, HSZ.out, HGN, _, _, by rw [List.length_append, List.length_singleton, HTL.out], HEN, HON, HCN⟩
        case measure => simp [intOf]; omega
      · have hem : (k : Int) % 2 = 1 := by omega
        have HKP := Lib.hid (show ∀ x y, Is .f32 x (fop .mul .f32 (floatOfInt .f32 a) (fop .quo .f32 (floatOfInt .f32 (k : Int)) (floatOfInt .f32 (2 * (c : Int))))) → Is .f32 y (fop .mul .f32 1056964608 (floatOfInt .f32 b)) → ∃ t : Pb, t.r4 = ⟨.complex .f32 x y, .complex .f32 (Op.negFloat .f32 s) 0, .float .f32 3212836864, .float .f32 1065353216⟩ ∧ IsP t (KS a b N S k) from fun x y hx hy => ⟨⟨x, y, Op.negFloat .f32 s, 0⟩, rfl, by rw [HN2.out] at hx; exact hx, hy, by unfold KS; dsimp only; rw [if_neg (by omega)]; exact HIS.out.neg32, is_zero⟩)
        clear he
        go_wp2_with (first
          | (apply wpList_farith; rfl; rfl; rfl; rfl; (first | with_reducible assumption | exact Is.const rfl); (first | with_reducible assumption | exact Is.const rfl); intro r n hr)
          | ((with_reducible show wpList _ _ _ (Oper.mk none (Op.store _ (Operand.tmp 12) _) _ _ _ _ :: _) _ _); refine wpList_store_row rfl 68 _ _ rfl wr.heap.size _ rfl rfl 68 _ (heap_alloc_new (wr.drewN _) _) info_pt rfl (one4 _ _ _ _ _ _) ?_)
          | ((with_reducible show wpList _ _ _ (Oper.mk (some 66) _ _ _ _ _ :: _) _ _); refine wpList_load_row rfl 68 _ rfl wr.heap.size rfl 68 _ (0, 0) _ (setRow_heap _ _ _ _ _ _ (heap_alloc_new (wr.drewN _) _)) Try.underlying68 rfl info_pt ?_)
          | (at_builtin; refine halted ?_))
        unfold Halted
        obtain ⟨t9, ht9, hkp⟩ := HKP.out _ _ (by assumption) (by assumption)
        refine wpList_app4 rfl _ _ rfl (cb + 1) (.slice av k cap) k (ts.map Pb.r4) rfl (HOA.out _ _ _ _) HLL.out (wr.heap.size + 1) 1 rfl _ _ _ _ (HNB.out _ _ _ _) rfl rfl rfl rfl hk1000 (HBZ.out _ _ _ _) ?_
        intro g' cap' w' hown hgrow
        rw [← ht9] at hown
        have HW := Lib.hid (HAF.out _ _ _ _ w' hgrow)
        have y2 : w'.cell? ⟨cb, 2, none⟩ = some (.slice av k cap) := by rw [Joins.cell_of_block HW.out.1.1]; rfl
        have yf : w'.frozen? ⟨cb, 2, none⟩ = false := by simp [World.frozen?, HW.out.1.1]
        have hx := HCB.out
        have hg9 : g' ≠ cb := by have := (hown.lt g' rfl).1; omega
        have HON := Lib.hid (show BOwn (cb + 1) (w'.setCell ⟨cb, 2, none⟩ (.slice (some ⟨g', 0, none⟩) (k + 1) cap')) (.slice (some ⟨g', 0, none⟩) (k + 1) cap') (ts ++ [t9]) from by
          have h1 := World.ownsRow.kept hown (grown_own9 w' cb 2 (.slice (some ⟨g', 0, none⟩) (k + 1) cap')) (.inr (fun e => hg9 (Option.some.inj e)))
          unfold BOwn R4Own
          rw [List.map_append]
          exact h1)
        have HEN := Lib.hid (HEE.out _ hkp)
        have HCN := Lib.hid (heap_setCell_same w' cb 2 _ _ (.slice (some ⟨g', 0, none⟩) (k + 1) cap') HW.out.1.1)
        have HGN := Lib.hid (And.intro ((heap_setCell_other w' ⟨cb, 2, none⟩ w.heap.size (.slice (some ⟨g', 0, none⟩) (k + 1) cap') (by show w.heap.size ≠ cb; omega)).trans HW.out.1.2.1) ((heap_setCell_other w' ⟨cb, 2, none⟩ (w.heap.size + 1) (.slice (some ⟨g', 0, none⟩) (k + 1) cap') (by show w.heap.size + 1 ≠ cb; omega)).trans HW.out.1.2.2))
        have HBN := Lib.hid (HW.out.2.1.setCell (p := ⟨cb, 2, none⟩) (show w.heap.size ≤ cb by omega) (.slice (some ⟨g', 0, none⟩) (k + 1) cap'))
        have hsz : cb + 1 ≤ (w'.setCell ⟨cb, 2, none⟩ (.slice (some ⟨g', 0, none⟩) (k + 1) cap')).heap.size := by have := HW.out.2.2; simp; omega
        have HSZ := Lib.hid hsz
        clear hown hgrow hkp ht9 hx hg9 hsz
        go_wp2_with fail
        go_roundw
        case rel => exact ⟨k + 1, by omega, by go_num, HBN, HSZ.out, HGN, _, _, by rw [List.length_append, List.length_singleton, HTL.out], HEN, HON, HCN⟩
        case measure => simp [intOf]; omega
    · obtain rfl : k = N := by omega
      have hlt2 : ¬ ((k : Int) < 2 * (c : Int)) := by rw [HN2.out]; omega
      have hle2 : 2 * (c : Int) ≤ (k : Int) := by rw [HN2.out]; omega
      have HTL := Lib.hid htl
      obtain ⟨av, cap, ev, _⟩ := b_form HO.out
      obtain rfl : v = .slice av k cap := by rw [ev, htl]
      clear hlt htl ev
      go_wp2_with (((with_reducible show wpList _ _ _ (Oper.mk (some 70) _ _ _ _ _ :: _) _ _); refine wpList_load_row rfl 56 _ rfl cb rfl 56 (CC a b (.slice av k cap) r) (0, 0) _ HC.out Try.underlying56 rfl info_cloud ?_))
      refine (sGive_any (cb + 1) a b _ ts (KS a b k S) r (bkF a b k) _ HO.out HE.out (by have := HTL.out; omega) HIR.out).mono ?_
      rintro e W2 ⟨rfl, hw2⟩
      rw [HTL.out]
      have HBF := Lib.hid (HB.out.trans (hw2.mono HB.out.size))
      have HYF := Lib.hid ((hw2.block (w.heap.size + 1) (Array.getElem?_eq_some_iff.1 HG.out.2).1).trans HG.out.2)
      have HRF := Lib.hid (r4_below HO.out hw2)
      have hx := HCB.out
      clear hw2
      cases hq : okWith a b (KS a b k S) k (bkF a b k) with
      | true =>
        have hr := setRow_heap W2 (w.heap.size + 1) _ (CC a b (.slice av k cap) r) _ _ HYF.out
        obtain ⟨q0, q1, q2, q3, q4⟩ := five_cells hr
        go_wp2_with (((with_reducible show wpList _ _ _ (Oper.mk none (Op.store _ (Operand.tmp 6) _) _ _ _ _ :: _) _ _); refine wpList_store_row rfl 56 _ _ rfl (w.heap.size + 1) (CC a b (.slice av k cap) r) rfl rfl 56 _ HYF.out info_cloud rfl (one5 _ _ _ _ _ _ _) ?_))
        refine bodyPost_ret (v := .tuple #[CV a b (.slice av k cap) r, .bool true]) (by simp [results, Try.results26, go_sem, q0, q1, q2, q3, q4]) rfl ?_
        exact ⟨⟨.slice av k cap, ts, r, HTL.out, b_kept HRF.out (grown_setRow W2 (w.heap.size + 1) _) (by omega), HE.out, HIR.out, by rw [hq]; rfl⟩, below_setRow HBF.out (by omega) _⟩
      | false =>
        have hr := setRow_heap W2 (w.heap.size + 1) _ (CC 0 0 (.slice none 0 0) 0) _ _ HYF.out
        obtain ⟨q0, q1, q2, q3, q4⟩ := five_cells hr
        go_wp2_with (((with_reducible show wpList _ _ _ (Oper.mk none (Op.store _ (Operand.tmp 6) _) _ _ _ _ :: _) _ _); refine wpList_store_row rfl 56 _ _ rfl (w.heap.size + 1) (CC 0 0 (.slice none 0 0) 0) rfl rfl 56 _ HYF.out info_cloud rfl (one5 _ _ _ _ _ _ _) ?_))
        refine bodyPost_ret (v := .tuple #[CV 0 0 (.slice none 0 0) 0, .bool false]) (by simp [results, Try.results26, go_sem, q0, q1, q2, q3, q4]) rfl ?_
        exact ⟨⟨.slice av k cap, ts, r, HTL.out, b_kept HRF.out (grown_setRow W2 (w.heap.size + 1) _) (by omega), HE.out, HIR.out, by rw [hq]; rfl⟩, below_setRow HBF.out (by omega) _⟩
end Go.Proofs.Ytibjajgcfbfppaa
