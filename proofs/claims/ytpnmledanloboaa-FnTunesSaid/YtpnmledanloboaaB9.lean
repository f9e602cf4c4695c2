/-
  What the laws of chapter 9 draw: elements.
-/
import Derived.Test.YtpnmledanloboaaSrc
import Derived.Test.YtpnmledanloboaaPas
import Derived.Test.YtpnmledanloboaaBkl
namespace Go.Proofs.Ytpnmledanloboaa
open Go.Fl Go.RowKit Go.Nl
open Go.Joins (ownsRow_le)
set_option linter.unusedSimpArgs false
set_option linter.unusedVariables false

set_option maxHeartbeats 1000000 in
set_option maxRecDepth 100000 in
theorem sAmong9_any (w0 : World) (g k : Nat) (c : Value) (bs : List Int) (v : Value) (xs : List Int) (w : World) (hc : NS .u8 w0 c bs) (hk : k < 1152921504606846976) (h : Src w0 g w c k) (hv : NS .i64 w v xs) (hgv : ∀ b off l m, v = .slice (some ⟨b, off, none⟩) l m → b ≠ g) (hn : 1 ≤ xs.length) :
    Calls Try.prog 89 #[.pointer (some ⟨g, 0, none⟩), v] w fun e w' => ∃ (x : Int) (k' : Nat), k' ≤ k + 2 ∧ x ∈ xs ∧ e = .returned (.int .i64 x) ∧ Src w0 g w' c k' ∧ w.grownBy w' (some g) := by
  obtain ⟨a, cap, rfl, hlc, hcm, hwf, hcell⟩ := hv
  rcases hcell with rfl | ⟨b, off, rfl, hbl, hcell⟩
  · simp at hn
  have hbg : b ≠ g := hgv b off _ _ rfl
  have HS := Lib.hid h
  have HC := Lib.hid hc
  have HCE := Lib.hid hcell
  have HBL := Lib.hid hbl
  unfold maxLen at hcm
  clear h hc hcell hwf hgv
  go_enter Try.func89, Try.ntmps89
  go_wp2_with fail
  refine (sPick_any w0 g k c bs (xs.length : Int) _ HC.out (by omega) (by omega) (by omega) HS.out).mono ?_
  rintro e w1 ⟨n, k1, hn0, hn1, hk1, rfl, S1, G1⟩
  obtain ⟨m, rfl⟩ : ∃ m : Nat, n = m := ⟨n.toNat, by omega⟩
  have hm : m < xs.length := by omega
  have hce : w1.cell? ⟨b, off + m, none⟩ = some (.int .i64 (xs.getD m 0)) := by
    have h1 := HCE.out m hm
    have h2 := G1.block b HBL.out (by simpa using hbg)
    rw [World.cell?, h2]
    exact h1
  have hmem : xs.getD m 0 ∈ xs := by rw [List.getD_eq_getElem?_getD, List.getElem?_eq_getElem hm]; exact List.getElem_mem hm
  have HM := Lib.hid hmem
  have HS1 := Lib.hid S1; have HG1 := Lib.hid G1; have HK := Lib.hid hk1
  clear S1 G1 hk1 hmem
  generalize xs.getD m 0 = x at hce HM
  go_wp2_with fail
  go_ret
  exact ⟨x, k1, HK.out, HM.out, rfl, HS1.out, HG1.out⟩

/-- Quarters up to 1; halves from 1 to 7/2; both with either sign. -/
def QS : List Nat := [1048576000, 1056964608, 1061158912, 1065353216]
def LS : List Nat := [1065353216, 1069547520, 1073741824, 1075838976, 1077936128, 1080033280]
def QS2 : List Nat := QS ++ QS.map (Op.negFloat .f32)
def LS2 : List Nat := LS ++ LS.map (Op.negFloat .f32)
/-- An element that is drawn. -/
def DrE (t : El) : Prop := t.p = 0 ∧ ((t.k = 0 ∧ t.n ∈ QS) ∨ (t.k = 1 ∧ t.n ∈ LS2) ∨ (t.k = 3 ∧ t.n ∈ QS2))
theorem DrE.plain {t : El} (h : DrE t) : plainE t := by rcases h.2 with h | h | h; exact .inl h.1; exact .inr (.inl h.1); exact .inr (.inr h.1)
theorem q_tab : ((List.range 4).all fun n => QS.contains (fop .quo .f32 (floatOfInt .f32 (1 + (n : Int))) 1082130432)) = true := by decide +kernel
theorem l_tab : ((List.range 6).all fun n => LS.contains (fop .quo .f32 (floatOfInt .f32 (2 + (n : Int))) 1073741824)) = true := by decide +kernel
theorem q_lt : ∀ x ∈ QS2 ++ LS2, x < 2 ^ FloatKind.f32.format.width ∧ Fl.nan .f32 x = false ∧ fin .f32 x = true ∧ cn .f32 x = x ∧ (fcmp .neq .f32 x 0 = true) := by decide +kernel
theorem q_in {N : Int} (h0 : 0 ≤ N) (h1 : N < 4) {r : Nat} (hr : Is .f32 r (fop .quo .f32 (floatOfInt .f32 (1 + N)) 1082130432)) : r ∈ QS := by
  have h := List.all_eq_true.1 q_tab N.toNat (List.mem_range.2 (by omega))
  rw [show ((N.toNat : Nat) : Int) = N by omega] at h
  have h2 : fop .quo .f32 (floatOfInt .f32 (1 + N)) 1082130432 ∈ QS := by simpa using h
  have h3 := (q_lt _ (List.mem_append_left _ (List.mem_append_left _ h2))).2.1
  rw [hr.same h3]
  exact h2
theorem l_in {N : Int} (h0 : 0 ≤ N) (h1 : N < 6) {r : Nat} (hr : Is .f32 r (fop .quo .f32 (floatOfInt .f32 (2 + N)) 1073741824)) : r ∈ LS := by
  have h := List.all_eq_true.1 l_tab N.toNat (List.mem_range.2 (by omega))
  rw [show ((N.toNat : Nat) : Int) = N by omega] at h
  have h2 : fop .quo .f32 (floatOfInt .f32 (2 + N)) 1073741824 ∈ LS := by simpa using h
  have h3 := (q_lt _ (List.mem_append_right _ (List.mem_append_left _ h2))).2.1
  rw [hr.same h3]
  exact h2
theorem DrE.okb {t : El} (h : DrE t) : t.n ∈ QS2 ++ LS2 := by
  rcases h.2 with h | h | h
  · exact List.mem_append_left _ (List.mem_append_left _ h.2)
  · exact List.mem_append_right _ h.2
  · exact List.mem_append_left _ h.2
theorem DrE.ok {t : El} (h : DrE t) : t.ok := by
  have hb := q_lt _ h.okb
  refine ⟨?_, ?_, hb.1, by rw [h.1]; decide⟩
  · rcases h.2 with h | h | h <;> rw [h.1] <;> decide
  · rcases h.2 with h | h | h <;> rw [h.1] <;> decide
/-- Where a round of the drawing stands. -/
structure Bx (w0 w : World) (g b : Nat) (c : Value) (k : Nat) (k0 : Int) (n0 : Nat) (W : World) : Prop where
  src : Src w0 g W c k
  grw : w.grownBy W (some g)
  box : W.heap[b]? = some (EO ⟨k0, n0, 0⟩)
  gb : g < b
  wb : w.heap.size ≤ b
theorem Bx.pick {w0 w W W' : World} {g b k k' : Nat} {c : Value} {k0 : Int} {n0 : Nat} (h : Bx w0 w g b c k k0 n0 W) (S : Src w0 g W' c k') (G : W.grownBy W' (some g)) : Bx w0 w g b c k' k0 n0 W' :=
  ⟨S, grown_trans h.grw G, (G.block b (Array.getElem?_eq_some_iff.1 h.box).1 (fun e => by have h2 : b = g := Option.some.inj e; have := h.gb; omega)).trans h.box, h.gb, h.wb⟩
theorem Bx.below {w0 w W W' : World} {g b k : Nat} {c : Value} {k0 : Int} {n0 : Nat} (h : Bx w0 w g b c k k0 n0 W) (hb : Below W.heap.size W W') : Bx w0 w g b c k k0 n0 W' :=
  ⟨h.src.below hb, grown_trans h.grw (grown_below hb), (hb.block b (Array.getElem?_eq_some_iff.1 h.box).1).trans h.box, h.gb, h.wb⟩
theorem Bx.drew {w0 w W : World} {g b k : Nat} {c : Value} {k0 : Int} {n0 : Nat} (h : Bx w0 w g b c k k0 n0 W) (n : Nat) : Bx w0 w g b c k k0 n0 (W.drewN n) := h.below (below_drewN (Below.refl _ _) n)
theorem Bx.set {w0 w W : World} {g b k : Nat} {c : Value} {k0 : Int} {n0 : Nat} (h : Bx w0 w g b c k k0 n0 W) (n1 : Nat) : Bx w0 w g b c k k0 n1 (W.setCell ⟨b, 1, none⟩ (.float .f32 n1)) :=
  ⟨h.src.set h.gb _, grown_set h.grw h.wb _, heap_setCell_same W b 1 _ _ (.float .f32 n1) h.box, h.gb, h.wb⟩
theorem Bx.cells {w0 w W : World} {g b k : Nat} {c : Value} {k0 : Int} {n0 : Nat} (h : Bx w0 w g b c k k0 n0 W) :
    W.cell? ⟨b, 0, none⟩ = some (.int .i64 k0) ∧ W.cell? ⟨b, 1, none⟩ = some (.float .f32 n0) ∧ W.cell? ⟨b, 2, none⟩ = some (.float .f32 0) ∧ W.frozen? ⟨b, 1, none⟩ = false :=
  ⟨by rw [Joins.cell_of_block h.box]; rfl, by rw [Joins.cell_of_block h.box]; rfl, by rw [Joins.cell_of_block h.box]; rfl, by simp [World.frozen?, h.box]⟩
theorem i9_tab : ((List.range 16).all fun n => isCanon .f32 (floatOfInt .f32 (n : Int))) = true := by decide +kernel
theorem is_i9 (x : Int) (h0 : 0 ≤ x) (h1 : x < 16) : Is .f32 (floatOfInt .f32 x) (floatOfInt .f32 x) := by
  have h := List.all_eq_true.1 i9_tab x.toNat (List.mem_range.2 (by omega))
  rw [show ((x.toNat : Nat) : Int) = x by omega] at h
  exact Is.const h
theorem ns_lit9 (w : World) (xs : List Int) (t : TypeId) (hn : 1 ≤ xs.length) (hm : xs.length ≤ maxLen) (hw : ∀ x ∈ xs, (Lit.int .i64 x).wf = true) :
    NS .i64 (w.alloc (.cells (xs.map (Value.int .i64)).toArray t)) (.slice (some ⟨w.heap.size, 0, none⟩) xs.length xs.length) xs := by
  refine ⟨_, _, rfl, Nat.le_refl _, hm, hw, .inr ⟨w.heap.size, 0, rfl, by simp, fun i hi => ?_⟩⟩
  rw [Joins.cell_of_block (heap_alloc_new w _)]
  simp [hi, List.getD_eq_getElem?_getD]
theorem e_own_lt {B g : Nat} {w : World} {v : Value} {xs : List El} (h : EOwn B w v xs) (hg : g < B) : v.ownBlock = none ∨ v.ownBlock ≠ (Value.slice (some ⟨g, 0, none⟩) 0 0).ownBlock := by
  rcases h.2 with ⟨rfl, _⟩ | ⟨g', cap, cur, rfl, hB, _⟩
  · exact .inl rfl
  · exact .inr (fun e => by have h2 : g' = g := by simpa [Value.ownBlock] using e
                            omega)
set_option maxHeartbeats 4000000 in
set_option maxRecDepth 100000 in
theorem sElements_any (c : Value) (bs : List Int) (w : World) (hc : NS .u8 w c bs) :
    Calls Try.prog 47 #[c] w fun e w' => ∃ v ts, e = .returned v ∧ ts.length ≤ 4 ∧ (∀ t ∈ ts, DrE t) ∧ EOwn w.heap.size w' v ts ∧ Below w.heap.size w w' := by
  have HC := Lib.hid hc
  clear hc
  go_enter Try.func47, Try.ntmps47
  go_wp2_with fail
  refine (sFrom_src c bs _ HC.out).mono ?_
  rintro e w1 ⟨g, rfl, S1⟩
  have HS1 := Lib.hid S1
  have HG := Lib.hid S1.lt
  have HG0 := Lib.hid S1.2.1
  clear S1
  go_wp2_with fail
  have HO1 := Lib.hid (show EOwn w1.heap.size (w1.alloc (.cells #[] 67)) (.slice (some ⟨w1.heap.size, 0, none⟩) 0 0) [] from World.ownsRow_made w1 #[] 0 (Nat.le_refl _) (Nat.zero_le _) rfl)
  have HS2 := Lib.hid (HS1.out.below ((Below.refl w1.heap.size w1).alloc (Nat.le_refl _) (.cells #[] 67)))
  have HZ := Lib.hid (show w1.heap.size ≤ (w1.alloc (.cells #[] 67)).heap.size by simp)
  generalize w1.alloc (.cells #[] 67) = w2 at HO1 HS2 HZ ⊢
  have HW1 := Lib.hid (show w.heap.size ≤ w1.heap.size from HS1.out.1.size)
  generalize w1.heap.size = B at HO1 HG HZ HW1 ⊢
  clear HS1
  refine (sPick_any w g 0 c bs 5 _ HC.out (by omega) (by omega) (by omega) HS2.out).mono ?_
  rintro e w3 ⟨N, k, hn0, hn1, hk, rfl, S3, G3⟩
  have HS3 := Lib.hid S3
  have HO3 := Lib.hid (e_grown (u := .slice (some ⟨g, 0, none⟩) 0 0) HO1.out G3 (e_own_lt HO1.out HG.out))
  have HZ3 := Lib.hid (Nat.le_trans HZ.out G3.size)
  clear S3 G3 HO1 HS2 HZ
  go_wp2_with fail
  go_loopw [4, 5] (fun v n wr => ∃ (ts : List El) (M k : Nat), n = .int .i64 (M : Int) ∧ ts.length + M ≤ 4 ∧ k + 14 * M ≤ 100 ∧ Hid (Src w g wr c k) ∧ Hid (∀ t ∈ ts, DrE t) ∧ (∃ gv cap, v = .slice (some ⟨gv, 0, none⟩) ts.length cap ∧ Hid (EOwn B wr (.slice (some ⟨gv, 0, none⟩) ts.length cap) ts)) ∧ B ≤ wr.heap.size) (fun _ n _ => (intOf n).toNat)
  case atStart => exact ⟨[], N.toNat, k, by rw [show ((N.toNat : Nat) : Int) = N by omega], by simp; omega, by omega, HS3, Lib.hid (fun t ht => by cases ht), ⟨_, _, rfl, HO3⟩, HZ3.out⟩
  case round =>
    clear HS3 HO3 HZ3
    obtain ⟨ts, M, k, rfl, hl, hk, HS, HD, ⟨gv, cap, rfl, HO⟩, hz⟩ := hrel
    by_cases hM : 0 < M
    · have HM := Lib.hid hM
      go_wp2_with fail
      have hbA := (Below.refl wr.heap.size wr).alloc (Nat.le_refl _) (.cells #[.int .i64 0, .int .i64 1, .int .i64 3] 2)
      have hgw := HS.out.lt
      refine (sAmong9_any w g k c bs _ [0, 1, 3] _ HC.out (by omega) (HS.out.below hbA) (ns_lit9 wr [0, 1, 3] 2 (by decide) (by decide) (by decide)) (fun b off l m e => by simp only [Value.slice.injEq, Option.some.injEq, Addr.mk.injEq] at e; omega) (by decide)).mono ?_
      rintro e w4 ⟨x, k4, hk4, hx, rfl, S4, G4⟩
      have HG4 := Lib.hid (grown_trans (grown_below hbA) G4)
      have HS4 := Lib.hid S4
      have HXM := Lib.hid hx
      clear S4 G4 hx hbA
      rcases (show x = 0 ∨ x = 1 ∨ x = 3 by simpa using HXM.out) with rfl | rfl | rfl
      · skip
        have HX4 := Lib.hid (show Bx w wr g w4.heap.size c k4 0 0 (w4.alloc (EO ⟨0, 0, 0⟩)) from
          ⟨HS4.out.below ((Below.refl _ _).alloc (Nat.le_refl _) _), grown_trans HG4.out (grown_below ((Below.refl _ _).alloc (Nat.le_refl _) _)), heap_alloc_new _ _, HS4.out.lt, HG4.out.size⟩)
        go_wp2_with fail
        refine (sPick_any w g k4 c bs 4 _ HC.out (by omega) (by omega) (by omega) HX4.out.src).mono ?_
        rintro e w5 ⟨N5, k5, hn0, hn1, hk5, rfl, S5, G5⟩
        have HX5 := Lib.hid ((HX4.out).pick S5 G5)
        obtain ⟨e0, e1, e2, f1⟩ := HX5.out.cells
        have i1 := is_i9 (1 + N5) (by omega) (by omega)
        have hw1 : wrap64 (1 + N5) = 1 + N5 := by unfold wrap64; omega
        have HIN5 := Lib.hid (fun (r : Nat) (h : Is .f32 r (fop .quo .f32 (floatOfInt .f32 (1 + N5)) 1082130432)) => q_in hn0 hn1 h)
        clear S5 G5 hn0 hn1
        go_wp2_with (first | (at_builtin; refine haltE ?_) | ((apply wpList_farith; rfl; rfl; rfl; rfl; (first | with_reducible assumption | exact Is.const rfl); (first | with_reducible assumption | exact Is.const rfl); intro r n hr); have HQ5 := Lib.hid (HIN5.out _ hr); clear hr))
        unfold HaltE
        have HXT := Lib.hid ((HX5.out.drew n).set r)
        have HDR := Lib.hid (show DrE ⟨0, r, 0⟩ from ⟨rfl, .inl ⟨rfl, HQ5.out⟩⟩)
        have HOW := Lib.hid (e_grown (u := .slice (some ⟨g, 0, none⟩) 0 0) HO.out HXT.out.grw (e_own_lt HO.out HG.out))
        obtain ⟨hgv1, hgv2⟩ := HOW.out.lt gv rfl
        have hgB : g < B := HG.out
        have hgw : w.heap.size ≤ g := HG0.out
        have hzW := Nat.le_trans hz HXT.out.grw.size
        refine wpList_appE rfl _ _ rfl B _ ts.length ts rfl (e_below HOW.out ((Below.refl _ _).alloc (Nat.le_refl _) _)) rfl _ 1 rfl _ _ _ (by have h := heap_alloc_new ((w5.drewN n).setCell ⟨w4.heap.size, 1, none⟩ (.float .f32 r)) (EO ⟨0, r, 0⟩); rw [show ((w5.drewN n).setCell ⟨w4.heap.size, 1, none⟩ (.float .f32 r)).heap.size = w5.heap.size by simp] at h; exact h) (by omega) (by rw [World.size_alloc]; exact Nat.le_succ_of_le hzW) ?_
        intro g2 cap2 w9 hO2 hg2
        have HSA := HXT.out.src.below ((Below.refl _ _).alloc (Nat.le_refl _) (EO ⟨0, r, 0⟩))
        have HSN := Lib.hid (HSA.kept hg2 (fun e => by have h4 : gv = g := Option.some.inj e; omega) (HSA.1.trans ⟨hg2.os, hg2.tape, hg2.output, hg2.size, fun i hi => hg2.block i (Nat.lt_of_lt_of_le hi HSA.1.size) (fun e => by have h4 : gv = i := Option.some.inj e.symm; omega)⟩))
        have hzN : B ≤ w9.heap.size := Nat.le_trans (by rw [World.size_alloc]; exact Nat.le_succ_of_le hzW) hg2.size
        have HO9 := Lib.hid hO2
        clear hO2 hg2 HSA
        go_wp2_with fail
        go_roundw
        case rel => exact ⟨ts ++ [⟨0, r, 0⟩], M - 1, k5, by have := HM.out; rw [Int.natCast_sub (by omega)]; go_num, by rw [List.length_append, List.length_singleton]; have := HM.out; omega, by have := HM.out; omega, HSN, Lib.hid (fun t ht => by
          rcases List.mem_append.1 ht with h | h
          · exact HD.out t h
          · rw [List.mem_singleton.1 h]; exact HDR.out), ⟨_, _, by rw [List.length_append, List.length_singleton], by rw [List.length_append, List.length_singleton]; exact HO9⟩, hzN⟩
        case measure => simp [intOf]; have := HM.out; omega
      · skip
        have HX4 := Lib.hid (show Bx w wr g w4.heap.size c k4 1 0 (w4.alloc (EO ⟨1, 0, 0⟩)) from
          ⟨HS4.out.below ((Below.refl _ _).alloc (Nat.le_refl _) _), grown_trans HG4.out (grown_below ((Below.refl _ _).alloc (Nat.le_refl _) _)), heap_alloc_new _ _, HS4.out.lt, HG4.out.size⟩)
        go_wp2_with fail
        refine (sPick_any w g k4 c bs 4 _ HC.out (by omega) (by omega) (by omega) HX4.out.src).mono ?_
        rintro e w5 ⟨N5, k5, hn0, hn1, hk5, rfl, S5, G5⟩
        have HX5 := Lib.hid ((HX4.out).pick S5 G5)
        obtain ⟨e0, e1, e2, f1⟩ := HX5.out.cells
        have i1 := is_i9 (1 + N5) (by omega) (by omega)
        have hw1 : wrap64 (1 + N5) = 1 + N5 := by unfold wrap64; omega
        have HIN5 := Lib.hid (fun (r : Nat) (h : Is .f32 r (fop .quo .f32 (floatOfInt .f32 (1 + N5)) 1082130432)) => q_in hn0 hn1 h)
        clear S5 G5 hn0 hn1
        go_wp2_with ((apply wpList_farith; rfl; rfl; rfl; rfl; (first | with_reducible assumption | exact Is.const rfl); (first | with_reducible assumption | exact Is.const rfl); intro r n hr); have HQ5 := Lib.hid (HIN5.out _ hr); clear hr)
        clear e0 e1 e2 f1 i1 hw1
        refine (sPick_any w g k5 c bs 6 _ HC.out (by omega) (by omega) (by omega) ((HX5.out.drew _).set r).src).mono ?_
        rintro e w6 ⟨N6, k6, hn0, hn1, hk6, rfl, S6, G6⟩
        have HX6 := Lib.hid ((((HX5.out.drew _).set r)).pick S6 G6)
        obtain ⟨e0, e1, e2, f1⟩ := HX6.out.cells
        have i1 := is_i9 (2 + N6) (by omega) (by omega)
        have hw1 : wrap64 (2 + N6) = 2 + N6 := by unfold wrap64; omega
        have HIN6 := Lib.hid (fun (r : Nat) (h : Is .f32 r (fop .quo .f32 (floatOfInt .f32 (2 + N6)) 1073741824)) => l_in hn0 hn1 h)
        clear S6 G6 hn0 hn1
        go_wp2_with ((apply wpList_farith; rfl; rfl; rfl; rfl; (first | with_reducible assumption | exact Is.const rfl); (first | with_reducible assumption | exact Is.const rfl); intro r n hr); have HQ6 := Lib.hid (HIN6.out _ hr); clear hr)
        clear e0 e1 e2 f1 i1 hw1
        refine (sOne_any w g k6 c bs 2 _ HC.out (by omega) (by omega) (by omega) ((HX6.out.drew _).set r).src).mono ?_
        rintro e w7 ⟨o, k7, hk7, rfl, S7, G7⟩
        have HX7 := Lib.hid (((HX6.out.drew _).set r).pick S7 G7)
        obtain ⟨e0, e1, e2, f1⟩ := HX7.out.cells
        clear S7 G7
        cases o with
        | false =>
          go_wp2_with (at_builtin; refine haltE ?_)
          unfold HaltE
          have HXT := Lib.hid (HX7.out)
          have HDR := Lib.hid (show DrE ⟨1, r, 0⟩ from ⟨rfl, .inr (.inl ⟨rfl, List.mem_append_left _ HQ6.out⟩)⟩)
          have HOW := Lib.hid (e_grown (u := .slice (some ⟨g, 0, none⟩) 0 0) HO.out HXT.out.grw (e_own_lt HO.out HG.out))
          obtain ⟨hgv1, hgv2⟩ := HOW.out.lt gv rfl
          have hgB : g < B := HG.out
          have hgw : w.heap.size ≤ g := HG0.out
          have hzW := Nat.le_trans hz HXT.out.grw.size
          refine wpList_appE rfl _ _ rfl B _ ts.length ts rfl (e_below HOW.out ((Below.refl _ _).alloc (Nat.le_refl _) _)) rfl _ 1 rfl _ _ _ (by have h := heap_alloc_new (w7) (EO ⟨1, r, 0⟩); exact h) (by omega) (by rw [World.size_alloc]; exact Nat.le_succ_of_le hzW) ?_
          intro g2 cap2 w9 hO2 hg2
          have HSA := HXT.out.src.below ((Below.refl _ _).alloc (Nat.le_refl _) (EO ⟨1, r, 0⟩))
          have HSN := Lib.hid (HSA.kept hg2 (fun e => by have h4 : gv = g := Option.some.inj e; omega) (HSA.1.trans ⟨hg2.os, hg2.tape, hg2.output, hg2.size, fun i hi => hg2.block i (Nat.lt_of_lt_of_le hi HSA.1.size) (fun e => by have h4 : gv = i := Option.some.inj e.symm; omega)⟩))
          have hzN : B ≤ w9.heap.size := Nat.le_trans (by rw [World.size_alloc]; exact Nat.le_succ_of_le hzW) hg2.size
          have HO9 := Lib.hid hO2
          clear hO2 hg2 HSA
          go_wp2_with fail
          go_roundw
          case rel => exact ⟨ts ++ [⟨1, r, 0⟩], M - 1, k7, by have := HM.out; rw [Int.natCast_sub (by omega)]; go_num, by rw [List.length_append, List.length_singleton]; have := HM.out; omega, by have := HM.out; omega, HSN, Lib.hid (fun t ht => by
            rcases List.mem_append.1 ht with h | h
            · exact HD.out t h
            · rw [List.mem_singleton.1 h]; exact HDR.out), ⟨_, _, by rw [List.length_append, List.length_singleton], by rw [List.length_append, List.length_singleton]; exact HO9⟩, hzN⟩
          case measure => simp [intOf]; have := HM.out; omega
        | true =>
          go_wp2_with (at_builtin; refine haltE ?_)
          unfold HaltE
          have HXT := Lib.hid (HX7.out.set (Op.negFloat .f32 r))
          have HDR := Lib.hid (show DrE ⟨1, (Op.negFloat .f32 r), 0⟩ from ⟨rfl, .inr (.inl ⟨rfl, List.mem_append_right _ (List.mem_map_of_mem HQ6.out)⟩)⟩)
          have HOW := Lib.hid (e_grown (u := .slice (some ⟨g, 0, none⟩) 0 0) HO.out HXT.out.grw (e_own_lt HO.out HG.out))
          obtain ⟨hgv1, hgv2⟩ := HOW.out.lt gv rfl
          have hgB : g < B := HG.out
          have hgw : w.heap.size ≤ g := HG0.out
          have hzW := Nat.le_trans hz HXT.out.grw.size
          refine wpList_appE rfl _ _ rfl B _ ts.length ts rfl (e_below HOW.out ((Below.refl _ _).alloc (Nat.le_refl _) _)) rfl _ 1 rfl _ _ _ (by have h := heap_alloc_new (w7.setCell ⟨w4.heap.size, 1, none⟩ (.float .f32 (Op.negFloat .f32 r))) (EO ⟨1, (Op.negFloat .f32 r), 0⟩); rw [show (w7.setCell ⟨w4.heap.size, 1, none⟩ (.float .f32 (Op.negFloat .f32 r))).heap.size = w7.heap.size by simp] at h; exact h) (by omega) (by rw [World.size_alloc]; exact Nat.le_succ_of_le hzW) ?_
          intro g2 cap2 w9 hO2 hg2
          have HSA := HXT.out.src.below ((Below.refl _ _).alloc (Nat.le_refl _) (EO ⟨1, (Op.negFloat .f32 r), 0⟩))
          have HSN := Lib.hid (HSA.kept hg2 (fun e => by have h4 : gv = g := Option.some.inj e; omega) (HSA.1.trans ⟨hg2.os, hg2.tape, hg2.output, hg2.size, fun i hi => hg2.block i (Nat.lt_of_lt_of_le hi HSA.1.size) (fun e => by have h4 : gv = i := Option.some.inj e.symm; omega)⟩))
          have hzN : B ≤ w9.heap.size := Nat.le_trans (by rw [World.size_alloc]; exact Nat.le_succ_of_le hzW) hg2.size
          have HO9 := Lib.hid hO2
          clear hO2 hg2 HSA
          go_wp2_with fail
          go_roundw
          case rel => exact ⟨ts ++ [⟨1, (Op.negFloat .f32 r), 0⟩], M - 1, k7, by have := HM.out; rw [Int.natCast_sub (by omega)]; go_num, by rw [List.length_append, List.length_singleton]; have := HM.out; omega, by have := HM.out; omega, HSN, Lib.hid (fun t ht => by
            rcases List.mem_append.1 ht with h | h
            · exact HD.out t h
            · rw [List.mem_singleton.1 h]; exact HDR.out), ⟨_, _, by rw [List.length_append, List.length_singleton], by rw [List.length_append, List.length_singleton]; exact HO9⟩, hzN⟩
          case measure => simp [intOf]; have := HM.out; omega
      · skip
        have HX4 := Lib.hid (show Bx w wr g w4.heap.size c k4 3 0 (w4.alloc (EO ⟨3, 0, 0⟩)) from
          ⟨HS4.out.below ((Below.refl _ _).alloc (Nat.le_refl _) _), grown_trans HG4.out (grown_below ((Below.refl _ _).alloc (Nat.le_refl _) _)), heap_alloc_new _ _, HS4.out.lt, HG4.out.size⟩)
        go_wp2_with fail
        refine (sPick_any w g k4 c bs 4 _ HC.out (by omega) (by omega) (by omega) HX4.out.src).mono ?_
        rintro e w5 ⟨N5, k5, hn0, hn1, hk5, rfl, S5, G5⟩
        have HX5 := Lib.hid ((HX4.out).pick S5 G5)
        obtain ⟨e0, e1, e2, f1⟩ := HX5.out.cells
        have i1 := is_i9 (1 + N5) (by omega) (by omega)
        have hw1 : wrap64 (1 + N5) = 1 + N5 := by unfold wrap64; omega
        have HIN5 := Lib.hid (fun (r : Nat) (h : Is .f32 r (fop .quo .f32 (floatOfInt .f32 (1 + N5)) 1082130432)) => q_in hn0 hn1 h)
        clear S5 G5 hn0 hn1
        go_wp2_with ((apply wpList_farith; rfl; rfl; rfl; rfl; (first | with_reducible assumption | exact Is.const rfl); (first | with_reducible assumption | exact Is.const rfl); intro r n hr); have HQ5 := Lib.hid (HIN5.out _ hr); clear hr)
        clear e0 e1 e2 f1 i1 hw1
        refine (sOne_any w g k5 c bs 2 _ HC.out (by omega) (by omega) (by omega) ((HX5.out.drew _).set r).src).mono ?_
        rintro e w7 ⟨o, k7, hk7, rfl, S7, G7⟩
        have HX7 := Lib.hid (((HX5.out.drew _).set r).pick S7 G7)
        obtain ⟨e0, e1, e2, f1⟩ := HX7.out.cells
        clear S7 G7
        cases o with
        | false =>
          go_wp2_with (at_builtin; refine haltE ?_)
          unfold HaltE
          have HXT := Lib.hid (HX7.out)
          have HDR := Lib.hid (show DrE ⟨3, r, 0⟩ from ⟨rfl, .inr (.inr ⟨rfl, List.mem_append_left _ HQ5.out⟩)⟩)
          have HOW := Lib.hid (e_grown (u := .slice (some ⟨g, 0, none⟩) 0 0) HO.out HXT.out.grw (e_own_lt HO.out HG.out))
          obtain ⟨hgv1, hgv2⟩ := HOW.out.lt gv rfl
          have hgB : g < B := HG.out
          have hgw : w.heap.size ≤ g := HG0.out
          have hzW := Nat.le_trans hz HXT.out.grw.size
          refine wpList_appE rfl _ _ rfl B _ ts.length ts rfl (e_below HOW.out ((Below.refl _ _).alloc (Nat.le_refl _) _)) rfl _ 1 rfl _ _ _ (by have h := heap_alloc_new (w7) (EO ⟨3, r, 0⟩); exact h) (by omega) (by rw [World.size_alloc]; exact Nat.le_succ_of_le hzW) ?_
          intro g2 cap2 w9 hO2 hg2
          have HSA := HXT.out.src.below ((Below.refl _ _).alloc (Nat.le_refl _) (EO ⟨3, r, 0⟩))
          have HSN := Lib.hid (HSA.kept hg2 (fun e => by have h4 : gv = g := Option.some.inj e; omega) (HSA.1.trans ⟨hg2.os, hg2.tape, hg2.output, hg2.size, fun i hi => hg2.block i (Nat.lt_of_lt_of_le hi HSA.1.size) (fun e => by have h4 : gv = i := Option.some.inj e.symm; omega)⟩))
          have hzN : B ≤ w9.heap.size := Nat.le_trans (by rw [World.size_alloc]; exact Nat.le_succ_of_le hzW) hg2.size
          have HO9 := Lib.hid hO2
          clear hO2 hg2 HSA
          go_wp2_with fail
          go_roundw
          case rel => exact ⟨ts ++ [⟨3, r, 0⟩], M - 1, k7, by have := HM.out; rw [Int.natCast_sub (by omega)]; go_num, by rw [List.length_append, List.length_singleton]; have := HM.out; omega, by have := HM.out; omega, HSN, Lib.hid (fun t ht => by
            rcases List.mem_append.1 ht with h | h
            · exact HD.out t h
            · rw [List.mem_singleton.1 h]; exact HDR.out), ⟨_, _, by rw [List.length_append, List.length_singleton], by rw [List.length_append, List.length_singleton]; exact HO9⟩, hzN⟩
          case measure => simp [intOf]; have := HM.out; omega
        | true =>
          go_wp2_with (at_builtin; refine haltE ?_)
          unfold HaltE
          have HXT := Lib.hid (HX7.out.set (Op.negFloat .f32 r))
          have HDR := Lib.hid (show DrE ⟨3, (Op.negFloat .f32 r), 0⟩ from ⟨rfl, .inr (.inr ⟨rfl, List.mem_append_right _ (List.mem_map_of_mem HQ5.out)⟩)⟩)
          have HOW := Lib.hid (e_grown (u := .slice (some ⟨g, 0, none⟩) 0 0) HO.out HXT.out.grw (e_own_lt HO.out HG.out))
          obtain ⟨hgv1, hgv2⟩ := HOW.out.lt gv rfl
          have hgB : g < B := HG.out
          have hgw : w.heap.size ≤ g := HG0.out
          have hzW := Nat.le_trans hz HXT.out.grw.size
          refine wpList_appE rfl _ _ rfl B _ ts.length ts rfl (e_below HOW.out ((Below.refl _ _).alloc (Nat.le_refl _) _)) rfl _ 1 rfl _ _ _ (by have h := heap_alloc_new (w7.setCell ⟨w4.heap.size, 1, none⟩ (.float .f32 (Op.negFloat .f32 r))) (EO ⟨3, (Op.negFloat .f32 r), 0⟩); rw [show (w7.setCell ⟨w4.heap.size, 1, none⟩ (.float .f32 (Op.negFloat .f32 r))).heap.size = w7.heap.size by simp] at h; exact h) (by omega) (by rw [World.size_alloc]; exact Nat.le_succ_of_le hzW) ?_
          intro g2 cap2 w9 hO2 hg2
          have HSA := HXT.out.src.below ((Below.refl _ _).alloc (Nat.le_refl _) (EO ⟨3, (Op.negFloat .f32 r), 0⟩))
          have HSN := Lib.hid (HSA.kept hg2 (fun e => by have h4 : gv = g := Option.some.inj e; omega) (HSA.1.trans ⟨hg2.os, hg2.tape, hg2.output, hg2.size, fun i hi => hg2.block i (Nat.lt_of_lt_of_le hi HSA.1.size) (fun e => by have h4 : gv = i := Option.some.inj e.symm; omega)⟩))
          have hzN : B ≤ w9.heap.size := Nat.le_trans (by rw [World.size_alloc]; exact Nat.le_succ_of_le hzW) hg2.size
          have HO9 := Lib.hid hO2
          clear hO2 hg2 HSA
          go_wp2_with fail
          go_roundw
          case rel => exact ⟨ts ++ [⟨3, (Op.negFloat .f32 r), 0⟩], M - 1, k7, by have := HM.out; rw [Int.natCast_sub (by omega)]; go_num, by rw [List.length_append, List.length_singleton]; have := HM.out; omega, by have := HM.out; omega, HSN, Lib.hid (fun t ht => by
            rcases List.mem_append.1 ht with h | h
            · exact HD.out t h
            · rw [List.mem_singleton.1 h]; exact HDR.out), ⟨_, _, by rw [List.length_append, List.length_singleton], by rw [List.length_append, List.length_singleton]; exact HO9⟩, hzN⟩
          case measure => simp [intOf]; have := HM.out; omega
    · obtain rfl : M = 0 := by omega
      clear hM
      go_wp2
      go_ret
      exact ⟨_, ts, rfl, by omega, HD.out, ownsRow_le HO.out HW1.out, HS.out.1⟩
end Go.Proofs.Ytpnmledanloboaa
