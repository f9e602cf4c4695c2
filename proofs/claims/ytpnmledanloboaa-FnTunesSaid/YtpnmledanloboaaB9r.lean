/-
  What the laws of chapter 9 draw: rays.
-/
import Derived.Test.YtpnmledanloboaaB9
import Derived.Test.YtpnmledanloboaaRy
namespace Go.Proofs.Ytpnmledanloboaa
open Go.Fl Go.RowKit Go.Nl
open Go.Joins (ownsRow_le)
set_option linter.unusedSimpArgs false
set_option linter.unusedVariables false

/-- Eighths from -1 to 1; eighths below 1; quarters up to 1. -/
def XS : List Nat := (List.range 17).map fun (n : Nat) => fop .quo .f32 (floatOfInt .f32 ((n : Int) - 8)) 1090519040
def PS : List Nat := (List.range 8).map fun (n : Nat) => fop .quo .f32 (floatOfInt .f32 (n : Int)) 1090519040
def ES5 : List Nat := (List.range 5).map fun (n : Nat) => fop .quo .f32 (floatOfInt .f32 (n : Int)) 1082130432
/-- A ray that is drawn. -/
def DrR (r : Ry) : Prop := r.x ∈ XS ∧ r.y ∈ XS ∧ r.p ∈ PS ∧ r.e ∈ ES5
theorem xs_lt : ∀ x ∈ XS ++ PS ++ ES5, x < 2 ^ FloatKind.f32.format.width ∧ Fl.nan .f32 x = false ∧ fin .f32 x = true ∧ cn .f32 x = x := by decide +kernel
theorem x_in {N : Int} (h0 : 0 ≤ N) (h1 : N < 17) {r : Nat} (hr : Is .f32 r (fop .quo .f32 (floatOfInt .f32 (N - 8)) 1090519040)) : r ∈ XS := by
  have h2 : fop .quo .f32 (floatOfInt .f32 (N - 8)) 1090519040 ∈ XS := List.mem_map.2 ⟨N.toNat, List.mem_range.2 (by omega), by rw [show ((N.toNat : Nat) : Int) = N by omega]⟩
  rw [hr.same (xs_lt _ (List.mem_append_left _ (List.mem_append_left _ h2))).2.1]
  exact h2
theorem p_in {N : Int} (h0 : 0 ≤ N) (h1 : N < 8) {r : Nat} (hr : Is .f32 r (fop .quo .f32 (floatOfInt .f32 N) 1090519040)) : r ∈ PS := by
  have h2 : fop .quo .f32 (floatOfInt .f32 N) 1090519040 ∈ PS := List.mem_map.2 ⟨N.toNat, List.mem_range.2 (by omega), by rw [show ((N.toNat : Nat) : Int) = N by omega]⟩
  rw [hr.same (xs_lt _ (List.mem_append_left _ (List.mem_append_right _ h2))).2.1]
  exact h2
theorem e_in {N : Int} (h0 : 0 ≤ N) (h1 : N < 5) {r : Nat} (hr : Is .f32 r (fop .quo .f32 (floatOfInt .f32 N) 1082130432)) : r ∈ ES5 := by
  have h2 : fop .quo .f32 (floatOfInt .f32 N) 1082130432 ∈ ES5 := List.mem_map.2 ⟨N.toNat, List.mem_range.2 (by omega), by rw [show ((N.toNat : Nat) : Int) = N by omega]⟩
  rw [hr.same (xs_lt _ (List.mem_append_right _ h2)).2.1]
  exact h2
theorem i9n_tab : ((List.range 17).all fun n => isCanon .f32 (floatOfInt .f32 ((n : Int) - 8))) = true := by decide +kernel
theorem is_i9n (x : Int) (h0 : -8 ≤ x) (h1 : x ≤ 8) : Is .f32 (floatOfInt .f32 x) (floatOfInt .f32 x) := by
  have h := List.all_eq_true.1 i9n_tab (x + 8).toNat (List.mem_range.2 (by omega))
  rw [show (((x + 8).toNat : Nat) : Int) - 8 = x by omega] at h
  exact Is.const h
/-- Where a round of the drawing stands. -/
structure BxR (w0 w : World) (g b : Nat) (c : Value) (k : Nat) (r : Ry) (W : World) : Prop where
  src : Src w0 g W c k
  grw : w.grownBy W (some g)
  box : W.heap[b]? = some (RO r)
  gb : g < b
  wb : w.heap.size ≤ b
theorem BxR.pick {w0 w W W' : World} {g b k k' : Nat} {c : Value} {r : Ry} (h : BxR w0 w g b c k r W) (S : Src w0 g W' c k') (G : W.grownBy W' (some g)) : BxR w0 w g b c k' r W' :=
  ⟨S, grown_trans h.grw G, (G.block b (Array.getElem?_eq_some_iff.1 h.box).1 (fun e => by have h2 : b = g := Option.some.inj e; have := h.gb; omega)).trans h.box, h.gb, h.wb⟩
theorem BxR.below {w0 w W W' : World} {g b k : Nat} {c : Value} {r : Ry} (h : BxR w0 w g b c k r W) (hb : Below W.heap.size W W') : BxR w0 w g b c k r W' :=
  ⟨h.src.below hb, grown_trans h.grw (grown_below hb), (hb.block b (Array.getElem?_eq_some_iff.1 h.box).1).trans h.box, h.gb, h.wb⟩
theorem BxR.drew {w0 w W : World} {g b k : Nat} {c : Value} {r : Ry} (h : BxR w0 w g b c k r W) (n : Nat) : BxR w0 w g b c k r (W.drewN n) := h.below (below_drewN (Below.refl _ _) n)
theorem BxR.set1 {w0 w W : World} {g b k : Nat} {c : Value} {r : Ry} (h : BxR w0 w g b c k r W) (n1 : Nat) : BxR w0 w g b c k ⟨r.x, r.y, n1, r.e⟩ (W.setCell ⟨b, 1, none⟩ (.float .f32 n1)) :=
  ⟨h.src.set h.gb _, grown_set h.grw h.wb _, heap_setCell_same W b 1 _ _ (.float .f32 n1) h.box, h.gb, h.wb⟩
theorem BxR.set2 {w0 w W : World} {g b k : Nat} {c : Value} {r : Ry} (h : BxR w0 w g b c k r W) (n1 : Nat) : BxR w0 w g b c k ⟨r.x, r.y, r.p, n1⟩ (W.setCell ⟨b, 2, none⟩ (.float .f32 n1)) :=
  ⟨h.src.set h.gb _, grown_set h.grw h.wb _, heap_setCell_same W b 2 _ _ (.float .f32 n1) h.box, h.gb, h.wb⟩
theorem BxR.cells {w0 w W : World} {g b k : Nat} {c : Value} {r : Ry} (h : BxR w0 w g b c k r W) :
    W.cell? ⟨b, 0, none⟩ = some (.complex .f32 r.x r.y) ∧ W.cell? ⟨b, 1, none⟩ = some (.float .f32 r.p) ∧ W.cell? ⟨b, 2, none⟩ = some (.float .f32 r.e) ∧ W.frozen? ⟨b, 1, none⟩ = false ∧ W.frozen? ⟨b, 2, none⟩ = false :=
  ⟨by rw [Joins.cell_of_block h.box]; rfl, by rw [Joins.cell_of_block h.box]; rfl, by rw [Joins.cell_of_block h.box]; rfl, by simp [World.frozen?, h.box], by simp [World.frozen?, h.box]⟩
theorem r_own_lt {B g : Nat} {w : World} {v : Value} {xs : List Ry} (h : RwOwn B w v xs) (hg : g < B) : v.ownBlock = none ∨ v.ownBlock ≠ (Value.slice (some ⟨g, 0, none⟩) 0 0).ownBlock := by
  rcases h.2 with ⟨rfl, _⟩ | ⟨g', cap, cur, rfl, hB, _⟩
  · exact .inl rfl
  · exact .inr (fun e => by have h2 : g' = g := by simpa [Value.ownBlock] using e
                            omega)
theorem R9info : (Try.prog.info? 61).map (fun i => (i.zero, i.size, i.bytes)) = some (some (.agg #[.complex .f32 0 0, .float .f32 0, .float .f32 0]), 3, 16) := by kernel_rfl
theorem info_r9 : (Try.prog.info? 61).map (·.size) = some 3 := by kernel_rfl
theorem ryone9 (x y p e : Nat) : (#[Value.complex .f32 x y, .float .f32 p, .float .f32 e] : Array Value).all (·.oneCell') = true := by first | rfl | (simp [Value.oneCell']; done)
theorem wpList_appR9 {ops : Array Oper} {rest : List Oper} {o : Oper} {a : Act} {w : World} {Q : Exit → Act → World → Prop} (hgd : o.guard = none) (s x : Operand) (ho : o.op = .call { callee := .builtin .append, args := #[s, x], argTypes := #[46, 46] })
    (B : Nat) (v : Value) (n : Nat) (xs : List Ry) (hs : a.eval s = v) (hown : RwOwn B w v xs) (hl : xs.length = n) (g c : Nat) (hx : a.eval x = .slice (some ⟨g, 0, none⟩) 1 c) (r : Ry) (hb : w.heap[g]? = some (RO r))
    (hn : n ≤ 1000) (hB : B ≤ w.heap.size)
    (h : ∀ g' cap' w', RwOwn B w' (.slice (some ⟨g', 0, none⟩) (n + 1) cap') (xs ++ [r]) → w.grownBy w' v.ownBlock → wpList Try.prog ops Q rest (a.put o.dst (.slice (some ⟨g', 0, none⟩) (n + 1) cap')) w') : wpList Try.prog ops Q (o :: rest) a w := by
  obtain ⟨ti, hi, hz0, hz1, hz2⟩ := info_parts R9info
  subst hl
  refine wpList_append_own w hgd s x 46 ho B 61 ti (.agg #[.complex .f32 0 0, .float .f32 0, .float .f32 0]) 3 16 Try.underlying46 hi hz0 hz1 hz2 rfl (by decide) v xs.length (cellsR xs) hs hown ⟨g, 0, none⟩ 1 c r.cs hx rfl (World.news_of_block (cs := #[.complex .f32 r.x r.y, .float .f32 r.p, .float .f32 r.e]) (t := 61) (fr := (0, 0)) hb) (by intro u hu; simp [Ry.cs] at hu; rcases hu with rfl | rfl | rfl <;> rfl) (by unfold maxLen; omega) (by omega) hB ?_
  intro v' w' hown' hgrow _
  obtain ⟨g2, cap2, rfl⟩ := Joins.ownsRow_form hown' (by omega)
  refine h g2 cap2 w' ?_ hgrow
  unfold RwOwn
  rw [cellsR_app, List.length_append, List.length_singleton]
  exact hown'
set_option maxHeartbeats 4000000 in
set_option maxRecDepth 100000 in
theorem sRays_any (c : Value) (bs : List Int) (w : World) (hc : NS .u8 w c bs) :
    Calls Try.prog 50 #[c] w fun e w' => ∃ v ts, e = .returned v ∧ 1 ≤ ts.length ∧ ts.length ≤ 6 ∧ (∀ t ∈ ts, DrR t) ∧ RwOwn w.heap.size w' v ts ∧ Below w.heap.size w w' := by
  have HC := Lib.hid hc
  clear hc
  go_enter Try.func50, Try.ntmps50
  go_wp2_with fail
  refine (sFrom_src c bs _ HC.out).mono ?_
  rintro e w1 ⟨g, rfl, S1⟩
  have HS1 := Lib.hid S1
  have HG := Lib.hid S1.lt
  have HG0 := Lib.hid S1.2.1
  clear S1
  go_wp2_with fail
  have HO1 := Lib.hid (show RwOwn w1.heap.size (w1.alloc (.cells #[] 61)) (.slice (some ⟨w1.heap.size, 0, none⟩) 0 0) [] from World.ownsRow_made w1 #[] 0 (Nat.le_refl _) (Nat.zero_le _) rfl)
  have HS2 := Lib.hid (HS1.out.below ((Below.refl w1.heap.size w1).alloc (Nat.le_refl _) (.cells #[] 61)))
  have HZ := Lib.hid (show w1.heap.size ≤ (w1.alloc (.cells #[] 61)).heap.size by simp)
  generalize w1.alloc (.cells #[] 61) = w2 at HO1 HS2 HZ ⊢
  have HW1 := Lib.hid (show w.heap.size ≤ w1.heap.size from HS1.out.1.size)
  generalize w1.heap.size = B at HO1 HG HZ HW1 ⊢
  clear HS1
  refine (sPick_any w g 0 c bs 6 _ HC.out (by omega) (by omega) (by omega) HS2.out).mono ?_
  rintro e w3 ⟨N, k, hn0, hn1, hk, rfl, S3, G3⟩
  have HS3 := Lib.hid S3
  have HO3 := Lib.hid (ry_grown (u := .slice (some ⟨g, 0, none⟩) 0 0) HO1.out G3 (r_own_lt HO1.out HG.out))
  have HZ3 := Lib.hid (Nat.le_trans HZ.out G3.size)
  have hw0 : wrap64 (1 + N) = 1 + N := by unfold wrap64; omega
  clear S3 G3 HO1 HS2 HZ
  go_wp2_with fail
  clear hw0
  go_loopw [4, 5] (fun v n wr => ∃ (ts : List Ry) (M k : Nat), n = .int .i64 (M : Int) ∧ ts.length + M ≤ 6 ∧ 1 ≤ ts.length + M ∧ k + 14 * M ≤ 100 ∧ Hid (Src w g wr c k) ∧ Hid (∀ t ∈ ts, DrR t) ∧ (∃ gv cap, v = .slice (some ⟨gv, 0, none⟩) ts.length cap ∧ Hid (RwOwn B wr (.slice (some ⟨gv, 0, none⟩) ts.length cap) ts)) ∧ B ≤ wr.heap.size) (fun _ n _ => (intOf n).toNat)
  case atStart => exact ⟨[], (1 + N).toNat, k, by rw [show (((1 + N).toNat : Nat) : Int) = 1 + N by omega], by simp; omega, by simp; omega, by omega, HS3, Lib.hid (fun t ht => by cases ht), ⟨_, _, rfl, HO3⟩, HZ3.out⟩
  case round =>
    clear HS3 HO3 HZ3
    obtain ⟨ts, M, k, rfl, hl, hl1, hk, HS, HD, ⟨gv, cap, rfl, HO⟩, hz⟩ := hrel
    by_cases hM : 0 < M
    · have HM := Lib.hid hM
      go_wp2_with fail
      refine (sPick_any w g k c bs 17 _ HC.out (by omega) (by omega) (by omega) HS.out).mono ?_
      rintro e w4 ⟨N4, k4, hn0, hn1, hk4, rfl, S4, G4⟩
      have i1 := is_i9n (N4 - 8) (by omega) (by omega)
      have hw1 : wrap64 (N4 - 8) = N4 - 8 := by unfold wrap64; omega
      have HIN4 := Lib.hid (fun (r : Nat) (h : Is .f32 r (fop .quo .f32 (floatOfInt .f32 (N4 - 8)) 1090519040)) => x_in hn0 hn1 h)
      have HS4 := Lib.hid S4; have HG4 := Lib.hid G4
      clear S4 G4 hn0 hn1
      go_wp2_with ((apply wpList_farith; rfl; rfl; rfl; rfl; (first | with_reducible assumption | exact Is.const rfl); (first | with_reducible assumption | exact Is.const rfl); intro r n hr); have HQ4 := Lib.hid (HIN4.out _ hr); clear hr; generalize r = q4 at HQ4 ⊢)
      clear i1 hw1
      refine (sPick_any w g k4 c bs 17 _ HC.out (by omega) (by omega) (by omega) (HS4.out.below (below_drewN (Below.refl _ _) _))).mono ?_
      rintro e w5 ⟨N5, k5, hn0, hn1, hk5, rfl, S5, G5⟩
      have i1 := is_i9n (N5 - 8) (by omega) (by omega)
      have hw1 : wrap64 (N5 - 8) = N5 - 8 := by unfold wrap64; omega
      have HIN5 := Lib.hid (fun (r : Nat) (h : Is .f32 r (fop .quo .f32 (floatOfInt .f32 (N5 - 8)) 1090519040)) => x_in hn0 hn1 h)
      have HS5 := Lib.hid S5; have HG5 := Lib.hid (grown_trans (grown_trans HG4.out (grown_below (below_drewN (Below.refl _ _) _))) G5)
      clear S5 G5 hn0 hn1
      have HZ0 := Lib.hid (fun (d : Nat) => (show ((w5.drewN d).alloc (RO ⟨0, 0, 0, 0⟩)).heap[w5.heap.size]? = some (RO ⟨0, 0, 0, 0⟩) from heap_alloc_new (w5.drewN d) _))
      go_wp2_with (first
        | ((with_reducible show wpList _ _ _ (Oper.mk none (Op.store _ _ _) _ _ _ _ :: _) _ _); refine wpList_store_row rfl 61 _ _ rfl w5.heap.size #[.complex .f32 q4 _, .float .f32 0, .float .f32 0] rfl rfl 61 _ (HZ0.out _) info_r9 rfl (ryone9 _ _ _ _) ?_)
        | ((apply wpList_farith; rfl; rfl; rfl; rfl; (first | with_reducible assumption | exact Is.const rfl); (first | with_reducible assumption | exact Is.const rfl); intro r n hr); have HQ5 := Lib.hid (HIN5.out _ hr); clear hr; generalize r = q5 at HQ5 ⊢))
      clear i1 hw1
      have HX5 := Lib.hid (fun d => (show BxR w wr g w5.heap.size c k5 ⟨q4, q5, 0, 0⟩ (((w5.drewN d).alloc (RO ⟨0, 0, 0, 0⟩)).setRow w5.heap.size #[.complex .f32 q4 q5, .float .f32 0, .float .f32 0]) from
        have hb := below_setRow ((below_drewN (Below.refl w5.heap.size w5) d).alloc (Nat.le_refl _) (RO ⟨0, 0, 0, 0⟩)) (Nat.le_refl w5.heap.size) #[.complex .f32 q4 q5, .float .f32 0, .float .f32 0]
        ⟨HS5.out.below hb, grown_trans HG5.out (grown_below hb), setRow_heap _ _ _ _ _ _ (HZ0.out d), HS5.out.lt, HG5.out.size⟩))
      refine (sPick_any w g k5 c bs 8 _ HC.out (by omega) (by omega) (by omega) (HX5.out _).src).mono ?_
      rintro e w6 ⟨N6, k6, hn0, hn1, hk6, rfl, S6, G6⟩
      have i1 := is_i9n (N6) (by omega) (by omega)
      have hw1 : wrap64 (N6 - 8) = N6 - 8 := by unfold wrap64; omega
      have HIN6 := Lib.hid (fun (r : Nat) (h : Is .f32 r (fop .quo .f32 (floatOfInt .f32 (N6)) 1090519040)) => p_in hn0 hn1 h)
      have HX6 := Lib.hid ((HX5.out _).pick S6 G6)
      obtain ⟨e0, e1, e2, f1, f2⟩ := HX6.out.cells
      clear S6 G6 hn0 hn1
      go_wp2_with ((apply wpList_farith; rfl; rfl; rfl; rfl; (first | with_reducible assumption | exact Is.const rfl); (first | with_reducible assumption | exact Is.const rfl); intro r n hr); have HQ6 := Lib.hid (HIN6.out _ hr); clear hr; generalize r = q6 at HQ6 ⊢)
      clear i1 hw1 e0 e1 e2 f1 f2
      refine (sPick_any w g k6 c bs 5 _ HC.out (by omega) (by omega) (by omega) ((HX6.out.drew _).set1 q6).src).mono ?_
      rintro e w7 ⟨N7, k7, hn0, hn1, hk7, rfl, S7, G7⟩
      have i1 := is_i9n (N7) (by omega) (by omega)
      have hw1 : wrap64 (N7 - 8) = N7 - 8 := by unfold wrap64; omega
      have HIN7 := Lib.hid (fun (r : Nat) (h : Is .f32 r (fop .quo .f32 (floatOfInt .f32 (N7)) 1082130432)) => e_in hn0 hn1 h)
      have HX7 := Lib.hid (((HX6.out.drew _).set1 q6).pick S7 G7)
      obtain ⟨e0, e1, e2, f1, f2⟩ := HX7.out.cells
      clear S7 G7 hn0 hn1
      go_wp2_with (first | (at_builtin; refine haltE ?_) | ((apply wpList_farith; rfl; rfl; rfl; rfl; (first | with_reducible assumption | exact Is.const rfl); (first | with_reducible assumption | exact Is.const rfl); intro r n hr); have HQ7 := Lib.hid (HIN7.out _ hr); clear hr))
      unfold HaltE
      have HXT := Lib.hid ((HX7.out.drew n).set2 r)
      have HDR := Lib.hid (show DrR ⟨q4, q5, q6, r⟩ from ⟨HQ4.out, HQ5.out, HQ6.out, HQ7.out⟩)
      have HOW := Lib.hid (ry_grown (u := .slice (some ⟨g, 0, none⟩) 0 0) HO.out HXT.out.grw (r_own_lt HO.out HG.out))
      obtain ⟨hgv1, hgv2⟩ := HOW.out.lt gv rfl
      have hgB : g < B := HG.out
      have hgw : w.heap.size ≤ g := HG0.out
      have hzW := Nat.le_trans hz HXT.out.grw.size
      refine wpList_appR9 rfl _ _ rfl B _ ts.length ts rfl (ry_below HOW.out ((Below.refl _ _).alloc (Nat.le_refl _) _)) rfl _ 1 rfl ⟨q4, q5, q6, r⟩ (by have h := heap_alloc_new ((w7.drewN n).setCell ⟨w5.heap.size, 2, none⟩ (.float .f32 r)) (RO ⟨q4, q5, q6, r⟩); rw [show ((w7.drewN n).setCell ⟨w5.heap.size, 2, none⟩ (.float .f32 r)).heap.size = w7.heap.size by simp] at h; exact h) (by omega) (by rw [World.size_alloc]; exact Nat.le_succ_of_le hzW) ?_
      intro g2 cap2 w9 hO2 hg2
      have HSA := HXT.out.src.below ((Below.refl _ _).alloc (Nat.le_refl _) (RO ⟨q4, q5, q6, r⟩))
      have HSN := Lib.hid (HSA.kept hg2 (fun e => by have h4 : gv = g := Option.some.inj e; omega) (HSA.1.trans ⟨hg2.os, hg2.tape, hg2.output, hg2.size, fun i hi => hg2.block i (Nat.lt_of_lt_of_le hi HSA.1.size) (fun e => by have h4 : gv = i := Option.some.inj e.symm; omega)⟩))
      have hzN : B ≤ w9.heap.size := Nat.le_trans (by rw [World.size_alloc]; exact Nat.le_succ_of_le hzW) hg2.size
      have HO9 := Lib.hid hO2
      clear hO2 hg2 HSA
      go_wp2_with fail
      go_roundw
      case rel => exact ⟨ts ++ [⟨q4, q5, q6, r⟩], M - 1, k7, by have := HM.out; rw [Int.natCast_sub (by omega)]; go_num, by rw [List.length_append, List.length_singleton]; have := HM.out; omega, by rw [List.length_append, List.length_singleton]; have := HM.out; omega, by have := HM.out; omega, HSN, Lib.hid (fun t ht => by
        rcases List.mem_append.1 ht with h | h
        · exact HD.out t h
        · rw [List.mem_singleton.1 h]; exact HDR.out), ⟨_, _, by rw [List.length_append, List.length_singleton], by rw [List.length_append, List.length_singleton]; exact HO9⟩, hzN⟩
      case measure => simp [intOf]; have := HM.out; omega
    · obtain rfl : M = 0 := by omega
      clear hM
      go_wp2
      go_ret
      exact ⟨_, ts, rfl, by omega, by omega, HD.out, ownsRow_le HO.out HW1.out, HS.out.1⟩
end Go.Proofs.Ytpnmledanloboaa
