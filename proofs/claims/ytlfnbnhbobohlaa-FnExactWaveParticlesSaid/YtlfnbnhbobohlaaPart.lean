/-
  What the laws of the second part draw: particles.
-/
import Derived.Test.YtlfnbnhbobohlaaWay
import Derived.Test.YtlfnbnhbobohlaaPlc
import Derived.Test.YtlfnbnhbobohlaaR8
import Derived.Laws.CopyOwn
namespace Go.Proofs.Ytlfnbnhbobohlaa
open Go.Fl Go.RowKit Go.Nl
set_option linter.unusedSimpArgs false
set_option linter.unusedVariables false

/-- A particle in eighths. -/
abbrev PC (n m p q c s : Int) : Array Value := #[.complex .f32 (E8 n) (E8 m), .complex .f32 (E8 p) (E8 q), .float .f32 (E8 c), .float .f32 (E8 s)]
abbrev PV (n m p q c s : Int) : Value := .agg (PC n m p q c s)
set_option maxRecDepth 100000 in
theorem tab_half : ((List.range 9).all fun n => fop .quo .f32 (floatOfInt .f32 ((n : Int) - 4)) 1073741824 == E8 (4 * ((n : Int) - 4)) && fop .quo .f32 (floatOfInt .f32 ((n : Int))) 1082130432 == E8 (2 * (n : Int))) = true := by decide +kernel
theorem half_e8 (x : Int) (h0 : 0 ≤ x) (h1 : x < 9) : fop .quo .f32 (floatOfInt .f32 (x - 4)) 1073741824 = E8 (4 * (x - 4)) ∧ fop .quo .f32 (floatOfInt .f32 x) 1082130432 = E8 (2 * x) := by
  have h := List.all_eq_true.1 tab_half x.toNat (List.mem_range.2 (by omega))
  simp only [show ((x.toNat : Nat) : Int) = x by omega, Bool.and_eq_true, beq_iff_eq] at h
  exact h
theorem is_int32 (x : Int) (h0 : -64 ≤ x) (h1 : x ≤ 191) : Is .f32 (floatOfInt .f32 x) (floatOfInt .f32 x) := by
  have h := is_byte (x + 64) (by omega) (by omega)
  rwa [show x + 64 - 64 = x by omega] at h
theorem e8_int {r : Nat} {x : Int} (h0 : -64 ≤ x) (h1 : x ≤ 191) (h : Is .f32 r (fop .quo .f32 (floatOfInt .f32 x) 1090519040)) : r = E8 x := e8_of_is (by omega) (by omega) h

theorem info_part : (Try.prog.info? 72).map (·.size) = some 4 := by kernel_rfl
abbrev ZC : Array Value := #[.complex .f32 0 0, .complex .f32 0 0, .float .f32 0, .float .f32 0]
theorem one4 (a b c d e f : Nat) : (#[Value.complex .f32 a b, .complex .f32 c d, .float .f32 e, .float .f32 f] : Array Value).all (·.oneCell') = true := by first | rfl | (simp [Value.oneCell']; done)
/-- A source beside two particles of the call's own. -/
structure BxP (w0 w : World) (g R P : Nat) (c : Value) (k : Nat) (cs : Array Value) (W : World) : Prop where
  src : Src w0 g W c k
  grown : w.grownBy W (some g)
  box : W.heap[P]? = some (.cells cs 72)
  res : W.heap[R]? = some (.cells ZC 72)
  lt1 : g < R
  lt2 : R < P
  lt3 : w.heap.size ≤ R
theorem BxP.pick {w0 w W W' : World} {g R P : Nat} {c : Value} {k k' : Nat} {cs : Array Value} (h : BxP w0 w g R P c k cs W) (S : Src w0 g W' c k') (G : W.grownBy W' (some g)) : BxP w0 w g R P c k' cs W' :=
  ⟨S, grown_trans h.grown G, (G.block P (Array.getElem?_eq_some_iff.1 h.box).1 (fun e => by have := Option.some.inj e; have := h.lt1; have := h.lt2; omega)).trans h.box, (G.block R (Array.getElem?_eq_some_iff.1 h.res).1 (fun e => by have := Option.some.inj e; have := h.lt1; omega)).trans h.res, h.lt1, h.lt2, h.lt3⟩
theorem BxP.drew {w0 w W : World} {g R P : Nat} {c : Value} {k : Nat} {cs : Array Value} (h : BxP w0 w g R P c k cs W) (d : Nat) : BxP w0 w g R P c k cs (W.drewN d) :=
  ⟨h.src.below (below_drewN (Below.refl W.heap.size W) d), grown_trans h.grown (grown_below (below_drewN (Below.refl W.heap.size W) d)), h.box, h.res, h.lt1, h.lt2, h.lt3⟩
theorem BxP.set {w0 w W : World} {g R P : Nat} {c : Value} {k : Nat} {cs : Array Value} (h : BxP w0 w g R P c k cs W) (i : Nat) (v : Value) : BxP w0 w g R P c k (cs.setIfInBounds i v) (W.setCell ⟨P, i, none⟩ v) :=
  ⟨h.src.set (by show g < P; have := h.lt1; have := h.lt2; omega) v, grown_set h.grown (by show w.heap.size ≤ P; have := h.lt2; have := h.lt3; omega) v, heap_setCell_same W P i _ _ v h.box, (Below.heap_setCell W ⟨P, i, none⟩ v R (by show R ≠ P; have := h.lt2; omega)).trans h.res, h.lt1, h.lt2, h.lt3⟩
theorem BxP.out {w0 w W : World} {g R P : Nat} {c : Value} {k : Nat} {cs : Array Value} (h : BxP w0 w g R P c k cs W) (ds : Array Value) : Src w0 g (W.setRow R ds) c k ∧ w.grownBy (W.setRow R ds) (some g) := by
  have hs := h.src
  obtain ⟨hb, h1, _⟩ := hs
  refine ⟨h.src.kept (row := some R) ⟨rfl, rfl, rfl, by simp [World.setRow], fun i _ hr => setRow_other W R i ds (fun e => hr (by rw [e]))⟩ (fun e => by have := Option.some.inj e; have := h.lt1; omega) (below_setRow hb (by have := h.lt1; omega) ds), ?_⟩
  exact ⟨h.grown.os, h.grown.tape, h.grown.output, by have := h.grown.size; simpa [World.setRow] using this, fun i hi hr => (setRow_other W R i ds (by have := h.lt3; omega)).trans (h.grown.block i hi hr)⟩

set_option maxHeartbeats 1000000 in
set_option maxRecDepth 100000 in
theorem sDrawOne_any (w0 : World) (g k : Nat) (c : Value) (bs : List Int) (w : World) (hc : NS .u8 w0 c bs) (hk : k < 1152921504606846976) (h : Src w0 g w c k) :
    Calls Try.prog 97 #[.pointer (some ⟨g, 0, none⟩)] w fun e w' => ∃ (n m p q ch ms : Int) (k' : Nat), (0 ≤ n ∧ n < 64 ∧ 0 ≤ m ∧ m < 64 ∧ -8 ≤ p ∧ p ≤ 8 ∧ -8 ≤ q ∧ q ≤ 8 ∧ -4 ≤ ch ∧ ch ≤ 4 ∧ 1 ≤ ms ∧ ms ≤ 8) ∧ k' ≤ k + 12 ∧ e = .returned (PV n m p q (4 * ch) (2 * ms)) ∧ Src w0 g w' c k' ∧ w.grownBy w' (some g) := by
  have HS := Lib.hid h
  have HC := Lib.hid hc
  have hgl := h.lt
  clear h hc
  go_enter Try.func97, Try.ntmps97
  go_wp2_with fail
  refine (sPick_any w0 g k c bs 64 _ HC.out (by omega) (by omega) (by omega) (HS.out.below ((Below.refl _ _).alloc (Nat.le_refl _) _))).mono ?_
  rintro e w2 ⟨N, k2, hn0, hn1, hk2, rfl, S2, G2⟩
  have G0 : w.grownBy w2 (some g) := grown_trans (grown_below ((Below.refl _ _).alloc (Nat.le_refl _) _)) G2
  have HB2 := G2.block w.heap.size (by simp) (by simp; omega)
  rw [heap_alloc_new] at HB2
  have HS2 := Lib.hid S2; have HG2 := Lib.hid G0; have HBB := Lib.hid HB2
  have HZ2 := Lib.hid (show w.heap.size < w2.heap.size from Nat.lt_of_lt_of_le (by simp) G2.size)
  have i1 := is_int32 N (by omega) (by omega)
  have HE1 := Lib.hid (fun (r : Nat) (h : Is .f32 r (fop .quo .f32 (floatOfInt .f32 N) 1090519040)) => e8_int (by omega) (by omega) h)
  have HN := Lib.hid (And.intro hn0 hn1); have HK2 := Lib.hid hk2; have HGL := Lib.hid hgl
  clear S2 G2 G0 HB2 hn0 hn1 hk2
  go_wp2_with ((apply wpList_farith; rfl; rfl; rfl; rfl; (first | with_reducible assumption | exact Is.const rfl); (first | with_reducible assumption | exact Is.const rfl); intro r n hr); with_reducible have e0 := HE1.out _ hr; subst e0)
  clear i1
  refine (sPick_any w0 g k2 c bs 64 _ HC.out (by have := HK2.out; omega) (by omega) (by omega) (HS2.out.below (below_drewN (Below.refl w2.heap.size w2) _))).mono ?_
  rintro e w3 ⟨M, k3, hm0, hm1, hk3, rfl, S3, G3⟩
  have G03 : w.grownBy w3 (some g) := grown_trans (grown_trans HG2.out (grown_below (below_drewN (Below.refl w2.heap.size w2) _))) G3
  have HB3 := G3.block w.heap.size (by simpa using HZ2.out) (by simp; omega)
  have HS3 := Lib.hid S3; have HG3 := Lib.hid G03
  have HBB3 := Lib.hid (HB3.trans (show (w2.drewN _).heap[w.heap.size]? = _ from HBB.out))
  have HZ3 := Lib.hid (show w.heap.size < w3.heap.size from Nat.lt_of_lt_of_le (by simpa using HZ2.out) G3.size)
  have i1 := is_int32 M (by omega) (by omega)
  have HE2 := Lib.hid (fun (r : Nat) (h : Is .f32 r (fop .quo .f32 (floatOfInt .f32 M) 1090519040)) => e8_int (by omega) (by omega) h)
  have HM := Lib.hid (And.intro hm0 hm1); have HK3 := Lib.hid hk3
  have HB0 := Lib.hid (fun (d : Nat) => (show BxP w0 w g w.heap.size w3.heap.size c k3 #[.complex .f32 (E8 N) (E8 M), .complex .f32 0 0, .float .f32 0, .float .f32 0] (((w3.drewN d).alloc (.cells ZC 72)).setRow w3.heap.size #[.complex .f32 (E8 N) (E8 M), .complex .f32 0 0, .float .f32 0, .float .f32 0]) from by
    have hz := heap_alloc_new (w3.drewN d) (.cells ZC 72)
    have hb := (below_drewN (Below.refl w3.heap.size w3) d).alloc (Nat.le_refl _) (.cells ZC 72)
    have hb2 := below_setRow hb (Nat.le_refl w3.heap.size) #[.complex .f32 (E8 N) (E8 M), .complex .f32 0 0, .float .f32 0, .float .f32 0]
    exact ⟨HS3.out.below hb2, grown_trans HG3.out (grown_below hb2), setRow_heap _ _ _ _ _ _ hz, (hb2.block w.heap.size HZ3.out).trans HBB3.out, HGL.out, HZ3.out, Nat.le_refl _⟩))
  have HZ0 := Lib.hid (fun (d : Nat) => (show ((w3.drewN d).alloc (.cells ZC 72)).heap[w3.heap.size]? = some (.cells ZC 72 (0, 0)) from heap_alloc_new (w3.drewN d) _))
  clear S3 G3 G03 HB3 HBB HZ2 hm0 hm1 hk3
  go_wp2_with (first
    | ((with_reducible show wpList _ _ _ (Oper.mk none (Op.store _ _ _) _ _ _ _ :: _) _ _); refine wpList_store_row rfl 72 _ _ rfl w3.heap.size #[.complex .f32 (E8 N) (E8 M), .complex .f32 0 0, .float .f32 0, .float .f32 0] rfl rfl 72 _ (HZ0.out _) info_part rfl (one4 _ _ _ _ _ _) ?_)
    | ((apply wpList_farith; rfl; rfl; rfl; rfl; (first | with_reducible assumption | exact Is.const rfl); (first | with_reducible assumption | exact Is.const rfl); intro r n hr); with_reducible have e0 := HE2.out _ hr; subst e0))
  clear i1
  refine (sPick_any w0 g k3 c bs 17 _ HC.out (by have := HK2.out; have := HK3.out; omega) (by omega) (by omega) (HB0.out _).src).mono ?_
  rintro e w4 ⟨P1, k4, hp0, hp1, hk4, rfl, S4, G4⟩
  have HX4 := Lib.hid ((HB0.out _).pick S4 G4)
  have i1 := is_int32 (P1 - 8) (by omega) (by omega)
  have hw1 : wrap64 (P1 - 8) = P1 - 8 := wrap64_of (by omega) (by omega)
  have HE3 := Lib.hid (fun (r : Nat) (h : Is .f32 r (fop .quo .f32 (floatOfInt .f32 (P1 - 8)) 1090519040)) => e8_int (by omega) (by omega) h)
  have HP := Lib.hid (And.intro hp0 hp1); have HK4 := Lib.hid hk4
  clear S4 G4 hp0 hp1 hk4
  go_wp2_with ((apply wpList_farith; rfl; rfl; rfl; rfl; (first | with_reducible assumption | exact Is.const rfl); (first | with_reducible assumption | exact Is.const rfl); intro r n hr); with_reducible have e0 := HE3.out _ hr; subst e0)
  clear i1 hw1
  refine (sPick_any w0 g k4 c bs 17 _ HC.out (by have := HK2.out; have := HK3.out; have := HK4.out; omega) (by omega) (by omega) (HX4.out.drew _).src).mono ?_
  rintro e w5 ⟨Q1, k5, hp0, hp1, hk5, rfl, S5, G5⟩
  have HX5 := Lib.hid ((HX4.out.drew _).pick S5 G5)
  have i1 := is_int32 (Q1 - 8) (by omega) (by omega)
  have hw1 : wrap64 (Q1 - 8) = Q1 - 8 := wrap64_of (by omega) (by omega)
  have HE4 := Lib.hid (fun (r : Nat) (h : Is .f32 r (fop .quo .f32 (floatOfInt .f32 (Q1 - 8)) 1090519040)) => e8_int (by omega) (by omega) h)
  have HQ := Lib.hid (And.intro hp0 hp1); have HK5 := Lib.hid hk5
  have c1 : w5.cell? ⟨w3.heap.size, 1, none⟩ = some (.complex .f32 0 0) := by rw [Joins.cell_of_block HX5.out.box]; rfl
  have f1 : w5.frozen? ⟨w3.heap.size, 1, none⟩ = false := by simp [World.frozen?, HX5.out.box]
  clear S5 G5 hp0 hp1 hk5
  go_wp2_with ((apply wpList_farith; rfl; rfl; rfl; rfl; (first | with_reducible assumption | exact Is.const rfl); (first | with_reducible assumption | exact Is.const rfl); intro r n hr); with_reducible have e0 := HE4.out _ hr; subst e0)
  clear i1 hw1 c1 f1
  refine (sPick_any w0 g k5 c bs 9 _ HC.out (by have := HK2.out; have := HK3.out; have := HK4.out; have := HK5.out; omega) (by omega) (by omega) ((HX5.out.drew _).set 1 _).src).mono ?_
  rintro e w6 ⟨C1, k6, hp0, hp1, hk6, rfl, S6, G6⟩
  have HX6 := Lib.hid (((HX5.out.drew _).set 1 _).pick S6 G6)
  have i1 := is_int32 (C1 - 4) (by omega) (by omega)
  have hw1 : wrap64 (C1 - 4) = C1 - 4 := wrap64_of (by omega) (by omega)
  have HE5 := Lib.hid (fun (r : Nat) (h : Is .f32 r (fop .quo .f32 (floatOfInt .f32 (C1 - 4)) 1073741824)) => (show r = E8 (4 * (C1 - 4)) from by rw [(half_e8 C1 hp0 hp1).1] at h; exact e8_of_is (by omega) (by omega) h))
  have HCC := Lib.hid (And.intro hp0 hp1); have HK6 := Lib.hid hk6
  have c1 : w6.cell? ⟨w3.heap.size, 2, none⟩ = some (.float .f32 0) := by rw [Joins.cell_of_block HX6.out.box]; rfl
  have f1 : w6.frozen? ⟨w3.heap.size, 2, none⟩ = false := by simp [World.frozen?, HX6.out.box]
  clear S6 G6 hp0 hp1 hk6
  go_wp2_with ((apply wpList_farith; rfl; rfl; rfl; rfl; (first | with_reducible assumption | exact Is.const rfl); (first | with_reducible assumption | exact Is.const rfl); intro r n hr); with_reducible have e0 := HE5.out _ hr; subst e0)
  clear i1 hw1 c1 f1
  refine (sPick_any w0 g k6 c bs 8 _ HC.out (by have := HK2.out; have := HK3.out; have := HK4.out; have := HK5.out; have := HK6.out; omega) (by omega) (by omega) ((HX6.out.drew _).set 2 _).src).mono ?_
  rintro e w7 ⟨S1, k7, hp0, hp1, hk7, rfl, S7, G7⟩
  have HX7 := Lib.hid (((HX6.out.drew _).set 2 _).pick S7 G7)
  have i1 := is_int32 (1 + S1) (by omega) (by omega)
  have hw1 : wrap64 (1 + S1) = 1 + S1 := wrap64_of (by omega) (by omega)
  have HE6 := Lib.hid (fun (r : Nat) (h : Is .f32 r (fop .quo .f32 (floatOfInt .f32 (1 + S1)) 1082130432)) => (show r = E8 (2 * (1 + S1)) from by rw [(half_e8 (1 + S1) (by omega) (by omega)).2] at h; exact e8_of_is (by omega) (by omega) h))
  have HSS := Lib.hid (And.intro hp0 hp1); have HK7 := Lib.hid hk7
  have c1 : w7.cell? ⟨w3.heap.size, 3, none⟩ = some (.float .f32 0) := by rw [Joins.cell_of_block HX7.out.box]; rfl
  have f1 : w7.frozen? ⟨w3.heap.size, 3, none⟩ = false := by simp [World.frozen?, HX7.out.box]
  have HX8 := Lib.hid (fun (d : Nat) => (show BxP w0 w g w.heap.size w3.heap.size c k7 (PC N M (P1 - 8) (Q1 - 8) (4 * (C1 - 4)) (2 * (1 + S1))) ((w7.drewN d).setCell ⟨w3.heap.size, 3, none⟩ (.float .f32 (E8 (2 * (1 + S1))))) from (HX7.out.drew d).set 3 _))
  clear S7 G7 hp0 hp1 hk7
  go_wp2_with (first
    | ((with_reducible show wpList _ _ _ (Oper.mk (some 41) _ _ _ _ _ :: _) _ _); refine wpList_load_row rfl 72 _ rfl w3.heap.size rfl 72 (PC N M (P1 - 8) (Q1 - 8) (4 * (C1 - 4)) (2 * (1 + S1))) (0, 0) _ (HX8.out _).box Try.underlying72 rfl info_part ?_)
    | ((with_reducible show wpList _ _ _ (Oper.mk none (Op.store _ (Operand.tmp 2) _) _ _ _ _ :: _) _ _); refine wpList_store_row rfl 72 _ _ rfl w.heap.size (PC N M (P1 - 8) (Q1 - 8) (4 * (C1 - 4)) (2 * (1 + S1))) rfl rfl 72 ZC (HX8.out _).res info_part rfl (one4 _ _ _ _ _ _) ?_)
    | ((apply wpList_farith; rfl; rfl; rfl; rfl; (first | with_reducible assumption | exact Is.const rfl); (first | with_reducible assumption | exact Is.const rfl); intro r n hr); with_reducible have e0 := HE6.out _ hr; subst e0))
  refine bodyPost_ret (v := PV N M (P1 - 8) (Q1 - 8) (4 * (C1 - 4)) (2 * (1 + S1))) ?_ rfl ?_
  · rw [results_cell_row rfl _ _ w.heap.size 72 (PC N M (P1 - 8) (Q1 - 8) (4 * (C1 - 4)) (2 * (1 + S1))) (0, 0) _ rfl (setRow_heap _ _ _ _ _ _ (HX8.out _).res) Try.underlying72 rfl info_part]
  · exact ⟨N, M, P1 - 8, Q1 - 8, C1 - 4, 1 + S1, k7, by have := HN.out; have := HM.out; have := HP.out; have := HQ.out; have := HCC.out; have := HSS.out; omega, by have := HK2.out; have := HK3.out; have := HK4.out; have := HK5.out; have := HK6.out; have := HK7.out; omega, rfl, ((HX8.out _).out _).1, ((HX8.out _).out _).2⟩
end Go.Proofs.Ytlfnbnhbobohlaa
