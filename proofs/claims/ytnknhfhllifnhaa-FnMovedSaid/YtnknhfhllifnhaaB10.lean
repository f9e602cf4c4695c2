/-
  What the laws of the last part draw: particles.
-/
import Derived.Test.YtnknhfhllifnhaaPart
namespace Go.Proofs.Ytnknhfhllifnhaa
open Go.Fl Go.RowKit Go.Nl
set_option linter.unusedSimpArgs false
set_option linter.unusedVariables false

set_option maxRecDepth 100000 in
theorem tab_b10 : ((List.range 9).all fun n => fop .quo .f32 (floatOfInt .f32 ((n : Int) - 4)) 1082130432 == E8 (2 * ((n : Int) - 4)) && fop .quo .f32 (floatOfInt .f32 ((n : Int))) 1073741824 == E8 (4 * (n : Int))) = true := by decide +kernel
theorem half_b10 (x : Int) (h0 : 0 ≤ x) (h1 : x < 9) : fop .quo .f32 (floatOfInt .f32 (x - 4)) 1082130432 = E8 (2 * (x - 4)) ∧ fop .quo .f32 (floatOfInt .f32 x) 1073741824 = E8 (4 * x) := by
  have h := List.all_eq_true.1 tab_b10 x.toNat (List.mem_range.2 (by omega))
  simp only [show ((x.toNat : Nat) : Int) = x by omega, Bool.and_eq_true, beq_iff_eq] at h
  exact h
set_option maxHeartbeats 1000000 in
set_option maxRecDepth 100000 in
theorem sB10One_any (w0 : World) (g k : Nat) (c : Value) (bs : List Int) (w : World) (hc : NS .u8 w0 c bs) (hk : k < 1152921504606846976) (h : Src w0 g w c k) :
    Calls Try.prog 90 #[.pointer (some ⟨g, 0, none⟩)] w fun e w' => ∃ (n m p q ch ms : Int) (k' : Nat), (0 ≤ n ∧ n < 56 ∧ 0 ≤ m ∧ m < 56 ∧ -8 ≤ p ∧ p ≤ 8 ∧ -8 ≤ q ∧ q ≤ 8 ∧ -4 ≤ ch ∧ ch ≤ 4 ∧ 1 ≤ ms ∧ ms ≤ 4) ∧ k' ≤ k + 12 ∧ e = .returned (PV n m p q (2 * ch) (4 * ms)) ∧ Src w0 g w' c k' ∧ w.grownBy w' (some g) := by
  have HS := Lib.hid h
  have HC := Lib.hid hc
  have hgl := h.lt
  clear h hc
  go_enter Try.func90, Try.ntmps90
  go_wp2_with fail
  refine (sPick_any w0 g k c bs 56 _ HC.out (by omega) (by omega) (by omega) (HS.out.below ((Below.refl _ _).alloc (Nat.le_refl _) _))).mono ?_
  rintro e w2 ⟨N, k2, hn0, hn1, hk2, rfl, S2, G2⟩
  have G0 : w.grownBy w2 (some g) := grown_trans (grown_below ((Below.refl _ _).alloc (Nat.le_refl _) _)) G2
  have HB2 := G2.block w.heap.size (by simp) (by simp; omega)
  rw [heap_alloc_new] at HB2
  have HS2 := Lib.hid S2; have HG2 := Lib.hid G0; have HBB := Lib.hid HB2
  have HZ2 := Lib.hid (show w.heap.size < w2.heap.size from Nat.lt_of_lt_of_le (by simp) G2.size)
  have i1 := is_int32 N (by omega) (by omega)
  have HE1 := Lib.hid (fun (r : Nat) (h : Is .f32 r (fop .quo .f32 (floatOfInt .f32 N) 1090519040)) => e8_int (by omega) (by omega) h)
  have HN := Lib.hid (And.intro hn0 hn1); have HK2 := Lib.hid hk2; have HGL := Lib.hid hgl
  clear S2 G2 G0 HB2 hn0 hn1 hk2
  go_wp2_with ((apply wpList_farith; rfl; rfl; rfl; rfl; (first | with_reducible assumption | exact Is.const rfl); (first | with_reducible assumption | exact Is.const rfl); intro r n hr); with_reducible have e0 := HE1.out _ hr; subst e0)
  clear i1
  refine (sPick_any w0 g k2 c bs 56 _ HC.out (by have := HK2.out; omega) (by omega) (by omega) (HS2.out.below (below_drewN (Below.refl w2.heap.size w2) _))).mono ?_
  rintro e w3 ⟨M, k3, hm0, hm1, hk3, rfl, S3, G3⟩
  have G03 : w.grownBy w3 (some g) := grown_trans (grown_trans HG2.out (grown_below (below_drewN (Below.refl w2.heap.size w2) _))) G3
  have HB3 := G3.block w.heap.size (by simpa using HZ2.out) (by simp; omega)
  have HS3 := Lib.hid S3; have HG3 := Lib.hid G03
  have HBB3 := Lib.hid (HB3.trans (show (w2.drewN _).heap[w.heap.size]? = _ from HBB.out))
  have HZ3 := Lib.hid (show w.heap.size < w3.heap.size from Nat.lt_of_lt_of_le (by simpa using HZ2.out) G3.size)
  have i1 := is_int32 M (by omega) (by omega)
  have HE2 := Lib.hid (fun (r : Nat) (h : Is .f32 r (fop .quo .f32 (floatOfInt .f32 M) 1090519040)) => e8_int (by omega) (by omega) h)
  have HM := Lib.hid (And.intro hm0 hm1); have HK3 := Lib.hid hk3
  have HB0 := Lib.hid (fun (d : Nat) => (show BxP w0 w g w.heap.size w3.heap.size c k3 #[.complex .f32 (E8 N) (E8 M), .complex .f32 0 0, .float .f32 0, .float .f32 0] (((w3.drewN d).alloc (.cells ZC 57)).setRow w3.heap.size #[.complex .f32 (E8 N) (E8 M), .complex .f32 0 0, .float .f32 0, .float .f32 0]) from by
    have hz := heap_alloc_new (w3.drewN d) (.cells ZC 57)
    have hb := (below_drewN (Below.refl w3.heap.size w3) d).alloc (Nat.le_refl _) (.cells ZC 57)
    have hb2 := below_setRow hb (Nat.le_refl w3.heap.size) #[.complex .f32 (E8 N) (E8 M), .complex .f32 0 0, .float .f32 0, .float .f32 0]
    exact ⟨HS3.out.below hb2, grown_trans HG3.out (grown_below hb2), setRow_heap _ _ _ _ _ _ hz, (hb2.block w.heap.size HZ3.out).trans HBB3.out, HGL.out, HZ3.out, Nat.le_refl _⟩))
  have HZ0 := Lib.hid (fun (d : Nat) => (show ((w3.drewN d).alloc (.cells ZC 57)).heap[w3.heap.size]? = some (.cells ZC 57 (0, 0)) from heap_alloc_new (w3.drewN d) _))
  clear S3 G3 G03 HB3 HBB HZ2 hm0 hm1 hk3
  go_wp2_with (first
    | ((with_reducible show wpList _ _ _ (Oper.mk none (Op.store _ _ _) _ _ _ _ :: _) _ _); refine wpList_store_row rfl 57 _ _ rfl w3.heap.size #[.complex .f32 (E8 N) (E8 M), .complex .f32 0 0, .float .f32 0, .float .f32 0] rfl rfl 57 _ (HZ0.out _) info_part rfl (one4 _ _ _ _ _ _) ?_)
    | ((apply wpList_farith; rfl; rfl; rfl; rfl; (first | with_reducible assumption | exact Is.const rfl); (first | with_reducible assumption | exact Is.const rfl); intro r n hr); with_reducible have e0 := HE2.out _ hr; subst e0))
  clear i1
  refine (sPick_any w0 g k3 c bs 17 _ HC.out (by have := HK2.out; have := HK3.out; omega) (by omega) (by omega) (HB0.out _).src).mono ?_
  rintro e w4 ⟨P1, k4, hp0, hp1, hk4, rfl, S4, G4⟩
  have HX4 := Lib.hid ((HB0.out _).pick S4 G4)
  have i1 := is_int32 (P1 - 8) (by omega) (by omega)
  have hw1 : wrap64 (P1 - 8) = P1 - 8 := wrap64_of (by omega) (by omega)
  have HE3 := Lib.hid (fun (r : Nat) (h : Is .f32 r (fop .quo .f32 (floatOfInt .f32 (P1 - 8)) 1090519040)) => e8_int (by omega) (by omega) h)
  have HP := Lib.hid (And.intro hp0 hp1); have HK4 := Lib.hid hk4
  clear S4 G4 hp0 hp1 hk4
  go_wp2_with ((apply wpList_farith; rfl; rfl; rfl; rfl; (first | with_reducible assumption | exact Is.const rfl); (first | with_reducible assumption | exact Is.const rfl); intro r n hr); with_reducible have e0 := HE3.out _ hr; subst e0)
  clear i1 hw1
  refine (sPick_any w0 g k4 c bs 17 _ HC.out (by have := HK2.out; have := HK3.out; have := HK4.out; omega) (by omega) (by omega) (HX4.out.drew _).src).mono ?_
  rintro e w5 ⟨Q1, k5, hp0, hp1, hk5, rfl, S5, G5⟩
  have HX5 := Lib.hid ((HX4.out.drew _).pick S5 G5)
  have i1 := is_int32 (Q1 - 8) (by omega) (by omega)
  have hw1 : wrap64 (Q1 - 8) = Q1 - 8 := wrap64_of (by omega) (by omega)
  have HE4 := Lib.hid (fun (r : Nat) (h : Is .f32 r (fop .quo .f32 (floatOfInt .f32 (Q1 - 8)) 1090519040)) => e8_int (by omega) (by omega) h)
  have HQ := Lib.hid (And.intro hp0 hp1); have HK5 := Lib.hid hk5
  have c1 : w5.cell? ⟨w3.heap.size, 1, none⟩ = some (.complex .f32 0 0) := by rw [Joins.cell_of_block HX5.out.box]; rfl
  have f1 : w5.frozen? ⟨w3.heap.size, 1, none⟩ = false := by simp [World.frozen?, HX5.out.box]
  clear S5 G5 hp0 hp1 hk5
  go_wp2_with ((apply wpList_farith; rfl; rfl; rfl; rfl; (first | with_reducible assumption | exact Is.const rfl); (first | with_reducible assumption | exact Is.const rfl); intro r n hr); with_reducible have e0 := HE4.out _ hr; subst e0)
  clear i1 hw1 c1 f1
  refine (sPick_any w0 g k5 c bs 9 _ HC.out (by have := HK2.out; have := HK3.out; have := HK4.out; have := HK5.out; omega) (by omega) (by omega) ((HX5.out.drew _).set 1 _).src).mono ?_
  rintro e w6 ⟨C1, k6, hp0, hp1, hk6, rfl, S6, G6⟩
  have HX6 := Lib.hid (((HX5.out.drew _).set 1 _).pick S6 G6)
  have i1 := is_int32 (C1 - 4) (by omega) (by omega)
  have hw1 : wrap64 (C1 - 4) = C1 - 4 := wrap64_of (by omega) (by omega)
  have HE5 := Lib.hid (fun (r : Nat) (h : Is .f32 r (fop .quo .f32 (floatOfInt .f32 (C1 - 4)) 1082130432)) => (show r = E8 (2 * (C1 - 4)) from by rw [(half_b10 C1 hp0 hp1).1] at h; exact e8_of_is (by omega) (by omega) h))
  have HCC := Lib.hid (And.intro hp0 hp1); have HK6 := Lib.hid hk6
  have c1 : w6.cell? ⟨w3.heap.size, 2, none⟩ = some (.float .f32 0) := by rw [Joins.cell_of_block HX6.out.box]; rfl
  have f1 : w6.frozen? ⟨w3.heap.size, 2, none⟩ = false := by simp [World.frozen?, HX6.out.box]
  clear S6 G6 hp0 hp1 hk6
  go_wp2_with ((apply wpList_farith; rfl; rfl; rfl; rfl; (first | with_reducible assumption | exact Is.const rfl); (first | with_reducible assumption | exact Is.const rfl); intro r n hr); with_reducible have e0 := HE5.out _ hr; subst e0)
  clear i1 hw1 c1 f1
  refine (sPick_any w0 g k6 c bs 4 _ HC.out (by have := HK2.out; have := HK3.out; have := HK4.out; have := HK5.out; have := HK6.out; omega) (by omega) (by omega) ((HX6.out.drew _).set 2 _).src).mono ?_
  rintro e w7 ⟨S1, k7, hp0, hp1, hk7, rfl, S7, G7⟩
  have HX7 := Lib.hid (((HX6.out.drew _).set 2 _).pick S7 G7)
  have i1 := is_int32 (1 + S1) (by omega) (by omega)
  have hw1 : wrap64 (1 + S1) = 1 + S1 := wrap64_of (by omega) (by omega)
  have HE6 := Lib.hid (fun (r : Nat) (h : Is .f32 r (fop .quo .f32 (floatOfInt .f32 (1 + S1)) 1073741824)) => (show r = E8 (4 * (1 + S1)) from by rw [(half_b10 (1 + S1) (by omega) (by omega)).2] at h; exact e8_of_is (by omega) (by omega) h))
  have HSS := Lib.hid (And.intro hp0 hp1); have HK7 := Lib.hid hk7
  have c1 : w7.cell? ⟨w3.heap.size, 3, none⟩ = some (.float .f32 0) := by rw [Joins.cell_of_block HX7.out.box]; rfl
  have f1 : w7.frozen? ⟨w3.heap.size, 3, none⟩ = false := by simp [World.frozen?, HX7.out.box]
  have HX8 := Lib.hid (fun (d : Nat) => (show BxP w0 w g w.heap.size w3.heap.size c k7 (PC N M (P1 - 8) (Q1 - 8) (2 * (C1 - 4)) (4 * (1 + S1))) ((w7.drewN d).setCell ⟨w3.heap.size, 3, none⟩ (.float .f32 (E8 (4 * (1 + S1))))) from (HX7.out.drew d).set 3 _))
  clear S7 G7 hp0 hp1 hk7
  go_wp2_with (first
    | ((with_reducible show wpList _ _ _ (Oper.mk (some 41) _ _ _ _ _ :: _) _ _); refine wpList_load_row rfl 57 _ rfl w3.heap.size rfl 57 (PC N M (P1 - 8) (Q1 - 8) (2 * (C1 - 4)) (4 * (1 + S1))) (0, 0) _ (HX8.out _).box Try.underlying57 rfl info_part ?_)
    | ((with_reducible show wpList _ _ _ (Oper.mk none (Op.store _ (Operand.tmp 2) _) _ _ _ _ :: _) _ _); refine wpList_store_row rfl 57 _ _ rfl w.heap.size (PC N M (P1 - 8) (Q1 - 8) (2 * (C1 - 4)) (4 * (1 + S1))) rfl rfl 57 ZC (HX8.out _).res info_part rfl (one4 _ _ _ _ _ _) ?_)
    | ((apply wpList_farith; rfl; rfl; rfl; rfl; (first | with_reducible assumption | exact Is.const rfl); (first | with_reducible assumption | exact Is.const rfl); intro r n hr); with_reducible have e0 := HE6.out _ hr; subst e0))
  refine bodyPost_ret (v := PV N M (P1 - 8) (Q1 - 8) (2 * (C1 - 4)) (4 * (1 + S1))) ?_ rfl ?_
  · rw [results_cell_row rfl _ _ w.heap.size 57 (PC N M (P1 - 8) (Q1 - 8) (2 * (C1 - 4)) (4 * (1 + S1))) (0, 0) _ rfl (setRow_heap _ _ _ _ _ _ (HX8.out _).res) Try.underlying57 rfl info_part]
  · exact ⟨N, M, P1 - 8, Q1 - 8, C1 - 4, 1 + S1, k7, by have := HN.out; have := HM.out; have := HP.out; have := HQ.out; have := HCC.out; have := HSS.out; omega, by have := HK2.out; have := HK3.out; have := HK4.out; have := HK5.out; have := HK6.out; have := HK7.out; omega, rfl, ((HX8.out _).out _).1, ((HX8.out _).out _).2⟩
end Go.Proofs.Ytnknhfhllifnhaa
