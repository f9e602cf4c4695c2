/-
  The program's ReflectAll and ReflectAt.
-/
import Derived.Test.YtahgnjmdlhidpaaRef
import Derived.Test.YtahgnjmdlhidpaaR8L
namespace Go.Proofs.Ytahgnjmdlhidpaa
open Go.Fl Go.RowKit
set_option linter.unusedSimpArgs false
set_option linter.unusedVariables false

set_option maxHeartbeats 1000000 in
set_option maxRecDepth 100000 in
theorem iReflectAll_pq (B : Nat) (v : Value) (ts : List Pq) (lo hi keep : Nat) (w : World) (hv : QOwn B w v ts) (n0 : Num lo) (n1 : Num hi) (nk : Num keep) (hl : fcmp .lss .f32 lo hi = true) (h1 : okq ts) (h2 : ∀ t ∈ ts, (reflF lo hi keep t).ok) (hn : ts.length ≤ 64) :
    Calls Try.prog 23 #[v, .float .f32 lo, .float .f32 hi, .float .f32 keep] w fun e w' => (∃ r, e = .returned (.tuple #[r, .int .i64 (cntO lo hi ts ts.length), .bool true]) ∧ QOwn w.heap.size w' r (ts.map (reflF lo hi keep))) ∧ Below w.heap.size w w' := by
  have HV := Lib.hid hv; have HO := Lib.hid h1; have H2 := Lib.hid h2; have N0 := Lib.hid n0; have N1 := Lib.hid n1; have NK := Lib.hid nk; have HL := Lib.hid hl
  clear hv h1 h2 n0 n1 nk hl
  have hb0 := (Below.refl w.heap.size w).alloc (Nat.le_refl _) (.cells #[.float .f32 keep] 27)
  have hz0 := heap_alloc_new w (.cells #[.float .f32 keep] 27)
  have hs0 : w.heap.size < (w.alloc (.cells #[.float .f32 keep] 27)).heap.size := by simp
  go_enter Try.func23, Try.ntmps23
  go_wp2_with fail
  generalize w.alloc (.cells #[.float .f32 keep] 27) = w1 at hb0 hz0 hs0 ⊢
  have HB1 := Lib.hid hb0; have HZ1 := Lib.hid hz0; have HS1 := Lib.hid hs0
  clear hb0 hz0 hs0
  refine (wallsOk lo hi N0.out N1.out HL.out _).mono ?_
  rintro e w2 ⟨rfl, hb2⟩
  have HB2 := Lib.hid (HB1.out.trans (hb2.mono HB1.out.size))
  have HZ2 := Lib.hid ((hb2.block w.heap.size HS1.out).trans HZ1.out)
  have HS2 := Lib.hid (Nat.lt_of_lt_of_le HS1.out hb2.size)
  clear hb2 HB1 HZ1 HS1
  have hb3 := below_setRow ((Below.refl w2.heap.size w2).alloc (Nat.le_refl _) (.cells #[.float .f32 0, .float .f32 0] 100)) (Nat.le_refl _) #[.float .f32 lo, .float .f32 hi]
  have HA3 := Lib.hid (heap_alloc_new w2 (.cells #[.float .f32 0, .float .f32 0] 100))
  have HW3 := Lib.hid (show ((w2.alloc (.cells #[.float .f32 0, .float .f32 0] 100)).setRow w2.heap.size #[.float .f32 lo, .float .f32 hi]).heap[w2.heap.size]? = some (.cells #[.float .f32 lo, .float .f32 hi] 100) from setRow_heap _ _ _ _ _ _ HA3.out)
  have HZ3 := Lib.hid ((hb3.block w.heap.size HS2.out).trans HZ2.out)
  have HB3 := Lib.hid (HB2.out.trans (hb3.mono HB2.out.size))
  have HS3 := Lib.hid (show w2.heap.size < ((w2.alloc (.cells #[.float .f32 0, .float .f32 0] 100)).setRow w2.heap.size #[.float .f32 lo, .float .f32 hi]).heap.size from (Array.getElem?_eq_some_iff.1 HW3.out).1)
  have c7 : ((w2.alloc (.cells #[.float .f32 0, .float .f32 0] 100)).setRow w2.heap.size #[.float .f32 lo, .float .f32 hi]).cell? ⟨w.heap.size, 0, none⟩ = some (.float .f32 keep) := by rw [Joins.cell_of_block HZ3.out]; rfl
  clear hb3 HZ2
  go_wp2_with ((with_reducible show wpList _ _ _ (Oper.mk none (Op.store _ _ _) _ _ _ _ :: _) _ _); refine wpList_store_row rfl 100 _ _ rfl w2.heap.size #[.float .f32 lo, .float .f32 hi] rfl rfl 100 _ HA3.out info_walls rfl (one2 _ _) ?_)
  clear HA3 c7
  generalize ((w2.alloc (.cells #[.float .f32 0, .float .f32 0] 100)).setRow w2.heap.size #[.float .f32 lo, .float .f32 hi]) = w3 at HW3 HZ3 HB3 HS3 ⊢
  have HS2' := Lib.hid HB2.out.size
  generalize w2.heap.size = wa at HW3 HS3 HS2 HS2' ⊢
  clear HB2
  refine (iFinite3_any _ _ NK.out.is _).mono ?_
  rw [NK.out.fn]
  rintro e w4 ⟨rfl, k4, rfl⟩
  have HZ4 := Lib.hid (show (w3.drewN k4).heap[w.heap.size]? = _ from HZ3.out)
  have HW4 := Lib.hid (show (w3.drewN k4).heap[wa]? = _ from HW3.out)
  have HB4 := Lib.hid (below_drewN HB3.out k4)
  have HS4 := Lib.hid (show wa < (w3.drewN k4).heap.size from HS3.out)
  generalize w3.drewN k4 = w4 at HZ4 HW4 HB4 HS4 ⊢
  clear HZ3 HW3 HB3 HS3
  have hb5 := (Below.refl w4.heap.size w4).alloc (Nat.le_refl _) (.cells #[.int .i64 0] 2)
  have hc5 := heap_alloc_new w4 (.cells #[.int .i64 0] 2)
  have HB5 := Lib.hid (HB4.out.trans (hb5.mono HB4.out.size))
  have HZ5 := Lib.hid ((hb5.block w.heap.size (Nat.lt_trans HS2.out HS4.out)).trans HZ4.out)
  have HW5 := Lib.hid ((hb5.block wa HS4.out).trans HW4.out)
  have HC5 := Lib.hid hc5
  clear hb5 hc5
  go_wp2_with fail
  generalize w4.alloc (.cells #[.int .i64 0] 2) = w5 at HB5 HZ5 HW5 HC5 ⊢
  have HS5 := Lib.hid (Array.getElem?_eq_some_iff.1 HC5.out).1
  generalize w4.heap.size = cb at HC5 HS4 HS5 ⊢
  refine (iPushAll_any B v ts w5 _ _ (fun a cap k wr => Push w w5.heap.size a ts.length cap wa w.heap.size cb lo hi keep (cntO lo hi ts k) (reflTo (reflF lo hi keep) ts k) wr) (r4_below HV.out HB5.out) HO.out hn (enters_of Try.func69 (by kernel_rfl) rfl) (fun a cap w1 hb ho => ?_) (fun g cap k wr hk hp => ?_)).mono ?_
  · have hz := HZ5.out; have hw := HW5.out; have hc := HC5.out
    refine ⟨by rw [reflTo_zero]; exact ho, (hb.block wa (Array.getElem?_eq_some_iff.1 hw).1).trans hw, (hb.block w.heap.size (Array.getElem?_eq_some_iff.1 hz).1).trans hz, (hb.block cb (Array.getElem?_eq_some_iff.1 hc).1).trans ?_,
      (Array.getElem?_eq_some_iff.1 hw).1, (Array.getElem?_eq_some_iff.1 hz).1, (Array.getElem?_eq_some_iff.1 hc).1, HS2'.out, Nat.le_refl _, ?_, ?_, ?_, HB5.out.trans (hb.mono HB5.out.size)⟩
    · rw [hc]; simp [cntO]
    · have := HS4.out; have := HS2.out; omega
    · have := HS4.out; omega
    · have := HS4.out; have := HS2.out; omega
  · exact iThrow_any _ _ _ _ _ _ _ _ _ _ _ _ _ _ hp hk hn N0.out N1.out NK.out HO.out H2.out
  · rintro e w6 ⟨a, cap, rfl, hp⟩
    rw [reflTo_all] at hp
    have HP := Lib.hid hp
    have c9 : w6.cell? ⟨cb, 0, none⟩ = some (.int .i64 (cntO lo hi ts ts.length)) := by rw [Joins.cell_of_block hp.bc]; rfl
    clear hp
    go_wp2_with fail
    go_quiet (fail)
    go_wp2_with fail
    go_ret3
    exact ⟨⟨_, rfl, Go.Joins.ownsRow_le (HP.out.step (below_drewN (Below.refl w6.heap.size w6) _)).own HB5.out.size⟩, below_drewN HP.out.bel _⟩

theorem q_one (B : Nat) (w : World) (t : Pq) (h : B ≤ w.heap.size) : QOwn B (w.alloc (.cells #[.complex .f32 t.a t.b, .complex .f32 t.x t.y, .float .f32 t.c, .float .f32 t.s] 43)) (.slice (some ⟨w.heap.size, 0, none⟩) 1 1) [t] :=
  ⟨rfl, .inr ⟨w.heap.size, 1, #[.complex .f32 t.a t.b, .complex .f32 t.x t.y, .float .f32 t.c, .float .f32 t.s], rfl, h, heap_alloc_new w _, Nat.le_refl _, by decide, rfl, rfl⟩⟩

set_option maxHeartbeats 1000000 in
set_option maxRecDepth 100000 in
theorem iReflectAt_pq (t : Pq) (lo hi keep : Nat) (w : World) (n0 : Num lo) (n1 : Num hi) (nk : Num keep) (hl : fcmp .lss .f32 lo hi = true) (h1 : t.ok) (h2 : (reflF lo hi keep t).ok) :
    Calls Try.prog 26 #[t.r4.val, .float .f32 lo, .float .f32 hi, .float .f32 keep] w fun e w' => e = .returned (.tuple #[(reflF lo hi keep t).r4.val, .bool true]) ∧ Below w.heap.size w w' := by
  obtain ⟨u, hu⟩ : ∃ u, reflF lo hi keep t = u := ⟨_, rfl⟩
  rw [hu]
  have HU := Lib.hid hu
  clear hu
  have H1 := Lib.hid h1; have H2 := Lib.hid h2; have N0 := Lib.hid n0; have N1 := Lib.hid n1; have NK := Lib.hid nk; have HL := Lib.hid hl
  clear h1 h2 n0 n1 nk hl
  have hbA := ((Below.refl w.heap.size w).alloc (Nat.le_refl _) (.cells #[.complex .f32 t.a t.b, .complex .f32 t.x t.y, .float .f32 t.c, .float .f32 t.s] 43)).alloc (by simp) (.cells ZC 43)
  have hzA := heap_alloc2_new w (.cells #[.complex .f32 t.a t.b, .complex .f32 t.x t.y, .float .f32 t.c, .float .f32 t.s] 43) (.cells ZC 43)
  have hsA : ((w.alloc (.cells #[.complex .f32 t.a t.b, .complex .f32 t.x t.y, .float .f32 t.c, .float .f32 t.s] 43)).alloc (.cells ZC 43)).heap.size = w.heap.size + 2 := by simp
  unfold R4.val Pq.r4
  go_enter Try.func26, Try.ntmps26
  go_wp2_with fail
  generalize (w.alloc (.cells #[.complex .f32 t.a t.b, .complex .f32 t.x t.y, .float .f32 t.c, .float .f32 t.s] 43)).alloc (.cells ZC 43) = wA at hbA hzA hsA ⊢
  have HBA := Lib.hid hbA; have HZA := Lib.hid hzA; have HSA := Lib.hid hsA
  rw [← hsA]
  clear hbA hzA hsA
  have HO1 := Lib.hid (q_one 0 wA t (Nat.zero_le _))
  have hb1 := (Below.refl wA.heap.size wA).alloc (Nat.le_refl _) (.cells #[.complex .f32 t.a t.b, .complex .f32 t.x t.y, .float .f32 t.c, .float .f32 t.s] 43)
  have HB1 := Lib.hid (HBA.out.trans (hb1.mono HBA.out.size))
  have HZ1 := Lib.hid ((hb1.block (w.heap.size + 1) (by rw [HSA.out]; omega)).trans HZA.out)
  clear hb1
  generalize wA.alloc (.cells #[.complex .f32 t.a t.b, .complex .f32 t.x t.y, .float .f32 t.c, .float .f32 t.s] 43) = w1 at HO1 HB1 HZ1 ⊢
  refine (iReflectAll_pq 0 _ [t] lo hi keep _ HO1.out N0.out N1.out NK.out HL.out (by intro u hu; simp only [List.mem_singleton] at hu; rw [hu]; exact H1.out) (by intro u hu; simp only [List.mem_singleton] at hu; rw [hu]; exact H2.out) (by simp)).mono ?_
  rintro e w2 ⟨⟨r, rfl, hr⟩, hb2⟩
  obtain ⟨a, cap, rfl, hfm⟩ := q_form hr
  rcases hfm with hfm | ⟨g, rfl, hg1, hg2⟩
  · simp at hfm
  obtain ⟨c0, c1, c2, c3⟩ := q_cells hr (k := 0) (by simp)
  have HZ2 := Lib.hid ((hb2.block (w.heap.size + 1) (Array.getElem?_eq_some_iff.1 HZ1.out).1).trans HZ1.out)
  have HB2 := Lib.hid (HB1.out.trans (hb2.mono HB1.out.size))
  clear hb2 hr HZ1 HZA HB1 HBA HO1
  simp only [List.map_cons, List.map_nil, List.getElem_cons_zero, Nat.zero_mul, Nat.zero_add, List.length_singleton, List.length_cons, List.length_nil] at c0 c1 c2 c3 ⊢
  rw [HU.out] at c0 c1 c2 c3
  have HX := Lib.hid (show (w2.setRow (w.heap.size + 1) #[.complex .f32 u.a u.b, .complex .f32 u.x u.y, .float .f32 u.c, .float .f32 u.s]).heap[w.heap.size + 1]? = some (.cells #[.complex .f32 u.a u.b, .complex .f32 u.x u.y, .float .f32 u.c, .float .f32 u.s] 43) from setRow_heap _ _ _ _ _ _ HZ2.out)
  go_wp2_with ((with_reducible show wpList _ _ _ (Oper.mk none (Op.store _ _ _) _ _ _ _ :: _) _ _); refine wpList_store_row rfl 43 _ _ rfl (w.heap.size + 1) #[.complex .f32 u.a u.b, .complex .f32 u.x u.y, .float .f32 u.c, .float .f32 u.s] rfl rfl 43 _ HZ2.out info_part rfl (one4 _ _ _ _ _ _) ?_)
  obtain ⟨q0, q1, q2, q3⟩ := box_cells HX.out
  refine bodyPost_ret (v := .tuple #[.agg #[.complex .f32 u.a u.b, .complex .f32 u.x u.y, .float .f32 u.c, .float .f32 u.s], .bool true]) (by simp [results, Try.results26, go_sem, q0, q1, q2, q3]) rfl ⟨rfl, below_setRow HB2.out (by omega) _⟩
end Go.Proofs.Ytahgnjmdlhidpaa
