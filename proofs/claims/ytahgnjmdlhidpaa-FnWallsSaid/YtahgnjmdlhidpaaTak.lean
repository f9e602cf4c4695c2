/-
  The program's TakeOutside, of particles in eighths: who stays, and the charge of the others, exactly.
-/
import Derived.Test.YtahgnjmdlhidpaaWal
import Derived.Test.YtahgnjmdlhidpaaChg
import Derived.Test.YtahgnjmdlhidpaaR8L
namespace Go.Proofs.Ytahgnjmdlhidpaa
open Go.Fl Go.RowKit
set_option linter.unusedSimpArgs false
set_option linter.unusedVariables false

def stayB (lo hi : Nat) (t : Pt) : Bool := !outB lo hi t.pq
def stayTo (lo hi : Nat) (ts : List Pt) (k : Nat) : List Pt := (ts.take k).filter (stayB lo hi)
def outC (lo hi : Nat) (t : Pt) : Int := if outB lo hi t.pq = true then t.c else 0
theorem stayTo_out {lo hi : Nat} {ts : List Pt} {k : Nat} (h : k < ts.length) (ho : outB lo hi ts[k].pq = true) : stayTo lo hi ts (k + 1) = stayTo lo hi ts k := by
  unfold stayTo
  rw [List.take_succ_eq_append_getElem h, List.filter_append]
  simp [stayB, ho]
theorem stayTo_in {lo hi : Nat} {ts : List Pt} {k : Nat} (h : k < ts.length) (ho : outB lo hi ts[k].pq = false) : stayTo lo hi ts (k + 1) = stayTo lo hi ts k ++ [ts[k]] := by
  unfold stayTo
  rw [List.take_succ_eq_append_getElem h, List.filter_append]
  simp [stayB, ho]
theorem stayTo_le (lo hi : Nat) (ts : List Pt) (k : Nat) : (stayTo lo hi ts k).length ≤ ts.length := by
  unfold stayTo
  refine Nat.le_trans (List.length_filter_le _ _) ?_
  rw [List.length_take]; exact Nat.min_le_right _ _

set_option maxHeartbeats 1000000 in
set_option maxRecDepth 100000 in
theorem iTake_pt (B : Nat) (v : Value) (ts : List Pt) (lo hi : Nat) (w : World) (hv : POwn B w v ts) (h : oks ts) (hn : ts.length ≤ 64) (n0 : Num lo) (n1 : Num hi) (hl : fcmp .lss .f32 lo hi = true) :
    Calls Try.prog 24 #[v, .float .f32 lo, .float .f32 hi] w fun e w' => (∃ r a, e = .returned (.tuple #[r, .float .f32 a, .bool true]) ∧ POwn w.heap.size w' r (stayTo lo hi ts ts.length) ∧ Dy .f32 146 a (sumI (outC lo hi) ts ts.length)) ∧ Below w.heap.size w w' := by
  obtain ⟨a, cap, rfl, hf⟩ := p_form hv
  have HV := Lib.hid hv; have HO := Lib.hid h; have N0 := Lib.hid n0; have N1 := Lib.hid n1; have HL := Lib.hid hl
  have HX := Lib.hid (sumI_le (outC lo hi) ts 16 (fun t ht => by unfold outC; have := (h t ht).c0; have := (h t ht).c1; split <;> omega))
  clear hv h n0 n1 hl
  go_enter Try.func24, Try.ntmps24
  go_wp2_with fail
  refine (wallsOk lo hi N0.out N1.out HL.out _).mono ?_
  rintro e w2 ⟨rfl, hb2⟩
  have HB2 := Lib.hid hb2
  clear hb2
  have hb3 := below_setRow ((Below.refl w2.heap.size w2).alloc (Nat.le_refl _) (.cells #[.float .f32 0, .float .f32 0] 100)) (Nat.le_refl _) #[.float .f32 lo, .float .f32 hi]
  have HA3 := Lib.hid (heap_alloc_new w2 (.cells #[.float .f32 0, .float .f32 0] 100))
  have HW3 := Lib.hid (show ((w2.alloc (.cells #[.float .f32 0, .float .f32 0] 100)).setRow w2.heap.size #[.float .f32 lo, .float .f32 hi]).heap[w2.heap.size]? = some (.cells #[.float .f32 lo, .float .f32 hi] 100) from setRow_heap _ _ _ _ _ _ HA3.out)
  have HB3 := Lib.hid (HB2.out.trans (hb3.mono HB2.out.size))
  have HS2 := Lib.hid HB2.out.size
  clear hb3
  go_wp2_with ((with_reducible show wpList _ _ _ (Oper.mk none (Op.store _ _ _) _ _ _ _ :: _) _ _); refine wpList_store_row rfl 100 _ _ rfl w2.heap.size #[.float .f32 lo, .float .f32 hi] rfl rfl 100 _ HA3.out info_walls rfl (one2 _ _) ?_)
  clear HA3
  generalize ((w2.alloc (.cells #[.float .f32 0, .float .f32 0] 100)).setRow w2.heap.size #[.float .f32 lo, .float .f32 hi]) = w3 at HW3 HB3 ⊢
  generalize w2.heap.size = wa at HW3 HS2 ⊢
  clear HB2
  refine (iAre_pt B _ ts _ (r4_below HV.out HB3.out) HO.out hn).mono ?_
  rintro e w4 ⟨rfl, hb4⟩
  have HB4 := Lib.hid (HB3.out.trans (hb4.mono HB3.out.size))
  have HW4 := Lib.hid ((hb4.block wa (Array.getElem?_eq_some_iff.1 HW3.out).1).trans HW3.out)
  clear hb4 HB3 HW3
  go_wp2_with fail
  go_loopw [11, 12, 32] (fun u s i wr => ∃ k : Nat, k ≤ ts.length ∧ i = .int .i64 k ∧ Hid (Below w.heap.size w wr) ∧ Hid (wr.heap[wa]? = some (.cells #[.float .f32 lo, .float .f32 hi] 100)) ∧ Hid (R4Own (wa + 1) wr u ((stayTo lo hi ts k).map Pt.r4)) ∧ ∃ x, s = .float .f32 x ∧ Hid (Dy .f32 146 x (sumI (outC lo hi) ts k))) (fun _ s i _ => ts.length - (intOf i).toNat)
  case atStart => exact ⟨0, Nat.zero_le _, rfl, HB4, HW4, Lib.hid (World.ownsRow_nil _ _ _ _), 0, rfl, Lib.hid (dy_zero32 _)⟩
  case round =>
    clear HB4 HW4
    obtain ⟨k, hk, rfl, HB, HW, HU, x, rfl, HD⟩ := hrel
    obtain ⟨ua, uc, rfl, _⟩ := p_form HU.out
    by_cases hlt : k < ts.length
    · rcases hf with hf | ⟨g, rfl, _, _⟩
      · subst hf; simp at hlt
      obtain ⟨c0, c1, c2, c3⟩ := p_cells (r4_below HV.out HB.out) hlt
      have HT := Lib.hid (oks_at HO.out hlt)
      have HSX := Lib.hid (sumI_succ (outC lo hi) ts hlt)
      have HY := Lib.hid (fun ho => stayTo_out (lo := lo) (hi := hi) hlt ho)
      have HN := Lib.hid (fun ho => stayTo_in (lo := lo) (hi := hi) hlt ho)
      have HK := Lib.hid (stayTo_le lo hi ts k)
      generalize ts[k] = t at c0 c1 c2 c3 HT HSX HY HN
      have b1 := HX.out k (by omega)
      have HC := Lib.hid (show -1024 ≤ sumI (outC lo hi) ts k ∧ sumI (outC lo hi) ts k ≤ 1024 by omega)
      clear b1
      have hb5 := (Below.refl wr.heap.size wr).alloc (Nat.le_refl _) (.cells #[.complex .f32 (E8 t.n) (E8 t.m), .complex .f32 t.x t.y, .float .f32 (E8 t.c), .float .f32 (E8 t.s)] 43)
      have HX5 := Lib.hid (heap_alloc_new wr (.cells #[.complex .f32 (E8 t.n) (E8 t.m), .complex .f32 t.x t.y, .float .f32 (E8 t.c), .float .f32 (E8 t.s)] 43))
      have HB5 := Lib.hid (HB.out.trans (hb5.mono HB.out.size))
      have HW5 := Lib.hid ((hb5.block wa (Array.getElem?_eq_some_iff.1 HW.out).1).trans HW.out)
      have HU5 := Lib.hid (r4_below HU.out hb5)
      have HZ5 := Lib.hid (show wr.heap.size < (wr.alloc (.cells #[.complex .f32 (E8 t.n) (E8 t.m), .complex .f32 t.x t.y, .float .f32 (E8 t.c), .float .f32 (E8 t.s)] 43)).heap.size by simp)
      have HWR := Lib.hid (show wa < wr.heap.size from (Array.getElem?_eq_some_iff.1 HW.out).1)
      have HUL := Lib.hid (fun j e => (HU.out.lt j e).2)
      have d0 : (wr.alloc (.cells #[.complex .f32 (E8 t.n) (E8 t.m), .complex .f32 t.x t.y, .float .f32 (E8 t.c), .float .f32 (E8 t.s)] 43)).cell? ⟨wa, 0, none⟩ = some (.float .f32 lo) := by rw [Joins.cell_of_block HW5.out]; rfl
      have d1 : (wr.alloc (.cells #[.complex .f32 (E8 t.n) (E8 t.m), .complex .f32 t.x t.y, .float .f32 (E8 t.c), .float .f32 (E8 t.s)] 43)).cell? ⟨wa, 1, none⟩ = some (.float .f32 hi) := by rw [Joins.cell_of_block HW5.out]; rfl
      clear hb5 HB HW HU
      cases ho : outB lo hi t.pq with
      | true =>
        have HO1 := Lib.hid ho
        have HY1 := Lib.hid (HY.out ho)
        have hc := dy_e8' (n := t.c) (by have := HT.out.c0; omega) (by have := HT.out.c1; omega)
        have HSS := Lib.hid (HD.out.addv32 hc (by decide) (by have := HT.out.c0; have := HT.out.c1; have := HC.out; omega))
        have HSX1 := Lib.hid (show sumI (outC lo hi) ts (k + 1) = sumI (outC lo hi) ts k + t.c by rw [HSX.out]; unfold outC; rw [if_pos ho])
        have ix := HD.out.is; have iy := hc.is
        clear ho hc
        go_wp2_with fail
        clear c0 c1 c2 c3 d0 d1
        generalize wr.alloc (.cells #[.complex .f32 (E8 t.n) (E8 t.m), .complex .f32 t.x t.y, .float .f32 (E8 t.c), .float .f32 (E8 t.s)] 43) = w5 at HX5 HB5 HW5 HU5 HZ5 ⊢
        generalize wr.heap.size = b at HX5 HZ5 HUL HWR ⊢
        refine (iBeyond_yes lo hi N0.out N1.out t.pq HT.out.pq HO1.out _).mono ?_
        rintro e w6 ⟨rfl, hb6⟩
        have HB6 := Lib.hid (HB5.out.trans (hb6.mono HB5.out.size))
        have HW6 := Lib.hid ((hb6.block wa (Array.getElem?_eq_some_iff.1 HW5.out).1).trans HW5.out)
        have HU6 := Lib.hid (r4_below HU5.out hb6)
        have HX6 := Lib.hid ((hb6.block b HZ5.out).trans HX5.out)
        obtain ⟨_, _, q2, _⟩ := box_cells HX6.out
        clear hb6
        go_wp2_with (apply wpList_farith; rfl; rfl; rfl; rfl; (first | with_reducible assumption | exact Is.const rfl); (first | with_reducible assumption | exact Is.const rfl); intro r n hr)
        go_roundw
        case rel => exact ⟨k + 1, by omega, by go_num, Lib.hid (below_drewN HB6.out _), Lib.hid HW6.out, Lib.hid (by rw [HY1.out]; exact r4_below HU6.out (below_drewN (Below.refl _ _) _)), _, rfl, Lib.hid (by rw [HSX1.out]; exact dyis HSS.out (by assumption))⟩
        case measure => simp [intOf]; omega
      | false =>
        have HO1 := Lib.hid ho
        have HN1 := Lib.hid (HN.out ho)
        have HSX1 := Lib.hid (show sumI (outC lo hi) ts (k + 1) = sumI (outC lo hi) ts k by rw [HSX.out]; unfold outC; rw [if_neg (by rw [ho]; decide)]; omega)
        clear ho
        go_wp2_with fail
        clear c0 c1 c2 c3 d0 d1
        generalize wr.alloc (.cells #[.complex .f32 (E8 t.n) (E8 t.m), .complex .f32 t.x t.y, .float .f32 (E8 t.c), .float .f32 (E8 t.s)] 43) = w5 at HX5 HB5 HW5 HU5 HZ5 ⊢
        generalize wr.heap.size = b at HX5 HZ5 HUL HWR ⊢
        refine (iBeyond_no lo hi N0.out N1.out t.pq HT.out.pq HO1.out _).mono ?_
        rintro e w6 ⟨rfl, hb6⟩
        have HB6 := Lib.hid (HB5.out.trans (hb6.mono HB5.out.size))
        have HW6 := Lib.hid ((hb6.block wa (Array.getElem?_eq_some_iff.1 HW5.out).1).trans HW5.out)
        have HU6 := Lib.hid (r4_below HU5.out hb6)
        have HX6 := Lib.hid ((hb6.block b HZ5.out).trans HX5.out)
        obtain ⟨q0, q1, q2, q3⟩ := box_cells HX6.out
        have hb7 := (Below.refl w6.heap.size w6).alloc (Nat.le_refl _) (.cells #[.complex .f32 (E8 t.n) (E8 t.m), .complex .f32 t.x t.y, .float .f32 (E8 t.c), .float .f32 (E8 t.s)] 43)
        have HX7 := Lib.hid (heap_alloc_new w6 (.cells #[.complex .f32 (E8 t.n) (E8 t.m), .complex .f32 t.x t.y, .float .f32 (E8 t.c), .float .f32 (E8 t.s)] 43))
        have HB7 := Lib.hid (HB6.out.trans (hb7.mono HB6.out.size))
        have HW7 := Lib.hid ((hb7.block wa (Array.getElem?_eq_some_iff.1 HW6.out).1).trans HW6.out)
        have HU7 := Lib.hid (r4_below HU6.out hb7)
        have HWL := Lib.hid (Array.getElem?_eq_some_iff.1 HW7.out).1
        clear hb6 hb7
        go_wp2_with (at_builtin; refine wpList_app4 rfl _ _ rfl (wa + 1) (.slice ua (stayTo lo hi ts k).length uc) (stayTo lo hi ts k).length ((stayTo lo hi ts k).map Pt.r4) rfl HU7.out (by rw [List.length_map]) w6.heap.size 1 rfl (.complex .f32 (E8 t.n) (E8 t.m)) (.complex .f32 t.x t.y) (.float .f32 (E8 t.c)) (.float .f32 (E8 t.s)) HX7.out rfl rfl rfl rfl (by have := HK.out; omega) (by have := HWL.out; omega) ?_; intro g' cap' w8 hown hgrow)
        have hbk : ∀ j, (Value.slice ua (stayTo lo hi ts k).length uc).ownBlock = some j → wa + 1 ≤ j := fun j e => (HU7.out.lt j e).1
        have HB8 := Lib.hid (HB7.out.grown hgrow HB7.out.size (fun j e => by have := hbk j e; have := HS2.out; omega))
        have HW8 := Lib.hid ((hgrow.block wa HWL.out (fun e => by have := hbk wa (by rw [e]); omega)).trans HW7.out)
        have HU8 := Lib.hid (show R4Own (wa + 1) w8 (.slice (some ⟨g', 0, none⟩) ((stayTo lo hi ts k).length + 1) cap') ((stayTo lo hi ts (k + 1)).map Pt.r4) from by rw [HN1.out, List.map_append]; exact hown)
        clear hown hgrow hbk
        go_roundw
        case rel => exact ⟨k + 1, by omega, by go_num, HB8, HW8, HU8, _, rfl, Lib.hid (by rw [HSX1.out]; exact HD.out)⟩
        case measure => simp [intOf]; omega
    · obtain rfl : k = ts.length := by omega
      clear hlt
      have ix := HD.out.is
      go_wp2_with fail
      refine (iFinite3_any _ _ ix _).mono ?_
      rw [dv_fin HD.out.dv]
      rintro e w6 ⟨rfl, k6, rfl⟩
      go_wp2_with fail
      go_ret3
      exact ⟨⟨_, _, rfl, Go.Joins.ownsRow_le (r4_below HU.out (below_drewN (Below.refl _ _) _)) (by have := HS2.out; omega), HD.out⟩, below_drewN HB.out _⟩
end Go.Proofs.Ytahgnjmdlhidpaa
