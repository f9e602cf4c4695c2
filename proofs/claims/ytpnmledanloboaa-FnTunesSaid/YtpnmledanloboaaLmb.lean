/-
  The matrix of a line, as a list; the model's.
-/
import Derived.Test.YtpnmledanloboaaLma
namespace Go.Proofs.Ytpnmledanloboaa
open Go.Fl Go.RowKit
open Go.Joins (ownsRow_le)
set_option linter.unusedSimpArgs false
set_option linter.unusedVariables false

abbrev okMatrixOf (ts : List El) : Bool := okLine ts
def lenMatrixOf (ts : List El) : Nat := if okLine ts then 4 else 0
theorem lenMatrixOf_le (ts : List El) : lenMatrixOf ts ≤ 1048576 := by unfold lenMatrixOf; split <;> omega
theorem times_congr {m n m' n' : Nat → Nat} (h : ∀ j, j < 4 → m j = m' j) (k : ∀ j, j < 4 → n j = n' j) (j : Nat) : timesF m n j = timesF m' n' j := by
  unfold timesF
  rw [h 0 (by omega), h 1 (by omega), h 2 (by omega), h 3 (by omega), k 0 (by omega), k 1 (by omega), k 2 (by omega), k 3 (by omega)]
theorem atL_is {a b c d : Nat} {F : Nat → Nat} (h : Is4 a b c d F) (j : Nat) (hj : j < 4) : atL [a, b, c, d] j = F j := by
  have : j = 0 ∨ j = 1 ∨ j = 2 ∨ j = 3 := by omega
  rcases this with rfl | rfl | rfl | rfl
  · exact h.i0.eq
  · exact h.i1.eq
  · exact h.i2.eq
  · exact h.i3.eq
theorem fs_cells {w : World} {g a b c d : Nat} (hg : g < w.heap.size) (c0 : w.cell? ⟨g, 0, none⟩ = some (.float .f32 a)) (c1 : w.cell? ⟨g, 1, none⟩ = some (.float .f32 b)) (c2 : w.cell? ⟨g, 2, none⟩ = some (.float .f32 c)) (c3 : w.cell? ⟨g, 3, none⟩ = some (.float .f32 d)) {F : Nat → Nat} (h : Is4 a b c d F) :
    FS .f32 w (.slice (some ⟨g, 0, none⟩) 4 4) [a, b, c, d] := by
  refine ⟨_, _, rfl, Nat.le_refl _, by decide, ?_, .inr ⟨g, 0, rfl, hg, fun i hi => ?_⟩⟩
  · intro x hx
    simp only [List.mem_cons, List.not_mem_nil, or_false] at hx
    rcases hx with rfl | rfl | rfl | rfl
    · exact h.i0.lt
    · exact h.i1.lt
    · exact h.i2.lt
    · exact h.i3.lt
  · rw [Nat.zero_add]
    have : i = 0 ∨ i = 1 ∨ i = 2 ∨ i = 3 := by simp at hi; omega
    rcases this with rfl | rfl | rfl | rfl
    · exact c0
    · exact c1
    · exact c2
    · exact c3

theorem fres_conv {B B' n : Nat} {w : World} {v : Value} {F G : Nat → Nat} (h : FRes B w v n F) (hB : B' ≤ B) (hF : ∀ j, j < n → F j = G j) : FRes B' w v n G := by
  obtain ⟨rs, h1, h2, h3⟩ := h
  exact ⟨rs, h1, fun j hj => by rw [← hF j (by omega)]; exact h2 j hj, ownsRow_le h3 hB⟩
theorem iMatrixOf_any (B : Nat) (v : Value) (ts : List El) (w : World) (hv : EOwn B w v ts) (h : oksE ts) (hn : ts.length ≤ 1048576) :
    Calls Try.prog 36 #[v] w fun e w' => (∃ r, e = .returned (.tuple #[r, .bool (okMatrixOf ts)]) ∧ FResE w.heap.size w' r (lenMatrixOf ts) (lineM ts ts.length)) ∧ Below w.heap.size w w' := by
  have HV := Lib.hid hv; have HO := Lib.hid h
  clear hv h
  obtain ⟨q, hq⟩ : ∃ q, okLine ts = q := ⟨_, rfl⟩
  have HN := Lib.hid (show lenMatrixOf ts = if q then 4 else 0 by unfold lenMatrixOf; rw [hq])
  unfold okMatrixOf
  rw [hq]
  have HQ := Lib.hid hq
  clear hq
  obtain ⟨N, hN⟩ : ∃ N, lenMatrixOf ts = N := ⟨_, rfl⟩
  rw [hN] at HN ⊢
  clear hN
  go_enter Try.func36, Try.ntmps36
  go_wp2_with fail
  refine (iLine_any B v ts _ HV.out HO.out hn).mono ?_
  rw [HQ.out]
  rintro e w2 hp
  unfold LineRes at hp
  obtain ⟨⟨a, b, c, d, rfl, hi, _⟩, hb⟩ := hp
  have HI := Lib.hid hi; have HB := Lib.hid hb
  clear hi hb
  cases q with
  | false =>
    obtain rfl : N = 0 := HN.out
    go_wp2_with fail
    go_ret2
    exact ⟨⟨_, rfl, (fres_none _ _ _).toE⟩, HB.out.alloc HB.out.size _⟩
  | true =>
    obtain rfl : N = 4 := HN.out
    go_wp2_with fail
    go_ret2
    exact ⟨⟨_, rfl, _, rfl, eqs4 (HI.out (by trivial)), fownE4 _ _ _ _ _ _ HB.out.size⟩, HB.out.alloc HB.out.size _⟩

theorem mat_k0 {t : El} (h : t.k = 0) (ht : t.ok) : Is4 1065353216 t.n 0 1065353216 (matP t) := by
  refine ⟨?_, ?_, ?_, ?_⟩ <;> unfold matP <;> rw [if_pos h] <;> first | exact is_one | exact ht.iN | exact is_nil
theorem mat_k1 {t : El} (e0 : ¬ t.k = 0) (e1 : t.k = 1) {r : Nat} (hr : Is .f32 r (fop .quo .f32 3212836864 t.N)) : Is4 1065353216 0 r 1065353216 (matP t) := by
  refine ⟨?_, ?_, ?_, ?_⟩ <;> unfold matP <;> rw [if_neg e0, if_pos e1] <;> first | exact is_one | exact is_nil | exact hr
theorem mat_k2 {t : El} (e0 : ¬ t.k = 0) (e1 : ¬ t.k = 1) : Is4 1065353216 0 0 1065353216 (matP t) := by
  refine ⟨?_, ?_, ?_, ?_⟩ <;> unfold matP <;> rw [if_neg e0, if_neg e1] <;> first | exact is_one | exact is_nil
set_option maxHeartbeats 2000000 in
set_option maxRecDepth 100000 in
theorem sMatrix_any (B : Nat) (v : Value) (ts : List El) (w : World) (hv : EOwn B w v ts) (h : oksE ts) (hn : ts.length ≤ 1048576) :
    Calls Try.prog 71 #[v] w fun e w' => (∃ r, e = .returned r ∧ FRes w.heap.size w' r 4 (lineM ts ts.length)) ∧ Below w.heap.size w w' := by
  obtain ⟨a0, cap0, rfl, hf⟩ := e_form hv
  have hcm := e_cap hv
  unfold maxLen at hcm
  have HV := Lib.hid hv; have HO := Lib.hid h
  have IM := is_mone
  have HB0 := Lib.hid ((Below.refl w.heap.size w).alloc (Nat.le_refl _) (.cells (MC 1065353216 0 0 1065353216) 23))
  have HF0 := Lib.hid (show FRes w.heap.size (w.alloc (.cells (MC 1065353216 0 0 1065353216) 23)) (.slice (some ⟨w.heap.size, 0, none⟩) 4 4) 4 (lineM ts 0) from ⟨_, rfl, eqs4 id4, fown4 _ _ _ _ _ _ (Nat.le_refl _)⟩)
  clear hv h
  go_enter Try.func71, Try.ntmps71
  go_wp2_with fail
  go_loopw [3, 9] (fun m i wr => ∃ k : Nat, k ≤ ts.length ∧ i = .int .i64 k ∧ Hid (Below w.heap.size w wr) ∧ Hid (FRes w.heap.size wr m 4 (lineM ts k))) (fun _ i _ => ts.length - (intOf i).toNat)
  case atStart => exact ⟨0, Nat.zero_le _, rfl, HB0, HF0⟩
  case round =>
    clear HB0 HF0
    obtain ⟨k, hk, rfl, HB, HF⟩ := hrel
    by_cases hlt : k < ts.length
    · rcases hf with hf | ⟨g, rfl, _, hg⟩
      · subst hf; simp at hlt
      obtain ⟨rs, hrl, hre, hro⟩ := HF.out
      obtain ⟨a, b, c, d, rfl⟩ := four_of hrl
      have HFS := Lib.hid (fown_FS hro hre.lt)
      have HI4 := Lib.hid (show Is4 a b c d (lineM ts k) from ⟨hre 0 (by simp), hre 1 (by simp), hre 2 (by simp), hre 3 (by simp)⟩)
      obtain ⟨ao, co, rfl, _⟩ := fown_form hro
      have hba := HB.out.alloc HB.out.size (.cells (MC 1065353216 0 0 1065353216) 23)
      obtain ⟨d0, d1, d2⟩ := (e_cells (e_below HV.out hba) hlt).1
      have HT := Lib.hid (oksE_at HO.out hlt)
      have HSU := Lib.hid (show lineM ts (k + 1) = timesF (matP ts[k]) (lineM ts k) from by simp [lineM, List.getD, hlt])
      generalize ts[k] = t at HT d0 d1 d2 HSU
      have iN := HT.out.iN
      have HBA := Lib.hid hba
      clear hre hro hrl HF hba
      by_cases e0 : t.k = 0
      · go_wp2_with fail
        have hW := (Below.refl wr.heap.size wr).alloc (Nat.le_refl _) (.cells (MC 1065353216 t.n 0 1065353216) 23)
        refine (sTimes_any _ _ 1065353216 t.n 0 1065353216 a b c d _ (fs_cells (by simp) (by rw [Joins.cell_of_block (heap_alloc_new wr _)]; rfl) (by rw [Joins.cell_of_block (heap_alloc_new wr _)]; rfl) (by rw [Joins.cell_of_block (heap_alloc_new wr _)]; rfl) (by rw [Joins.cell_of_block (heap_alloc_new wr _)]; rfl) (mat_k0 e0 HT.out)) (HFS.out.below hW)).mono ?_
        rintro e w5 ⟨⟨v5, rfl, h5⟩, hb5⟩
        have HB5 := Lib.hid (HB.out.trans ((hW.trans (hb5.mono hW.size)).mono HB.out.size))
        have HF5 := Lib.hid (show FRes w.heap.size w5 v5 4 (lineM ts (k + 1)) from fres_conv h5 (Nat.le_trans HB.out.size hW.size) (fun j hj => by rw [HSU.out]; exact times_congr (atL_is (mat_k0 e0 HT.out)) (atL_is HI4.out) j))
        clear h5 hb5 hW
        go_wp2_with fail
        go_roundw
        case rel => exact ⟨k + 1, by omega, by go_num, HB5, HF5⟩
        case measure => simp [intOf]; omega
      · by_cases e1 : t.k = 1
        · go_wp2_with ((apply wpList_farith; rfl; rfl; rfl; rfl; (first | with_reducible assumption | exact Is.const rfl); (first | with_reducible assumption | exact Is.const rfl); intro r n hr); have HR := Lib.hid hr; clear hr; generalize r = rq at HR ⊢)
          obtain ⟨W, hWe⟩ : ∃ W, W = ((wr.alloc (.cells (MC 1065353216 0 0 1065353216) 23)).drewN n).setCell ⟨wr.heap.size, 2, none⟩ (.float .f32 rq) := ⟨_, rfl⟩
          have hX : W.heap[wr.heap.size]? = some (.cells (MC 1065353216 0 rq 1065353216) 23) := by
            rw [hWe]
            exact heap_setCell_same _ wr.heap.size 2 _ _ _ (show ((wr.alloc (.cells (MC 1065353216 0 0 1065353216) 23)).drewN n).heap[wr.heap.size]? = _ from heap_alloc_new wr _)
          have hW : Below wr.heap.size wr W := by
            rw [hWe]
            exact (below_drewN ((Below.refl wr.heap.size wr).alloc (Nat.le_refl _) _) _).setCell (p := ⟨wr.heap.size, 2, none⟩) (Nat.le_refl _) _
          rw [← hWe]
          clear hWe
          refine (sTimes_any _ _ 1065353216 0 rq 1065353216 a b c d _ (fs_cells (Array.getElem?_eq_some_iff.1 hX).1 (by rw [Joins.cell_of_block hX]; rfl) (by rw [Joins.cell_of_block hX]; rfl) (by rw [Joins.cell_of_block hX]; rfl) (by rw [Joins.cell_of_block hX]; rfl) (mat_k1 e0 e1 HR.out)) (HFS.out.below hW)).mono ?_
          rintro e w5 ⟨⟨v5, rfl, h5⟩, hb5⟩
          have HB5 := Lib.hid (HB.out.trans ((hW.trans (hb5.mono hW.size)).mono HB.out.size))
          have HF5 := Lib.hid (show FRes w.heap.size w5 v5 4 (lineM ts (k + 1)) from fres_conv h5 (Nat.le_trans HB.out.size hW.size) (fun j hj => by rw [HSU.out]; exact times_congr (atL_is (mat_k1 e0 e1 HR.out)) (atL_is HI4.out) j))
          clear h5 hb5 hW hX
          go_wp2_with fail
          go_roundw
          case rel => exact ⟨k + 1, by omega, by go_num, HB5, HF5⟩
          case measure => simp [intOf]; omega
        · go_wp2_with fail
          have hW := (Below.refl wr.heap.size wr).alloc (Nat.le_refl _) (.cells (MC 1065353216 0 0 1065353216) 23)
          refine (sTimes_any _ _ 1065353216 0 0 1065353216 a b c d _ (fs_cells (by simp) (by rw [Joins.cell_of_block (heap_alloc_new wr _)]; rfl) (by rw [Joins.cell_of_block (heap_alloc_new wr _)]; rfl) (by rw [Joins.cell_of_block (heap_alloc_new wr _)]; rfl) (by rw [Joins.cell_of_block (heap_alloc_new wr _)]; rfl) (mat_k2 e0 e1)) (HFS.out.below hW)).mono ?_
          rintro e w5 ⟨⟨v5, rfl, h5⟩, hb5⟩
          have HB5 := Lib.hid (HB.out.trans ((hW.trans (hb5.mono hW.size)).mono HB.out.size))
          have HF5 := Lib.hid (show FRes w.heap.size w5 v5 4 (lineM ts (k + 1)) from fres_conv h5 (Nat.le_trans HB.out.size hW.size) (fun j hj => by rw [HSU.out]; exact times_congr (atL_is (mat_k2 e0 e1)) (atL_is HI4.out) j))
          clear h5 hb5 hW
          go_wp2_with fail
          go_roundw
          case rel => exact ⟨k + 1, by omega, by go_num, HB5, HF5⟩
          case measure => simp [intOf]; omega
    · obtain rfl : k = ts.length := by omega
      clear hlt
      go_wp2_with fail
      go_ret
      exact ⟨⟨_, rfl, HF.out⟩, HB.out⟩
theorem sMatrixOf_any (B : Nat) (v : Value) (ts : List El) (w : World) (hv : EOwn B w v ts) (h : oksE ts) (hn : ts.length ≤ 1048576) :
    Calls Try.prog 35 #[v] w fun e w' => (∃ r, e = .returned (.tuple #[r, .bool (okMatrixOf ts)]) ∧ FResE w.heap.size w' r (lenMatrixOf ts) (lineM ts ts.length)) ∧ Below w.heap.size w w' := by
  have HV := Lib.hid hv; have HO := Lib.hid h
  clear hv h
  obtain ⟨q, hq⟩ : ∃ q, okLine ts = q := ⟨_, rfl⟩
  have HN := Lib.hid (show lenMatrixOf ts = if q then 4 else 0 by unfold lenMatrixOf; rw [hq])
  unfold okMatrixOf
  rw [hq]
  have HQ := Lib.hid hq
  clear hq
  obtain ⟨N, hN⟩ : ∃ N, lenMatrixOf ts = N := ⟨_, rfl⟩
  rw [hN] at HN ⊢
  clear hN
  go_enter Try.func35, Try.ntmps35
  go_wp2_with fail
  refine (sLine_any B v ts _ HV.out HO.out hn).mono ?_
  rw [HQ.out]
  rintro e w2 ⟨rfl, n, rfl⟩
  have HV2 := Lib.hid (e_below HV.out (below_drewN (Below.refl w.heap.size w) n))
  have HD2 := Lib.hid (below_drewN (Below.refl w.heap.size w) n)
  cases q with
  | false =>
    obtain rfl : N = 0 := HN.out
    go_wp2_with fail
    go_ret2
    exact ⟨⟨_, rfl, (fres_none _ _ _).toE⟩, HD2.out⟩
  | true =>
    obtain rfl : N = 4 := HN.out
    go_wp2_with fail
    refine (sMatrix_any B v ts _ HV2.out HO.out hn).mono ?_
    rintro e w3 ⟨⟨r, rfl, hr⟩, hb⟩
    have HR := Lib.hid hr
    have HB := Lib.hid (HD2.out.trans (hb.mono (Nat.le_refl _)))
    clear hr hb
    go_wp2_with fail
    go_ret2
    exact ⟨⟨_, rfl, HR.out.toE⟩, HB.out⟩
end Go.Proofs.Ytpnmledanloboaa
