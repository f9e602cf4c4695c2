/-
  The fullest cell; the particles of a cell; clouds that are the same (the program).
  The particles of a cell (the program).
  Clouds that are the same (the program).
-/
import Derived.Test.YtnknhfhllifnhaaOrW
import Derived.Test.YtnknhfhllifnhaaPtQ
import Derived.Test.YtnknhfhllifnhaaSam
import Derived.Test.YtnknhfhllifnhaaSrC
namespace Go.Proofs.Ytnknhfhllifnhaa
open Go.Fl Go.RowKit Go.Ordr
set_option linter.unusedSimpArgs false
set_option linter.unusedVariables false

/-- The greatest of the first k. -/
def IsMx (xs : List Int) (k : Nat) (z : Int) : Prop := (∀ j, j < k → xs.getD j 0 ≤ z) ∧ ∃ j, j < k ∧ xs.getD j 0 = z
theorem IsMx.step {xs : List Int} {k : Nat} {z : Int} (h : IsMx xs k z) : IsMx xs (k + 1) (max z (xs.getD k 0)) := by
  obtain ⟨h1, j, h2, h3⟩ := h
  refine ⟨fun i hi => ?_, ?_⟩
  · by_cases e : i = k
    · subst e; omega
    · have := h1 i (by omega); omega
  · by_cases hg : z ≤ xs.getD k 0
    · exact ⟨k, by omega, by omega⟩
    · exact ⟨j, by omega, by omega⟩

set_option maxHeartbeats 1000000 in
theorem iMax_any (B g n : Nat) (xs : List Int) (w : World) (h : IR B w g n xs) (h1 : 1 ≤ n) (hn : n ≤ 256) :
    Calls Try.prog 113 #[.slice (some ⟨g, 0, none⟩) n n] w fun e w' => (∃ z, e = .returned (.int .i64 z) ∧ IsMx xs n z) ∧ w = w' := by
  have c0 := h.at (show 0 < n by omega)
  have HR := Lib.hid h
  have hl : ¬ ((n : Int) < 1) := by omega
  have hl0 : (0 : Int) < (n : Int) := by omega
  have HM := Lib.hid (show IsMx xs 1 (xs.getD 0 0) from ⟨fun j hj => (by obtain rfl : j = 0 := (by omega); exact Int.le_refl _), ⟨0, by omega, rfl⟩⟩)
  clear h
  generalize xs.getD 0 0 = z0 at c0 HM
  go_enter Try.func113, Try.ntmps113
  go_wp2_with fail
  clear c0
  go_loop [3, 4] (fun s i => ∃ (q : Nat) (z : Int), q ≤ n ∧ 1 ≤ q ∧ i = .int .i64 q ∧ s = .int .i64 z ∧ Hid (IsMx xs q z)) (fun _ i => n - (intOf i).toNat)
  case atStart => exact ⟨1, z0, h1, by omega, rfl, rfl, HM⟩
  case round =>
    clear HM
    obtain ⟨q, z, hq, hq1, rfl, rfl, HM⟩ := hrel
    by_cases hlt : q < n
    · have hz : (q : Int) < (n : Int) := by omega
      have hz0 : (0 : Int) ≤ (q : Int) := Int.natCast_nonneg _
      have ck := HR.out.at hlt
      have HS := Lib.hid HM.out.step
      generalize xs.getD q 0 = y at ck HS
      go_wp2_with fail
      go_round
      case rel => exact ⟨q + 1, _, by omega, by omega, by go_num, rfl, HS⟩
      case measure => simp [intOf]; omega
    · obtain rfl : q = n := by omega
      clear hlt
      go_wp2
      go_ret
      exact ⟨⟨_, rfl, HM.out⟩, rfl⟩

set_option maxHeartbeats 1000000 in
theorem iIndex_list (B g n : Nat) (xs : List Int) (z : Int) (w : World) (h : IR B w g n xs) (hz : ∃ j, j < n ∧ xs.getD j 0 = z) (hn : n ≤ 256) :
    Calls Try.prog 114 #[.slice (some ⟨g, 0, none⟩) n n, .int .i64 z] w fun e w' => (∃ q : Nat, e = .returned (.int .i64 (q : Int)) ∧ q < n ∧ xs.getD q 0 = z ∧ ∀ j, j < q → xs.getD j 0 ≠ z) ∧ w = w' := by
  have HR := Lib.hid h; have HZ := Lib.hid hz
  clear h hz
  go_enter Try.func114, Try.ntmps114
  go_wp2_with fail
  go_loop [8] (fun i => ∃ q : Nat, q ≤ n ∧ i = .int .i64 q ∧ Hid (∀ j, j < q → xs.getD j 0 ≠ z)) (fun i => n - (intOf i).toNat)
  case atStart => exact ⟨0, Nat.zero_le _, rfl, Lib.hid (fun j hj => absurd hj (Nat.not_lt_zero _))⟩
  case round =>
    obtain ⟨q, hq, rfl, HD⟩ := hrel
    by_cases hlt : q < n
    · have hz : (q : Int) < (n : Int) := by omega
      have hz0 : (0 : Int) ≤ (q : Int) := Int.natCast_nonneg _
      have ck := HR.out.at hlt
      by_cases he : xs.getD q 0 = z
      · have HE := Lib.hid he
        rw [he] at ck
        clear he
        go_wp2_with fail
        go_ret
        exact ⟨⟨q, rfl, hlt, HE.out, HD.out⟩, rfl⟩
      · have HE := Lib.hid he; have HE2 := Lib.hid (show xs.getD q 0 ≠ z from he)
        have hne : ¬ z = xs.getD q 0 := fun e => he e.symm
        clear he
        generalize xs.getD q 0 = y at ck HE hne
        go_wp2_with fail
        go_round
        case rel => exact ⟨q + 1, by omega, by go_num, Lib.hid (fun j hj => by
          by_cases e : j = q
          · subst e; exact HE2.out
          · exact HD.out j (by omega))⟩
        case measure => simp [intOf]; omega
    · exfalso
      obtain ⟨j, hj, e⟩ := HZ.out
      exact HD.out j (by omega) e

/-- The fullest cell f, with z particles, of n cells. -/
def FulP (cs : List Int) (n f : Nat) (z : Int) : Prop := f < n ∧ (CN cs n).getD f 0 = z ∧ (∀ j, j < n → (CN cs n).getD j 0 ≤ z) ∧ ∀ j, j < f → (CN cs n).getD j 0 ≠ z

set_option maxHeartbeats 1000000 in
theorem iFullest_pt (a b : Int) (ha : 4 ≤ a) (ha' : a ≤ 7) (hb : 4 ≤ b) (hb' : b ≤ 7) (B : Nat) (v : Value) (ts : List Pt) (m k : Nat) (im : Num m) (ik : Num k) (w : World) (hv : POwn B w v ts) (h : oks ts) (hn : ts.length ≤ 48) :
    Calls Try.prog 41 #[CG a b v m k] w fun e w' => (∃ (n f : Nat) (z : Int), e = .returned (.tuple #[.int .i64 (f : Int), .int .i64 z, .bool true]) ∧ (n : Int) = a * b ∧ FulP (keysP a b ts) n f z) ∧ Below w.heap.size w w' := by
  obtain ⟨av, cap, rfl, hff⟩ := p_form hv
  have HO := Lib.hid h; have IM := Lib.hid im; have IK := Lib.hid ik
  have HB1 := Lib.hid ((Below.refl w.heap.size w).alloc (Nat.le_refl _) (.cells (CGc a b (.slice av ts.length cap) m k) 48))
  have HV := Lib.hid (r4_below hv HB1.out)
  clear hv h im ik
  go_enter Try.func41, Try.ntmps41
  go_wp2_with fail
  generalize w.alloc (.cells (CGc a b (.slice av ts.length cap) m k) 48) = w1 at HB1 HV ⊢
  refine (iCountsOf_pt a b ha ha' hb hb' B _ ts m k IM.out IK.out _ HV.out HO.out hn).mono ?_
  rintro e w2 ⟨⟨g, n, rfl, h1, h2⟩, hb2⟩
  have HB2 := Lib.hid (HB1.out.trans (hb2.mono HB1.out.size))
  have HR := Lib.hid h1; have HNN := Lib.hid h2
  have hm1 : a * b ≤ 7 * 7 := Int.mul_le_mul ha' hb' (by omega) (by omega)
  have hm0 : 4 * 4 ≤ a * b := Int.mul_le_mul ha hb (by omega) (by omega)
  have hn1 : 1 ≤ n := by omega
  have hn2 : n ≤ 256 := by omega
  clear h1 h2 hb2 hm1 hm0
  go_wp2_with fail
  refine (iMax_any _ g n _ _ HR.out hn1 hn2).mono ?_
  rintro e w3 ⟨⟨z, rfl, hz⟩, hw⟩
  obtain rfl := hw.symm
  clear hw
  have HZ := Lib.hid hz
  clear hz
  go_wp2_with fail
  refine (iIndex_list _ g n _ z _ HR.out HZ.out.2 hn2).mono ?_
  rintro e w4 ⟨⟨f, rfl, hf1, hf2, hf3⟩, hw⟩
  obtain rfl := hw.symm
  have HF := Lib.hid (show FulP (keysP a b ts) n f z from ⟨hf1, hf2, HZ.out.1, hf3⟩)
  clear hw hf1 hf2 hf3
  go_wp2_with fail
  refine bodyPost_ret (v := .tuple #[.int .i64 (f : Int), .int .i64 z, .bool true]) (by simp [results, Try.results41, go_sem]) rfl ?_
  exact ⟨⟨n, f, z, rfl, HNN.out, HF.out⟩, HB2.out⟩
end Go.Proofs.Ytnknhfhllifnhaa
namespace Go.Proofs.Ytnknhfhllifnhaa
open Go.Fl Go.RowKit Go.Ordr
set_option linter.unusedSimpArgs false
set_option linter.unusedVariables false

/-- A list of integers of the call's own, nil or not. -/
def IO (B : Nat) (w : World) (v : Value) (xs : List Int) : Prop := w.ownsRow B 2 1 v xs.length (xs.map (Value.int .i64))
theorem IO.form {B : Nat} {w : World} {v : Value} {xs : List Int} (h : IO B w v xs) : ∃ a c, v = .slice a xs.length c ∧ (xs = [] ∨ ∃ g, a = some ⟨g, 0, none⟩ ∧ B ≤ g ∧ g < w.heap.size) := by
  have hl := h.lt
  rcases h.2 with ⟨rfl, h0⟩ | ⟨g, cap, cur, rfl, hB, _⟩
  · exact ⟨none, 0, by rw [h0], .inl (List.length_eq_zero_iff.1 h0)⟩
  · exact ⟨_, _, rfl, .inr ⟨g, rfl, hl g rfl⟩⟩
theorem IO.at {B g n c : Nat} {w : World} {xs : List Int} (h : IO B w (.slice (some ⟨g, 0, none⟩) n c) xs) {j : Nat} (hj : j < xs.length) : w.cell? ⟨g, j, none⟩ = some (.int .i64 (xs.getD j 0)) := by
  obtain ⟨a, c', e, _⟩ := h.form
  simp only [Value.slice.injEq] at e
  obtain ⟨_, rfl, _⟩ := e
  have h' : w.ownsRow B 2 1 (.slice (some ⟨g, 0, none⟩) xs.length c) xs.length (xs.map (Value.int .i64)) := h
  rw [h'.cellAt j (by omega), List.getElem?_map, List.getElem?_eq_getElem hj]
  simp [List.getD, hj]
theorem IO.kept {B : Nat} {w w' : World} {v : Value} {xs : List Int} (h : IO B w v xs) (hb : Below w.heap.size w w') : IO B w' v xs :=
  World.ownsRow.kept h (grown_below (row := none) hb) (by cases v.ownBlock <;> simp)

/-- The first q indices of the cell c. -/
def filtTo (cs : List Int) (c : Int) (q : Nat) : List Nat := (List.range q).filter (fun i => decide (keyA cs i = c))
theorem filtTo_yes {cs : List Int} {c : Int} {q : Nat} (h : keyA cs q = c) : natI (filtTo cs c (q + 1)) = natI (filtTo cs c q) ++ [(q : Int)] := by
  unfold natI filtTo
  rw [List.range_succ, List.filter_append, List.map_append]
  simp [h]
theorem filtTo_no {cs : List Int} {c : Int} {q : Nat} (h : ¬ keyA cs q = c) : filtTo cs c (q + 1) = filtTo cs c q := by
  unfold filtTo
  rw [List.range_succ, List.filter_append]
  simp [h]
theorem filtTo_le (cs : List Int) (c : Int) (q : Nat) : (filtTo cs c q).length ≤ q := by
  have := List.length_filter_le (fun i => decide (keyA cs i = c)) (List.range q)
  simpa [filtTo] using this
theorem filtTo_all (cs : List Int) (k : Nat) : filtTo cs (k : Int) cs.length = inCell cs k := rfl

theorem I64parts : ∃ i, Try.prog.info? 2 = some i ∧ i.zero = some (.int .i64 0) ∧ i.size = 1 ∧ i.bytes = 8 := info_parts I64inf

set_option maxHeartbeats 1000000 in
set_option maxRecDepth 100000 in
theorem iInCell_pt (a b : Int) (ha : 4 ≤ a) (ha' : a ≤ 7) (hb : 4 ≤ b) (hb' : b ≤ 7) (B : Nat) (v : Value) (ts : List Pt) (m k : Nat) (im : Num m) (ik : Num k) (c : Nat) (hc : (c : Int) < a * b) (w : World) (hv : POwn B w v ts) (h : oks ts) (hn : ts.length ≤ 48) :
    Calls Try.prog 43 #[CG a b v m k, .int .i64 (c : Int)] w fun e w' => (∃ r, e = .returned (.tuple #[r, .bool true]) ∧ IO w.heap.size w' r (natI (inCell (keysP a b ts) c))) ∧ Below w.heap.size w w' := by
  obtain ⟨ti, hi, hz0, hz1, hz2⟩ := info_parts I64inf
  obtain ⟨av, cap, rfl, hff⟩ := p_form hv
  have HO := Lib.hid h; have IM := Lib.hid im; have IK := Lib.hid ik
  have HI := Lib.hid hi; have HZ0 := Lib.hid hz0; have HZ1 := Lib.hid hz1; have HZ2 := Lib.hid hz2
  have HB1 := Lib.hid ((Below.refl w.heap.size w).alloc (Nat.le_refl _) (.cells (CGc a b (.slice av ts.length cap) m k) 48))
  have HX1 := Lib.hid (heap_alloc_new w (.cells (CGc a b (.slice av ts.length cap) m k) 48))
  have HV := Lib.hid (r4_below hv HB1.out)
  have HKL := Lib.hid (keysP_len a b ts)
  have hm1 : a * b ≤ 7 * 7 := Int.mul_le_mul ha' hb' (by omega) (by omega)
  have hw1 : IntKind.i64.wrap (a * b) = a * b := by rw [wrap_i64]; exact wrap64_of (by omega) (by omega)
  have HW := Lib.hid hw1; have HC := Lib.hid hc
  clear hv h im ik hi hz0 hz1 hz2 hm1 hw1
  go_enter Try.func43, Try.ntmps43
  go_wp2_with fail
  generalize w.alloc (.cells (CGc a b (.slice av ts.length cap) m k) 48) = w1 at HB1 HX1 HV ⊢
  refine (iCellsOf_pt a b ha ha' hb hb' B _ ts m k IM.out IK.out _ HV.out HO.out hn).mono ?_
  rintro e w2 ⟨⟨g, n, rfl, h1⟩, hb2⟩
  have HB2 := Lib.hid (HB1.out.trans (hb2.mono HB1.out.size))
  have HR := Lib.hid h1
  have HX2 := Lib.hid ((hb2.block w.heap.size (Array.getElem?_eq_some_iff.1 HX1.out).1).trans HX1.out)
  have HN := Lib.hid (show n = ts.length by rw [← h1.1, HKL.out])
  have hn' : n ≤ 48 := by have := HN.out; omega
  obtain ⟨g0, g1, g2, g3, g4⟩ := five_cells HX2.out
  have t1 : ¬ ((c : Int) < 0) := by omega
  clear h1 hb2
  go_wp2_with fail
  clear g0 g1 g2 g3 g4 t1
  refine (pointsOf_any a b _).mono ?_
  rintro e w3 ⟨rfl, hb3⟩
  rw [HW.out]
  have HB3 := Lib.hid (HB2.out.trans (hb3.mono HB2.out.size))
  have HR3 := Lib.hid (HR.out.kept hb3)
  have t2 : ¬ (a * b ≤ (c : Int)) := by have := HC.out; omega
  clear hb3 HR HX2
  generalize a * b = ab at t2 ⊢
  go_wp2_with fail
  clear t2
  have HD0 := Lib.hid (Below.refl w3.heap.size w3)
  have HL0 := Lib.hid (show IO w3.heap.size w3 (.slice none 0 0) (natI (filtTo (keysP a b ts) (c : Int) 0)) from World.ownsRow_nil _ _ _ _)
  go_loopw [8, 31] (fun s i wr => ∃ (q : Nat), q ≤ n ∧ i = .int .i64 q ∧ Hid (Below w3.heap.size w3 wr) ∧ Hid (IO w3.heap.size wr s (natI (filtTo (keysP a b ts) (c : Int) q)))) (fun _ i _ => n - (intOf i).toNat)
  case atStart => exact ⟨0, Nat.zero_le _, rfl, HD0, HL0⟩
  case round =>
    clear HD0 HL0
    obtain ⟨q, hq, rfl, HD, HL⟩ := hrel
    by_cases hlt : q < n
    · have hz : (q : Int) < (n : Int) := by omega
      have hz0 : (0 : Int) ≤ (q : Int) := Int.natCast_nonneg _
      have ck := (HR3.out.kept HD.out).at hlt
      have HKQ := Lib.hid (show keyA (keysP a b ts) q = (keysP a b ts).getD q 0 from rfl)
      by_cases he : (keysP a b ts).getD q 0 = (c : Int)
      · rw [he] at ck
        have HE := Lib.hid (filtTo_yes (cs := keysP a b ts) (c := (c : Int)) (q := q) (by rw [HKQ.out]; exact he))
        have HLE := Lib.hid (filtTo_le (keysP a b ts) (c : Int) q)
        clear he
        go_wp2_with (at_builtin; refine wpList_append_own _ rfl _ _ 41 rfl w3.heap.size 2 ti (.int .i64 0) 1 8 Try.underlying41 HI.out HZ0.out HZ1.out HZ2.out rfl (by decide) _ _ _ rfl (World.ownsRow.alloc HL.out _) ⟨wr.heap.size, 0, none⟩ 1 1 [Value.int .i64 (q : Int)] rfl rfl (by intro j u' hj; match j, hj with | 0, hj => simp at hj; subst hj; simp [Addr.add]) (by intro u' hu'; simp at hu'; subst hu'; rfl) (by have := HLE.out; rw [natI_len]; unfold maxLen; omega) (by have := HLE.out; rw [natI_len]; omega) (by have := HD.out.size; simp; omega) ?_; intro v' w' hown' hgrow hnil)
        have HB' := Lib.hid ((HD.out.alloc HD.out.size (.cells #[.int .i64 (q : Int)] 2)).grown hgrow (by have := HD.out.size; simp; omega) (fun k' hk' => (HL.out.lt k' hk').1))
        have HO' := Lib.hid (show IO w3.heap.size w' v' (natI (filtTo (keysP a b ts) (c : Int) (q + 1))) from by
          unfold IO
          rw [HE.out, List.map_append, List.length_append]
          exact hown')
        clear hown' hgrow hnil HL HD
        go_roundw
        case rel => exact ⟨q + 1, by omega, by go_num, HB', HO'⟩
        case measure => simp [intOf]; omega
      · have HE := Lib.hid (filtTo_no (cs := keysP a b ts) (c := (c : Int)) (q := q) (by rw [HKQ.out]; exact he))
        generalize (keysP a b ts).getD q 0 = y at ck he
        go_wp2_with fail
        go_roundw
        case rel => exact ⟨q + 1, by omega, by go_num, HD, by rw [HE.out]; exact HL⟩
        case measure => simp [intOf]; omega
    · obtain rfl : q = n := by omega
      clear hlt
      obtain ⟨fa, fc, rfl, _⟩ := HL.out.form
      have HB' := Lib.hid (HB3.out.trans (HD.out.mono HB3.out.size))
      have HO' := Lib.hid (show IO w.heap.size wr (.slice fa (natI (filtTo (keysP a b ts) (c : Int) q)).length fc) (natI (inCell (keysP a b ts) c)) from by
        have h5 := HL.out
        rw [← filtTo_all, HKL.out, ← HN.out]
        exact Go.Joins.ownsRow_le h5 HB3.out.size)
      generalize (natI (filtTo (keysP a b ts) (c : Int) q)).length = L at HO' ⊢
      clear HL HD
      go_wp2_with fail
      go_ret2
      exact ⟨⟨_, rfl, HO'.out⟩, HB'.out⟩
end Go.Proofs.Ytnknhfhllifnhaa
namespace Go.Proofs.Ytnknhfhllifnhaa
open Go.Fl Go.RowKit Go.Ordr
set_option linter.unusedSimpArgs false
set_option linter.unusedVariables false

set_option maxHeartbeats 1000000 in
set_option maxRecDepth 100000 in
theorem iSameCloud_pt (a b : Int) (B B' : Nat) (u v : Value) (ts : List Pt) (m k : Nat) (im : Num m) (ik : Num k) (w : World) (hu : POwn B w u ts) (hv : POwn B' w v ts) (h : oks ts) (hn : ts.length ≤ 48) :
    Calls Try.prog 42 #[CG a b u m k, CG a b v m k] w fun e w' => e = .returned (.bool true) ∧ Below w.heap.size w w' := by
  obtain ⟨ua, uc, rfl, _⟩ := p_form hu
  obtain ⟨va, vc, rfl, _⟩ := p_form hv
  have HO := Lib.hid h; have IM := Lib.hid im; have IK := Lib.hid ik
  have HB1 := Lib.hid (((Below.refl w.heap.size w).alloc (Nat.le_refl _) (.cells (CGc a b (.slice ua ts.length uc) m k) 48)).alloc (by simp) (.cells (CGc a b (.slice va ts.length vc) m k) 48))
  have HU := Lib.hid (r4_below hu HB1.out); have HV := Lib.hid (r4_below hv HB1.out)
  have HX := Lib.hid (heap_alloc2_old w (.cells (CGc a b (.slice ua ts.length uc) m k) 48) (.cells (CGc a b (.slice va ts.length vc) m k) 48))
  have HY := Lib.hid (heap_alloc2_new w (.cells (CGc a b (.slice ua ts.length uc) m k) 48) (.cells (CGc a b (.slice va ts.length vc) m k) 48))
  obtain ⟨g0, g1, g2, g3, g4⟩ := five_cells HX.out
  obtain ⟨h0, h1, h2, h3, h4⟩ := five_cells HY.out
  clear hu hv h im ik
  go_enter Try.func42, Try.ntmps42
  go_wp2_with fail
  generalize (w.alloc (.cells (CGc a b (.slice ua ts.length uc) m k) 48)).alloc (.cells (CGc a b (.slice va ts.length vc) m k) 48) = w1 at HB1 HU HV HX HY g0 g1 g2 g3 g4 h0 h1 h2 h3 h4 ⊢
  clear g0 g1 g2 g3 g4 h0 h1 h2 h3 h4
  refine (iSame_pt B B' _ _ ts _ HU.out HV.out HO.out (by omega)).mono ?_
  rintro e w2 ⟨rfl, hb2⟩
  have HB2 := Lib.hid (HB1.out.trans (hb2.mono HB1.out.size))
  have HX2 := Lib.hid ((hb2.block w.heap.size (Array.getElem?_eq_some_iff.1 HX.out).1).trans HX.out)
  have HY2 := Lib.hid ((hb2.block (w.heap.size + 1) (Array.getElem?_eq_some_iff.1 HY.out).1).trans HY.out)
  have HS2 := Lib.hid (fun n => five_cells (show (w2.drewN n).heap[w.heap.size]? = some (.cells (CGc a b (.slice ua ts.length uc) m k) 48) from HX2.out))
  have HT2 := Lib.hid (fun n => five_cells (show (w2.drewN n).heap[w.heap.size + 1]? = some (.cells (CGc a b (.slice va ts.length vc) m k) 48) from HY2.out))
  clear hb2 HX HY HU HV
  obtain ⟨g0, g1, g2, g3, g4⟩ := five_cells HX2.out
  obtain ⟨h0, h1, h2, h3, h4⟩ := five_cells HY2.out
  go_wp2_with fail
  clear g0 g1 g2 g3 g4 h0 h1 h2 h3 h4
  refine (iSameNumber_any _ _ _ _ IM.out.is IM.out.is _).mono ?_
  rintro e w3 ⟨rfl, n3, rfl⟩
  obtain ⟨g0, g1, g2, g3, g4⟩ := HS2.out n3
  obtain ⟨h0, h1, h2, h3, h4⟩ := HT2.out n3
  rw [decide_eq_true (rfl : m = m)]
  go_wp2_with fail
  clear g0 g1 g2 g3 g4 h0 h1 h2 h3 h4
  refine (iSameNumber_any _ _ _ _ IK.out.is IK.out.is _).mono ?_
  rintro e w4 ⟨rfl, n4, rfl⟩
  rw [decide_eq_true (rfl : k = k)]
  go_wp2_with fail
  go_ret
  exact ⟨rfl, below_drewN HB2.out _⟩
end Go.Proofs.Ytnknhfhllifnhaa
