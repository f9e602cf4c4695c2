/-
  Clouds of streams: which are valid (the program).
-/
import Derived.Test.YtnknhfhllifnhaaPb
namespace Go.Proofs.Ytnknhfhllifnhaa
open Go.Fl Go.RowKit
set_option linter.unusedSimpArgs false
set_option linter.unusedVariables false

abbrev CC (a b : Int) (v : Value) (k : Nat) : Array Value := #[.int .i64 a, .int .i64 b, v, .float .f32 0, .float .f32 k]
abbrev CV (a b : Int) (v : Value) (k : Nat) : Value := .agg (CC a b v k)
theorem five_cells {W : World} {b : Nat} {v0 v1 v2 v3 v4 : Value} {t : TypeId} (h : W.heap[b]? = some (.cells #[v0, v1, v2, v3, v4] t)) : W.cell? ⟨b, 0, none⟩ = some v0 ∧ W.cell? ⟨b, 1, none⟩ = some v1 ∧ W.cell? ⟨b, 2, none⟩ = some v2 ∧ W.cell? ⟨b, 3, none⟩ = some v3 ∧ W.cell? ⟨b, 4, none⟩ = some v4 := by
  refine ⟨?_, ?_, ?_, ?_, ?_⟩ <;> (rw [Joins.cell_of_block h]; rfl)
theorem fin_zero : fin .f32 0 = true := by decide +kernel
theorem is_zero : Is .f32 0 0 := Is.const (by decide +kernel)

theorem le48 {n : Nat} (h : n ≤ 48) : decide ((n : Int) ≤ 48) = true := decide_eq_true (by omega)

set_option maxHeartbeats 1000000 in
theorem iValidCloud_any (B : Nat) (a b : Int) (v : Value) (ts : List Pb) (K : Nat → Pb) (k BK : Nat) (w : World) (hv : BOwn B w v ts) (h : EqP ts K) (hn : ts.length ≤ 48) (ik : Is .f32 k BK) :
    Calls Try.prog 97 #[CV a b v k] w fun e w' => e = .returned (.bool (gridOk a b && (allPb K ts.length && fin .f32 BK))) ∧ Below w.heap.size w w' := by
  obtain ⟨av, cap, rfl, hf⟩ := b_form hv
  have HB0 := Lib.hid ((Below.refl w.heap.size w).alloc (Nat.le_refl _) (.cells (CC a b (.slice av ts.length cap) k) 48))
  have HV := Lib.hid (r4_below hv ((Below.refl w.heap.size w).alloc (Nat.le_refl _) (.cells (CC a b (.slice av ts.length cap) k) 48))); have HO := Lib.hid h
  have HX := Lib.hid (heap_alloc_new w (.cells (CC a b (.slice av ts.length cap) k) 48))
  have HZ := Lib.hid (show w.heap.size < (w.alloc (.cells (CC a b (.slice av ts.length cap) k) 48)).heap.size by simp)
  have hle := le48 hn
  clear hv h
  go_enter Try.func97, Try.ntmps97
  go_wp2_with fail
  generalize w.alloc (.cells (CC a b (.slice av ts.length cap) k) 48) = w1 at HB0 HV HX HZ ⊢
  refine (iValidGrid_any a b _).mono ?_
  rintro e w2 ⟨rfl, h2⟩
  have HB2 := Lib.hid (HB0.out.trans (h2.mono HB0.out.size)); have HV2 := Lib.hid (r4_below HV.out h2); have HX2 := Lib.hid ((h2.block w.heap.size HZ.out).trans HX.out); have HZ2 := Lib.hid (Nat.lt_of_lt_of_le HZ.out h2.size)
  clear h2 HB0 HV HX HZ
  cases hg : gridOk a b with
  | false =>
    go_wp2_with fail
    go_ret
    exact ⟨by rw [hg]; rfl, HB2.out⟩
  | true =>
    obtain ⟨x0, x1, x2, x3, x4⟩ := five_cells HX2.out
    go_wp2_with fail
    refine (iAre_pb B _ ts K _ HV2.out HO.out (by omega)).mono ?_
    rintro e w3 ⟨rfl, h3⟩
    have HB3 := Lib.hid (HB2.out.trans (h3.mono HB2.out.size)); have HX3 := Lib.hid ((h3.block w.heap.size HZ2.out).trans HX2.out)
    clear h3 HB2 HV2 HX2 HZ2 x0 x1 x2 x3 x4
    cases hq : allPb K ts.length with
    | false =>
      go_wp2_with fail
      go_ret
      exact ⟨by rw [hg, hq]; rfl, HB3.out⟩
    | true =>
      obtain ⟨x0, x1, x2, x3, x4⟩ := five_cells HX3.out
      go_wp2_with fail
      refine (iFinite3_any _ _ is_zero _).mono ?_
      rintro e w4 ⟨rfl, k4, rfl⟩
      rw [fin_zero]
      go_wp2_with fail
      refine (iFinite3_any _ _ ik _).mono ?_
      rintro e w5 ⟨rfl, k5, rfl⟩
      go_wp2_with fail
      go_ret
      exact ⟨by rw [hg, hq]; simp, below_drewN HB3.out _⟩

theorem info_cloud : (Try.prog.info? 48).map (·.size) = some 5 := by kernel_rfl
theorem one5 (a b : Int) (av : Option Addr) (n c : Nat) (m k : Nat) : (#[Value.int .i64 a, .int .i64 b, .slice av n c, .float .f32 m, .float .f32 k] : Array Value).all (·.oneCell') = true := by first | rfl | (simp [Value.oneCell']; done)
/-- The cloud that with returns. -/
def okWith (a b : Int) (K : Nat → Pb) (n BK : Nat) : Bool := gridOk a b && (allPb K n && fin .f32 BK)

set_option maxHeartbeats 1000000 in
theorem iWith_any (B : Nat) (a b : Int) (v : Value) (ts : List Pb) (K : Nat → Pb) (k BK : Nat) (w : World) (hv : BOwn B w v ts) (h : EqP ts K) (hn : ts.length ≤ 48) (ik : Is .f32 k BK) :
    Calls Try.prog 92 #[CV a b (.slice none 0 0) k, v, .bool true] w fun e w' => e = .returned (.tuple #[if okWith a b K ts.length BK then CV a b v k else CV 0 0 (.slice none 0 0) 0, .bool (okWith a b K ts.length BK)]) ∧ Below w.heap.size w w' := by
  obtain ⟨av, cap, rfl, hf⟩ := b_form hv
  have HB0 := Lib.hid (((Below.refl w.heap.size w).alloc (Nat.le_refl _) (.cells (CC a b (.slice av ts.length cap) k) 48)).alloc (by simp) (.cells (CC 0 0 (.slice none 0 0) 0) 48))
  have HX := Lib.hid (show ((w.alloc (.cells (CC a b (.slice av ts.length cap) k) 48)).alloc (.cells (CC 0 0 (.slice none 0 0) 0) 48)).heap[w.heap.size]? = some (.cells (CC a b (.slice av ts.length cap) k) 48) from heap_alloc2_old w _ _)
  have HY := Lib.hid (show ((w.alloc (.cells (CC a b (.slice av ts.length cap) k) 48)).alloc (.cells (CC 0 0 (.slice none 0 0) 0) 48)).heap[w.heap.size + 1]? = some (.cells (CC 0 0 (.slice none 0 0) 0) 48) from heap_alloc2_new w _ _)
  have HZ := Lib.hid (show w.heap.size + 1 < ((w.alloc (.cells (CC a b (.slice av ts.length cap) k) 48)).alloc (.cells (CC 0 0 (.slice none 0 0) 0) 48)).heap.size by simp)
  go_enter Try.func92, Try.ntmps92
  go_wp2_with fail
  generalize (w.alloc (.cells (CC a b (.slice av ts.length cap) k) 48)).alloc (.cells (CC 0 0 (.slice none 0 0) 0) 48) = w1 at HB0 HX HY HZ ⊢
  refine (iValidCloud_any B a b _ ts K k BK _ (r4_below hv HB0.out) h hn ik).mono ?_
  rintro e w2 ⟨rfl, h2⟩
  have hx := Lib.hid ((h2.block w.heap.size (Nat.lt_of_succ_lt HZ.out)).trans HX.out)
  have hy := Lib.hid ((h2.block (w.heap.size + 1) HZ.out).trans HY.out)
  have HB2 := Lib.hid (HB0.out.trans (h2.mono HB0.out.size))
  clear h2 HB0 HX HY HZ
  cases hq : (gridOk a b && (allPb K ts.length && fin .f32 BK)) with
  | true =>
    have hq2 : okWith a b K ts.length BK = true := hq
    have hr := setRow_heap w2 (w.heap.size + 1) _ (CC a b (.slice av ts.length cap) k) _ _ hy.out
    obtain ⟨q0, q1, q2, q3, q4⟩ := five_cells hr
    go_wp2_with (first
      | ((with_reducible show wpList _ _ _ (Oper.mk (some 18) _ _ _ _ _ :: _) _ _); refine wpList_load_row rfl 48 _ rfl w.heap.size rfl 48 (CC a b (.slice av ts.length cap) k) (0, 0) _ hx.out Try.underlying48 rfl info_cloud ?_)
      | ((with_reducible show wpList _ _ _ (Oper.mk none (Op.store _ (Operand.tmp 6) _) _ _ _ _ :: _) _ _); refine wpList_store_row rfl 48 _ _ rfl (w.heap.size + 1) (CC a b (.slice av ts.length cap) k) rfl rfl 48 _ hy.out info_cloud rfl (one5 _ _ _ _ _ _ _) ?_))
    refine bodyPost_ret (v := .tuple #[CV a b (.slice av ts.length cap) k, .bool true]) (by simp [results, Try.results92, go_sem, q0, q1, q2, q3, q4]) rfl ?_
    exact ⟨by first | rfl | rw [hq2, if_pos rfl], below_setRow HB2.out (by omega) _⟩
  | false =>
    have hq2 : okWith a b K ts.length BK = false := hq
    have hr := setRow_heap w2 (w.heap.size + 1) _ (CC 0 0 (.slice none 0 0) 0) _ _ hy.out
    obtain ⟨q0, q1, q2, q3, q4⟩ := five_cells hr
    go_wp2_with (first
      | ((with_reducible show wpList _ _ _ (Oper.mk none (Op.store _ (Operand.tmp 6) _) _ _ _ _ :: _) _ _); refine wpList_store_row rfl 48 _ _ rfl (w.heap.size + 1) (CC 0 0 (.slice none 0 0) 0) rfl rfl 48 _ hy.out info_cloud rfl (one5 _ _ _ _ _ _ _) ?_))
    all_goals (refine bodyPost_ret (v := .tuple #[CV 0 0 (.slice none 0 0) 0, .bool false]) (by simp [results, Try.results92, go_sem, q0, q1, q2, q3, q4]) rfl ?_; exact ⟨by first | rfl | rw [hq2, if_neg (by decide)], below_setRow HB2.out (by omega) _⟩)

/-! ### of the model -/
end Go.Proofs.Ytnknhfhllifnhaa
