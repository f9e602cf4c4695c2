/-
  Clouds of particles of any finite numbers, with a magnet and a back (the program).
-/
import Derived.Test.YtnknhfhllifnhaaCloud
import Derived.Test.YtnknhfhllifnhaaCln
namespace Go.Proofs.Ytnknhfhllifnhaa
open Go.Fl Go.RowKit
set_option linter.unusedSimpArgs false
set_option linter.unusedVariables false

abbrev CGc (a b : Int) (v : Value) (m k : Nat) : Array Value := #[.int .i64 a, .int .i64 b, v, .float .f32 m, .float .f32 k]
abbrev CG (a b : Int) (v : Value) (m k : Nat) : Value := .agg (CGc a b v m k)

theorem own_row {B k : Nat} {w : World} {v : Value} {ts : List R4} (h : R4Own B w v ts) (hk : k < B) (cs : Array Value) : R4Own B (w.setRow k cs) v ts := by
  have hl := h.lt
  refine World.ownsRow.kept (row := some k) h ⟨rfl, rfl, rfl, by simp [World.setRow], fun j hj hr => setRow_other w k j cs (fun e => hr (by rw [e]))⟩ ?_
  cases hb : v.ownBlock with
  | none => exact .inl rfl
  | some j => exact .inr (fun e => by have := (hl j hb).1; have := Option.some.inj e; omega)

set_option maxHeartbeats 1000000 in
theorem iVC_pq (B : Nat) (a b : Int) (v : Value) (ts : List Pq) (m k : Nat) (w : World) (hv : QOwn B w v ts) (h : okq ts) (hn : ts.length ≤ 48) (im : Num m) (ik : Num k) (hg : gridOk a b = true) :
    Calls Try.prog 97 #[CG a b v m k] w fun e w' => e = .returned (.bool true) ∧ Below w.heap.size w w' := by
  obtain ⟨av, cap, rfl, hf⟩ := q_form hv
  have HB0 := Lib.hid ((Below.refl w.heap.size w).alloc (Nat.le_refl _) (.cells (CGc a b (.slice av ts.length cap) m k) 48))
  have HV := Lib.hid (r4_below hv ((Below.refl w.heap.size w).alloc (Nat.le_refl _) (.cells (CGc a b (.slice av ts.length cap) m k) 48))); have HO := Lib.hid h
  have HX := Lib.hid (heap_alloc_new w (.cells (CGc a b (.slice av ts.length cap) m k) 48))
  have HZ := Lib.hid (show w.heap.size < (w.alloc (.cells (CGc a b (.slice av ts.length cap) m k) 48)).heap.size by simp)
  have hle := le48 hn
  clear hv h
  go_enter Try.func97, Try.ntmps97
  go_wp2_with fail
  generalize w.alloc (.cells (CGc a b (.slice av ts.length cap) m k) 48) = w1 at HB0 HV HX HZ ⊢
  refine (iValidGrid_any a b _).mono ?_
  rw [hg]
  rintro e w2 ⟨rfl, h2⟩
  have HB2 := Lib.hid (HB0.out.trans (h2.mono HB0.out.size)); have HV2 := Lib.hid (r4_below HV.out h2); have HX2 := Lib.hid ((h2.block w.heap.size HZ.out).trans HX.out); have HZ2 := Lib.hid (Nat.lt_of_lt_of_le HZ.out h2.size)
  clear h2 HB0 HV HX HZ
  obtain ⟨x0, x1, x2, x3, x4⟩ := five_cells HX2.out
  go_wp2_with fail
  refine (iAre_pq B _ ts _ HV2.out HO.out (by omega)).mono ?_
  rintro e w3 ⟨rfl, h3⟩
  have HB3 := Lib.hid (HB2.out.trans (h3.mono HB2.out.size)); have HX3 := Lib.hid ((h3.block w.heap.size HZ2.out).trans HX2.out)
  clear h3 HB2 HV2 HX2 HZ2 x0 x1 x2 x3 x4
  obtain ⟨x0, x1, x2, x3, x4⟩ := five_cells HX3.out
  go_wp2_with fail
  refine (iFinite3_any _ _ im.is _).mono ?_
  rintro e w4 ⟨rfl, k4, rfl⟩
  rw [im.fn]
  go_wp2_with fail
  refine (iFinite3_any _ _ ik.is _).mono ?_
  rintro e w5 ⟨rfl, k5, rfl⟩
  rw [ik.fn]
  go_wp2_with fail
  go_ret
  exact ⟨rfl, below_drewN HB3.out _⟩

set_option maxHeartbeats 1000000 in
theorem iWith_pq (B : Nat) (a b : Int) (v0 v : Value) (ts : List Pq) (m k : Nat) (w : World) (hv : QOwn B w v ts) (h : okq ts) (hn : ts.length ≤ 48) (im : Num m) (ik : Num k) (hg : gridOk a b = true) (h1 : v0.oneCell' = true) :
    Calls Try.prog 92 #[CG a b v0 m k, v, .bool true] w fun e w' => e = .returned (.tuple #[CG a b v m k, .bool true]) ∧ Below w.heap.size w w' := by
  obtain ⟨av, cap, rfl, hf⟩ := q_form hv
  have HB0 := Lib.hid (((Below.refl w.heap.size w).alloc (Nat.le_refl _) (.cells (CGc a b (.slice av ts.length cap) m k) 48)).alloc (by simp) (.cells (CC 0 0 (.slice none 0 0) 0) 48))
  have HX := Lib.hid (show ((w.alloc (.cells (CGc a b (.slice av ts.length cap) m k) 48)).alloc (.cells (CC 0 0 (.slice none 0 0) 0) 48)).heap[w.heap.size]? = some (.cells (CGc a b (.slice av ts.length cap) m k) 48) from heap_alloc2_old w _ _)
  have HY := Lib.hid (show ((w.alloc (.cells (CGc a b (.slice av ts.length cap) m k) 48)).alloc (.cells (CC 0 0 (.slice none 0 0) 0) 48)).heap[w.heap.size + 1]? = some (.cells (CC 0 0 (.slice none 0 0) 0) 48) from heap_alloc2_new w _ _)
  have HZ := Lib.hid (show w.heap.size + 1 < ((w.alloc (.cells (CGc a b (.slice av ts.length cap) m k) 48)).alloc (.cells (CC 0 0 (.slice none 0 0) 0) 48)).heap.size by simp)
  have H0 := heap_alloc_new w (.cells (CGc a b v0 m k) 48)
  go_enter Try.func92, Try.ntmps92
  go_wp2_with fail
  clear H0
  generalize (w.alloc (.cells (CGc a b (.slice av ts.length cap) m k) 48)).alloc (.cells (CC 0 0 (.slice none 0 0) 0) 48) = w1 at HB0 HX HY HZ ⊢
  refine (iVC_pq B a b _ ts m k _ (r4_below hv HB0.out) h hn im ik hg).mono ?_
  rintro e w2 ⟨rfl, h2⟩
  have hx := Lib.hid ((h2.block w.heap.size (Nat.lt_of_succ_lt HZ.out)).trans HX.out)
  have hy := Lib.hid ((h2.block (w.heap.size + 1) HZ.out).trans HY.out)
  have HB2 := Lib.hid (HB0.out.trans (h2.mono HB0.out.size))
  clear h2 HB0 HX HY HZ
  have hr := setRow_heap w2 (w.heap.size + 1) _ (CGc a b (.slice av ts.length cap) m k) _ _ hy.out
  obtain ⟨q0, q1, q2, q3, q4⟩ := five_cells hr
  go_wp2_with (first
    | ((with_reducible show wpList _ _ _ (Oper.mk (some 18) _ _ _ _ _ :: _) _ _); refine wpList_load_row rfl 48 _ rfl w.heap.size rfl 48 (CGc a b (.slice av ts.length cap) m k) (0, 0) _ hx.out Try.underlying48 rfl info_cloud ?_)
    | ((with_reducible show wpList _ _ _ (Oper.mk none (Op.store _ (Operand.tmp 6) _) _ _ _ _ :: _) _ _); refine wpList_store_row rfl 48 _ _ rfl (w.heap.size + 1) (CGc a b (.slice av ts.length cap) m k) rfl rfl 48 _ hy.out info_cloud rfl (one5 _ _ _ _ _ _ _) ?_))
  refine bodyPost_ret (v := .tuple #[CG a b (.slice av ts.length cap) m k, .bool true]) (by simp [results, Try.results92, go_sem, q0, q1, q2, q3, q4]) rfl ?_
  exact ⟨rfl, below_setRow HB2.out (by omega) _⟩
end Go.Proofs.Ytnknhfhllifnhaa
