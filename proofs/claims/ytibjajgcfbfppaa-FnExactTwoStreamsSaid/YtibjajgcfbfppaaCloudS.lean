/-
  Clouds of streams: which are valid (the model).
-/
import Derived.Test.YtibjajgcfbfppaaCloud
namespace Go.Proofs.Ytibjajgcfbfppaa
open Go.Fl Go.RowKit
set_option linter.unusedSimpArgs false
set_option linter.unusedVariables false

theorem gt48 {n : Nat} (h : n ≤ 48) : decide ((n : Int) > 48) = false := decide_eq_false (by omega)
set_option maxHeartbeats 2000000 in
theorem sIsCloud_any (B : Nat) (a b : Int) (v : Value) (ts : List Pb) (K : Nat → Pb) (k BK cb : Nat) (w : World) (hx : w.heap[cb]? = some (.cells (CC a b v k) 56)) (hv : BOwn B w v ts) (h : EqP ts K) (hn : ts.length ≤ 48) (ik : Is .f32 k BK) :
    Calls Try.prog 72 #[.pointer (some ⟨cb, 0, none⟩)] w fun e w' => e = .returned (.bool (okWith a b K ts.length BK)) ∧ ∃ n, w' = w.drewN n := by
  obtain ⟨av, cap, rfl, hf⟩ := b_form hv
  have HV := Lib.hid hv; have HO := Lib.hid h
  obtain ⟨x0, x1, x2, x3, x4⟩ := five_cells hx
  have hgp : GP w (.pointer (some ⟨cb, 0, none⟩)) a b := ⟨cb, rfl, (Array.getElem?_eq_some_iff.1 hx).1, x0, x1⟩
  have hgt := gt48 hn
  have fz := fin_zero
  have iz := is_zero
  clear hv h hx
  unfold okWith
  cases hg : gridOk a b with
  | false =>
    go_enter Try.func72, Try.ntmps72
    go_wp2_with fail
    refine (sIs_any _ a b _ hgp).mono ?_; rw [hg]; rintro e w' ⟨rfl, rfl⟩
    go_wp2_with fail
    all_goals (go_ret; exact ⟨rfl, 0, rfl⟩)
  | true =>
    cases hb : fin .f32 BK with
    | false =>
      go_enter Try.func72, Try.ntmps72
      go_wp2_with fail
      refine (sIs_any _ a b _ hgp).mono ?_; rw [hg]; rintro e w' ⟨rfl, rfl⟩
      go_wp2_with fail
      refine (sFin_any _ _ iz _).mono ?_; rw [fz]; rintro e w' ⟨rfl, n1, rfl⟩
      go_wp2_with fail
      refine (sFin_any _ _ ik _).mono ?_; rw [hb]; rintro e w' ⟨rfl, n2, rfl⟩
      go_wp2_with fail
      all_goals (go_ret; exact ⟨by simp, _, rfl⟩)
    | true =>
      go_enter Try.func72, Try.ntmps72
      go_wp2_with fail
      refine (sIs_any _ a b _ hgp).mono ?_; rw [hg]; rintro e w' ⟨rfl, rfl⟩
      go_wp2_with fail
      refine (sFin_any _ _ iz _).mono ?_; rw [fz]; rintro e w' ⟨rfl, n1, rfl⟩
      go_wp2_with fail
      refine (sFin_any _ _ ik _).mono ?_; rw [hb]; rintro e w' ⟨rfl, n2, rfl⟩
      go_wp2_with fail
      go_loopw [38] (fun i wr => ∃ k : Nat, k ≤ ts.length ∧ i = .int .i64 k ∧ (∃ n, wr = w.drewN n) ∧ Hid (∀ j, j < k → okPb (K j) = true)) (fun i _ => ts.length - (intOf i).toNat)
      case atStart => exact ⟨0, Nat.zero_le _, rfl, ⟨_, rfl⟩, Lib.hid (fun j hj => absurd hj (Nat.not_lt_zero _))⟩
      case round =>
        obtain ⟨k', hk, rfl, ⟨n, rfl⟩, HA⟩ := hrel
        by_cases hlt : k' < ts.length
        · rcases hf with hf | ⟨g, rfl, _, _⟩
          · subst hf; simp at hlt
          obtain ⟨c0, c1, c2, c3⟩ := b_cells HV.out hlt
          have HT := Lib.hid (HO.out k' hlt)
          have HLT := Lib.hid hlt
          generalize ts[k'] = t at c0 c1 c2 c3 HT
          go_wp2_with fail
          refine (sPart_pb g (k' * 4) t (K k') HT.out (w.drewN n) c0 c1 c2 c3).mono ?_
          rintro e w2 ⟨rfl, n2, rfl⟩
          cases hq : okPb (K k') with
          | false =>
            go_wp2_with fail
            go_ret
            exact ⟨by rw [allPb_false HLT.out hq]; rfl, _, rfl⟩
          | true =>
            have HA2 := Lib.hid (show ∀ j, j < k' + 1 → okPb (K j) = true from fun j hj => by
              by_cases e : j < k'
              · exact HA.out j e
              · obtain rfl : j = k' := by omega
                exact hq)
            clear hq
            go_wp2_with fail
            go_roundw
            case rel => exact ⟨k' + 1, by omega, by go_num, ⟨_, rfl⟩, HA2⟩
            case measure => simp [intOf]; omega
        · obtain rfl : k' = ts.length := by omega
          clear hlt
          go_wp2
          go_ret
          exact ⟨by rw [allPb_true HA.out]; rfl, _, rfl⟩

set_option maxHeartbeats 1000000 in
theorem sGive_any (B : Nat) (a b : Int) (v : Value) (ts : List Pb) (K : Nat → Pb) (k BK : Nat) (w : World) (hv : BOwn B w v ts) (h : EqP ts K) (hn : ts.length ≤ 48) (ik : Is .f32 k BK) :
    Calls Try.prog 56 #[CV a b v k] w fun e w' => e = .returned (.tuple #[if okWith a b K ts.length BK then CV a b v k else CV 0 0 (.slice none 0 0) 0, .bool (okWith a b K ts.length BK)]) ∧ Below w.heap.size w w' := by
  obtain ⟨av, cap, rfl, hf⟩ := b_form hv
  have HB0 := Lib.hid (((Below.refl w.heap.size w).alloc (Nat.le_refl _) (.cells (CC a b (.slice av ts.length cap) k) 56)).alloc (by simp) (.cells (CC 0 0 (.slice none 0 0) 0) 56))
  have HX := Lib.hid (show ((w.alloc (.cells (CC a b (.slice av ts.length cap) k) 56)).alloc (.cells (CC 0 0 (.slice none 0 0) 0) 56)).heap[w.heap.size]? = some (.cells (CC a b (.slice av ts.length cap) k) 56) from heap_alloc2_old w _ _)
  have HY := Lib.hid (show ((w.alloc (.cells (CC a b (.slice av ts.length cap) k) 56)).alloc (.cells (CC 0 0 (.slice none 0 0) 0) 56)).heap[w.heap.size + 1]? = some (.cells (CC 0 0 (.slice none 0 0) 0) 56) from heap_alloc2_new w _ _)
  go_enter Try.func56, Try.ntmps56
  go_wp2_with fail
  generalize (w.alloc (.cells (CC a b (.slice av ts.length cap) k) 56)).alloc (.cells (CC 0 0 (.slice none 0 0) 0) 56) = w1 at HB0 HX HY ⊢
  refine (sIsCloud_any B a b _ ts K k BK w.heap.size _ HX.out (r4_below hv HB0.out) h hn ik).mono ?_
  rintro e w2 ⟨rfl, n, rfl⟩
  have hx := Lib.hid (show (w1.drewN n).heap[w.heap.size]? = _ from HX.out)
  have hy := Lib.hid (show (w1.drewN n).heap[w.heap.size + 1]? = _ from HY.out)
  have HB2 := Lib.hid (below_drewN HB0.out n)
  clear HB0 HX HY
  generalize w1.drewN n = w2 at hx hy HB2 ⊢
  cases hq : okWith a b K ts.length BK with
  | true =>
    have hr := setRow_heap w2 (w.heap.size + 1) _ (CC a b (.slice av ts.length cap) k) _ _ hy.out
    obtain ⟨q0, q1, q2, q3, q4⟩ := five_cells hr
    go_wp2_with (first
      | ((with_reducible show wpList _ _ _ (Oper.mk (some 7) _ _ _ _ _ :: _) _ _); refine wpList_load_row rfl 56 _ rfl w.heap.size rfl 56 (CC a b (.slice av ts.length cap) k) (0, 0) _ hx.out Try.underlying56 rfl info_cloud ?_)
      | ((with_reducible show wpList _ _ _ (Oper.mk none (Op.store _ (Operand.tmp 2) _) _ _ _ _ :: _) _ _); refine wpList_store_row rfl 56 _ _ rfl (w.heap.size + 1) (CC a b (.slice av ts.length cap) k) rfl rfl 56 _ hy.out info_cloud rfl (one5 _ _ _ _ _ _ _) ?_))
    refine bodyPost_ret (v := .tuple #[CV a b (.slice av ts.length cap) k, .bool true]) (by simp [results, Try.results56, go_sem, q0, q1, q2, q3, q4]) rfl ?_
    exact ⟨by first | rfl | (rw [hq, if_pos rfl]), below_setRow HB2.out (by omega) _⟩
  | false =>
    have hr := setRow_heap w2 (w.heap.size + 1) _ (CC 0 0 (.slice none 0 0) 0) _ _ hy.out
    obtain ⟨q0, q1, q2, q3, q4⟩ := five_cells hr
    go_wp2_with (first
      | ((with_reducible show wpList _ _ _ (Oper.mk none (Op.store _ (Operand.tmp 2) _) _ _ _ _ :: _) _ _); refine wpList_store_row rfl 56 _ _ rfl (w.heap.size + 1) (CC 0 0 (.slice none 0 0) 0) rfl rfl 56 _ hy.out info_cloud rfl (one5 _ _ _ _ _ _ _) ?_))
    all_goals (refine bodyPost_ret (v := .tuple #[CV 0 0 (.slice none 0 0) 0, .bool false]) (by simp [results, Try.results56, go_sem, q0, q1, q2, q3, q4]) rfl ?_; exact ⟨by first | rfl | (rw [hq, if_neg (by decide)]), below_setRow HB2.out (by omega) _⟩)
end Go.Proofs.Ytibjajgcfbfppaa
