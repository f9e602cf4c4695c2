/-
  slices.Repeat of one number (without the words for rings).
-/
import Derived.Test.YtlfnbnhbobohlaaFields
import Derived.Test.YtlfnbnhbobohlaaShift
import Derived.Deep.Cut
import Derived.Laws.CopyOwn
import Derived.Lib.AppendZerosOnto
namespace Go.Proofs.Ytlfnbnhbobohlaa
open Go.Fl Go.RowKit
open Go.Joins (ownsRow_le)
set_option linter.unusedSimpArgs false
set_option linter.unusedVariables false

theorem made_zero (n : Nat) : (madeCells (Value.float .f32 0).cells (n * 1)).toList = (List.replicate n 0).map (Value.float .f32) := by
  rw [Nat.mul_one]
  exact (toList_madeCells_one (.float .f32 0) n).trans (by simp)

theorem and_small : ∀ m : Fin 257, bits BinOp.and IntKind.u64 ((m.1 : Nat) : Int) 4294967295 = ((m.1 : Nat) : Int) := by decide +kernel
theorem and_one : bits BinOp.and IntKind.u64 1 4294967295 = 1 := by decide +kernel
theorem and_zero : bits BinOp.and IntKind.u64 0 4294967295 = 0 := by decide +kernel

set_option maxHeartbeats 1000000 in
set_option maxRecDepth 100000 in
theorem mul64_one (n : Nat) (w : World) (hn : n ≤ 256) : Calls Try.prog 151 #[.int .u64 1, .int .u64 n] w fun e w' => e = .returned (.tuple #[.int .u64 0, .int .u64 n]) ∧ w' = w := by
  have h1 := and_small ⟨n, by omega⟩
  have h2 : (n : Int) / 4294967296 = 0 := by omega
  have h3 : IntKind.u64.wrap (n : Int) = (n : Int) := by rw [IntKind.wrap_u64]; omega
  have h4 := and_one
  have h5 := and_zero
  have h6 : IntKind.u64.wrap 0 = 0 := by decide
  go_enter Try.func151, Try.ntmps151
  go_wp2_with fail
  go_ret2
  refine ⟨?_, rfl⟩
  simp [h1, h2, h3, h4, h5, h6]

theorem mul_one (n : Nat) (w : World) (hn : n ≤ 256) : Calls Try.prog 132 #[.int .u64 1, .int .u64 n] w fun e w' => e = .returned (.tuple #[.int .u64 0, .int .u64 n]) ∧ w' = w := by
  go_enter Try.func132, Try.ntmps132
  go_wp2_with fail
  refine (mul64_one n _ hn).mono ?_; rintro e w' ⟨rfl, rfl⟩
  go_wp2_with fail
  go_ret2
  exact ⟨rfl, rfl⟩

/-- The first k numbers are r, those behind them zero. -/
def fillL (k n r : Nat) : List Value := (List.replicate k r ++ List.replicate (n - k) 0).map (Value.float .f32)
theorem fillL_len {k n r : Nat} (h : k ≤ n) : (fillL k n r).length = n := by simp [fillL]; omega
theorem fillL_zero (n r : Nat) : fillL 0 n r = (List.replicate n 0).map (Value.float .f32) := by simp [fillL]
theorem fillL_all (n r : Nat) : fillL n n r = (List.replicate n r).map (Value.float .f32) := by simp [fillL]
theorem fillL_splice {k j n r : Nat} (h : k + j ≤ n) : splice (fillL k n r) k (List.replicate j (.float .f32 r)) = fillL (k + j) n r := by
  have e : n - k = j + (n - (k + j)) := by omega
  have hd : ∀ (A Bz Cz : List Value), A.length + Bz.length = k + j → (A ++ (Bz ++ Cz)).drop (k + j) = Cz := fun A Bz Cz hl => by
    rw [← List.append_assoc]; exact List.drop_left' (by rw [List.length_append]; exact hl)
  unfold splice fillL
  rw [e, ← List.replicate_append_replicate, List.map_append, List.map_append, List.map_append, List.map_replicate, List.map_replicate, List.map_replicate, List.map_replicate, List.length_replicate, hd _ _ _ (by simp), List.take_left' (by simp), ← List.append_assoc, List.replicate_append_replicate]
theorem fillL_at {k n r i : Nat} (hi : i < k) : (fillL k n r)[i]? = some (.float .f32 r) := by
  unfold fillL
  rw [List.getElem?_map, List.getElem?_append_left (by simpa using hi), List.getElem?_replicate, if_pos hi]; rfl
theorem row_heap {B g n : Nat} {w : World} {xs : List Value} (h : w.ownsRow B 46 1 (.slice (some ⟨g, 0, none⟩) n n) n xs) : w.heap[g]? = some (.cells xs.toArray 46) := by
  rcases h.2 with ⟨h', _⟩ | ⟨g', cap', cur, h', hb, hg, hnc, hcm, hcs, htake⟩
  · cases h'
  · simp only [Value.slice.injEq, Option.some.injEq, Addr.mk.injEq, and_true, true_and] at h'
    obtain ⟨rfl, rfl⟩ := h'
    rw [List.take_of_length_le (by rw [Array.length_toList, hcs]; exact Nat.le_refl _)] at htake
    rw [← htake]
    exact hg
theorem heap_row {B g n : Nat} {w : World} {xs : List Value} (hg : w.heap[g]? = some (.cells xs.toArray 46)) (hl : xs.length = n) (hb : B ≤ g) (hm : n ≤ maxLen) : w.ownsRow B 46 1 (.slice (some ⟨g, 0, none⟩) n n) n xs :=
  ⟨by omega, .inr ⟨g, n, xs.toArray, rfl, hb, hg, Nat.le_refl _, hm, by simp; omega, by rw [List.take_of_length_le (by simp; omega)]⟩⟩
theorem cell_heap {g k : Nat} {w : World} {xs : List Value} {v : Value} (hg : w.heap[g]? = some (.cells xs.toArray 46)) (hv : xs[k]? = some v) : w.cell? ⟨g, k, none⟩ = some v := by
  rw [Go.Joins.cell_of_block hg]
  simpa using hv

theorem info_size : (Try.prog.info? 46).map (·.size) = some 1 := by
  obtain ⟨i0, hi, _, hz1, _⟩ := info_parts F32info
  rw [hi]; simp [hz1]

set_option maxHeartbeats 4000000 in
set_option maxRecDepth 100000 in
theorem repeat_any (b o c r n : Nat) (w : World) (hx : w.cell? ⟨b, o, none⟩ = some (.float .f32 r)) (n1 : 1 ≤ n) (n2 : n ≤ 256) :
    Calls Try.prog 110 #[.slice (some ⟨b, o, none⟩) 1 c, .int .i64 n] w fun e w' => (∃ g, e = .returned (.slice (some ⟨g, 0, none⟩) n n) ∧ w'.ownsRow w.heap.size 46 1 (.slice (some ⟨g, 0, none⟩) n n) n ((List.replicate n r).map (Value.float .f32))) ∧ Below w.heap.size w w' := by
  obtain ⟨i0, hi, hz0, hz1, hz2⟩ := info_parts F32info
  have hb4 : i0.bytes * n ≤ 281474976710656 := by rw [hz2]; omega
  have hml : n ≤ maxLen := by unfold maxLen; omega
  have hbo : b < w.heap.size := block_lt_of_cell hx
  have h3 : IntKind.u64.wrap (n : Int) = (n : Int) := by rw [IntKind.wrap_u64]; omega
  have h4 : IntKind.i64.wrap (n : Int) = (n : Int) := by rw [wrap_i64]; exact wrap64_of (by omega) (by omega)
  have h5 : wrap64 (n : Int) = (n : Int) := wrap64_of (by omega) (by omega)
  have h6 : ¬ (n : Int) < 0 := by omega
  have h7 : ¬ (9223372036854775807 : Int) < (n : Int) := by omega
  go_enter Try.func110, Try.ntmps110
  go_wp2_with fail
  refine (mul_one n _ n2).mono ?_; rintro e w' ⟨rfl, rfl⟩
  go_upto_region 7 with (at_make; refine wpList_make_full _ rfl _ _ 24 rfl w'.heap.size 46 i0 (.float .f32 0) 1 Try.underlying24 hi hz0 hz1 _ _ _ _ n rfl rfl rfl rfl hb4 hml (Nat.le_refl _) ?_; intro w4 hown hgrow)
  rw [made_zero] at hown
  have HG4 := Lib.hid (row_heap (by rw [← fillL_zero n r] at hown; exact hown))
  have HB4 := Lib.hid ((Below.refl w'.heap.size w').grown hgrow (Nat.le_refl _) (fun k h => by cases h))
  have hx4 : w4.cell? ⟨b, o, none⟩ = some (.float .f32 r) := by rw [HB4.out.cell (p := ⟨b, o, none⟩) hbo]; exact hx
  have HGL := Lib.hid (show w'.heap.size ≤ w'.heap.size from Nat.le_refl _)
  clear hown hgrow hb4
  generalize hg0 : w'.heap.size = g0 at HG4 HGL ⊢
  have HG0 := Lib.hid hg0
  clear hg0
  have hA : (List.replicate 1 (Value.float .f32 r)).length = Nat.min 1 n := by rw [List.length_replicate]; exact (Nat.min_eq_left n1).symm
  have hB : ∀ j v, (List.replicate 1 (Value.float .f32 r))[j]? = some v → w4.cell? ((⟨b, o, none⟩ : Addr).add j) = some v := fun j v hv => by
    obtain ⟨hj, rfl⟩ := List.getElem?_eq_some_iff.1 hv
    rw [List.length_replicate] at hj
    obtain rfl : j = 0 := by omega
    exact hx4
  have hC : 0 + (List.replicate 1 (Value.float .f32 r)).length ≤ (fillL 0 n r).length := by rw [fillL_len (by omega), List.length_replicate]; omega
  have hD : ∀ v ∈ List.replicate 1 (Value.float .f32 r), v.oneCell' = true := fun v hv => by rw [(List.mem_replicate.1 hv).2]; rfl
  go_upto_region 8 with ((with_reducible show wpList _ _ _ (Oper.mk (some 33) _ _ _ _ _ :: _) _ _); go_loud (refine wpList_copy_splice rfl _ _ _ _ rfl 46 Try.underlying24 info_size _ _ _ _ _ _ rfl rfl g0 0 (fillL 0 n r) 46 HG4.out (List.replicate 1 (.float .f32 r)) hA (fun _ => ⟨rfl, _, rfl, hB⟩) hC hD w'.heap.size w' HB4.out (Nat.le_of_eq HG0.out) ?_); intro w5 HG5 HB5)
  have HB5' := Lib.hid HB5
  have hg5 := HG5.out
  rw [fillL_splice (k := 0) (j := 1) (by omega), Nat.zero_add] at hg5
  have HG5' := Lib.hid hg5
  clear HB5 HG5 hg5 HG4 HB4 hA hB hC hD hx4 hx hbo
  go_loopw [8] (fun i wr => ∃ k : Nat, i = .int .i64 (k : Int) ∧ 1 ≤ k ∧ k ≤ n ∧ Hid (wr.heap[g0]? = some (.cells (fillL k n r).toArray 46)) ∧ Hid (Below w'.heap.size w' wr)) (fun i _ => n - (intOf i).toNat)
  case atStart => exact ⟨1, rfl, Nat.le_refl _, n1, HG5', HB5'⟩
  case round =>
    clear HG5' HB5'
    obtain ⟨k, rfl, hk1, hk, HG, HB⟩ := hrel
    by_cases hlt : k < n
    · have iK0 : (0 : Int) ≤ (k : Int) := Int.natCast_nonneg _
      have iK1 : (k : Int) < (n : Int) := by omega
      have iK2 : (k : Int) ≤ (n : Int) := by omega
      obtain ⟨j, hj⟩ : ∃ j, j = Nat.min k (n - k) := ⟨_, rfl⟩
      have h1 : 1 ≤ j := by rw [hj]; exact Nat.le_min.2 ⟨hk1, by omega⟩
      have h2 : j ≤ k := by rw [hj]; exact Nat.min_le_left _ _
      have h3 : j ≤ n - k := by rw [hj]; exact Nat.min_le_right _ _
      have HJJ := Lib.hid (And.intro h1 (And.intro h2 (show k + j ≤ n by omega)))
      have hwj : IntKind.i64.wrap ((k : Int) + (j : Int)) = ((k + j : Nat) : Int) := by rw [wrap_i64, wrap64_of (by omega) (by omega)]; omega
      have HMJ := Lib.hid hj.symm
      have HWJ := Lib.hid hwj
      clear hwj
      go_wp2_with fail
      refine wp_region_noPanic ?_
      refine wp_region_held_drew (S := fun _ => True) (by kernel_rfl) trivial (fun hHeld => ?_)
      have HG6 : Hid (wr.drew.heap[g0]? = some (.cells (fillL k n r).toArray 46)) := Lib.hid HG.out
      have HB6 := Lib.hid HB.out.drew
      generalize wr.drew = v0 at HG6 HB6 ⊢
      ((refine wpAnyH_take (i := 0) (v := ?_) rfl (by kernel_rfl) (by kernel_rfl) (by kernel_rfl) (fun _ _ _ h => h) (Or.inl ⟨by rfl, ?_⟩) (by assumption) ?_; rotate_left; (· intro w hSw; (try dsimp only at hSw); go_simp; first | done | with_reducible rfl); (try simp only [List.getElem_toArray, List.getElem_cons_zero, List.getElem_cons_succ, Act.put, List.setIfInBounds_toArray, List.set_cons_zero, List.set_cons_succ])); (refine wpAnyH_take (i := 1) (v := ?_) rfl (by kernel_rfl) (by kernel_rfl) (by kernel_rfl) (fun _ _ _ h => h) (Or.inl ⟨by rfl, ?_⟩) (by assumption) ?_; rotate_left; (· intro w hSw; (try dsimp only at hSw); go_simp; first | done | with_reducible rfl); (try simp only [List.getElem_toArray, List.getElem_cons_zero, List.getElem_cons_succ, Act.put, List.setIfInBounds_toArray, List.set_cons_zero, List.set_cons_succ])); (refine wpAnyH_take (i := 2) (v := ?_) rfl (by kernel_rfl) (by kernel_rfl) (by kernel_rfl) (fun _ _ _ h => h) (Or.inl ⟨by rfl, ?_⟩) (by assumption) ?_; rotate_left; (· intro w hSw; (try dsimp only at hSw); go_simp; first | done | with_reducible rfl); (try simp only [List.getElem_toArray, List.getElem_cons_zero, List.getElem_cons_succ, Act.put, List.setIfInBounds_toArray, List.set_cons_zero, List.set_cons_succ])); (refine wpAnyH_take (i := 3) (v := ?_) rfl (by kernel_rfl) (by kernel_rfl) (by kernel_rfl) (fun _ _ _ h => h) (Or.inl ⟨by rfl, ?_⟩) (by assumption) ?_; rotate_left; (· intro w hSw; (try dsimp only at hSw); go_simp; first | done | with_reducible rfl); (try simp only [List.getElem_toArray, List.getElem_cons_zero, List.getElem_cons_succ, Act.put, List.setIfInBounds_toArray, List.set_cons_zero, List.set_cons_succ])); (refine wpAnyH_take (i := 4) (v := ?_) rfl (by kernel_rfl) (by kernel_rfl) (by kernel_rfl) (fun _ _ _ h => h) (Or.inl ⟨by rfl, ?_⟩) (by assumption) ?_; rotate_left; (· intro w hSw; (try dsimp only at hSw); go_simp; first | done | with_reducible rfl); (try simp only [List.getElem_toArray, List.getElem_cons_zero, List.getElem_cons_succ, Act.put, List.setIfInBounds_toArray, List.set_cons_zero, List.set_cons_succ])); (refine wpAnyH_take (i := 5) (v := ?_) rfl (by kernel_rfl) (by kernel_rfl) (by kernel_rfl) (fun _ _ _ h => h) (Or.inl ⟨by rfl, ?_⟩) (by assumption) ?_; rotate_left; (· intro w hSw; (try dsimp only at hSw); go_simp; first | done | with_reducible rfl); (try simp only [List.getElem_toArray, List.getElem_cons_zero, List.getElem_cons_succ, Act.put, List.setIfInBounds_toArray, List.set_cons_zero, List.set_cons_succ])); (refine wpAnyH_take (i := 6) (v := ?_) rfl (by kernel_rfl) (by kernel_rfl) (by kernel_rfl) (fun _ _ _ h => h) (Or.inl ⟨by rfl, ?_⟩) (by assumption) ?_; rotate_left; (· intro w hSw; (try dsimp only at hSw); go_simp; first | done | with_reducible rfl); (try simp only [List.getElem_toArray, List.getElem_cons_zero, List.getElem_cons_succ, Act.put, List.setIfInBounds_toArray, List.set_cons_zero, List.set_cons_succ])))
      (refine wpAnyH_ready (rs := [7]) (by kernel_rfl) (by simp) ?_; refine AllReadyH.cons (i := 7) rfl (fun K hK => ?_) AllReadyH.nil)
      have hA : (List.replicate j (Value.float .f32 r)).length = Nat.min k (n - k) := by rw [List.length_replicate]; exact hj
      have hB : ∀ i v, (List.replicate j (Value.float .f32 r))[i]? = some v → v0.cell? ((⟨g0, 0, none⟩ : Addr).add i) = some v := fun i v hv => by
        obtain ⟨hi, rfl⟩ := List.getElem?_eq_some_iff.1 hv
        rw [List.length_replicate] at hi
        rw [List.getElem_replicate]
        have := cell_heap (k := i) HG6.out (fillL_at (by omega))
        by_cases hi0 : i = 0
        · subst hi0; simpa [Addr.add] using this
        · simpa [Addr.add, hi0] using this
      have hC : k + (List.replicate j (Value.float .f32 r)).length ≤ (fillL k n r).length := by rw [fillL_len hk, List.length_replicate]; omega
      have hD : ∀ v ∈ List.replicate j (Value.float .f32 r), v.oneCell' = true := fun v hv => by rw [(List.mem_replicate.1 hv).2]; rfl
      refine step_copy_splice rfl _ _ _ _ rfl 46 Try.underlying24 info_size _ _ _ _ _ _ rfl rfl g0 k (fillL k n r) 46 HG6.out (List.replicate j (.float .f32 r)) hA (fun _ => ⟨if_neg (by omega), _, rfl, hB⟩) hC hD w'.heap.size w' HB6.out (Nat.le_of_eq HG0.out) ?_
      intro v1 HG7 HB7
      have hg7 := HG7.out
      rw [fillL_splice (by omega)] at hg7
      have HG8 := Lib.hid hg7
      have HB8 := Lib.hid HB7
      rw [List.length_replicate]
      clear hA hB hC hD HG7 HB7 hg7
      (refine hK.out _ _ (trivial) (fun hHeld => ?_); clear hK K; (try simp only [List.getElem_toArray, List.getElem_cons_zero, List.getElem_cons_succ, Act.put, List.setIfInBounds_toArray, List.set_cons_zero, List.set_cons_succ]))
      ((refine wpAnyH_take (i := 8) (v := ?_) rfl (by kernel_rfl) (by kernel_rfl) (by kernel_rfl) (fun _ _ _ h => h) (Or.inl ⟨by rfl, ?_⟩) (by assumption) ?_; rotate_left; (· intro w hSw; (try dsimp only at hSw); go_simp; first | done | with_reducible rfl); (try simp only [List.getElem_toArray, List.getElem_cons_zero, List.getElem_cons_succ, Act.put, List.setIfInBounds_toArray, List.set_cons_zero, List.set_cons_succ])); (refine wpAnyH_take (i := 9) (v := ?_) rfl (by kernel_rfl) (by kernel_rfl) (by kernel_rfl) (fun _ _ _ h => h) (Or.inl ⟨by rfl, ?_⟩) (by assumption) ?_; rotate_left; (· intro w hSw; (try dsimp only at hSw); go_simp; first | done | with_reducible rfl); (try simp only [List.getElem_toArray, List.getElem_cons_zero, List.getElem_cons_succ, Act.put, List.setIfInBounds_toArray, List.set_cons_zero, List.set_cons_succ])))
      (refine wpAnyH_done (by kernel_rfl) ?_ _; refine NoPanic.normal ?_)
      go_wp2_with fail
      go_roundw
      case rel =>
        rw [HMJ.out, HWJ.out]
        exact ⟨k + j, rfl, by have := HJJ.out; omega, HJJ.out.2.2, HG8, HB8⟩
      case measure =>
        rw [HMJ.out, HWJ.out]
        have := HJJ.out
        simp [intOf]; omega
    · have hk2 : k = n := by omega
      subst hk2
      have HR := Lib.hid (heap_row HG.out (fillL_len (Nat.le_refl _)) (Nat.le_of_eq HG0.out) hml)
      go_wp2_with fail
      go_ret
      refine ⟨⟨g0, rfl, ?_⟩, HB.out⟩
      rw [← fillL_all]; exact HR.out
end Go.Proofs.Ytlfnbnhbobohlaa
