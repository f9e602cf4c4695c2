/-
  Elements of lines: the laws' own copies, comparisons and marks.
-/
import Derived.Test.YtpnmledanloboaaEl
import Derived.Test.YtpnmledanloboaaFC
import Derived.Laws.CopyOwn
namespace Go.Proofs.Ytpnmledanloboaa
open Go.Fl Go.RowKit
set_option linter.unusedSimpArgs false
set_option linter.unusedVariables false

theorem Einfo : (Try.prog.info? 67).map (fun i => (i.zero, i.size, i.bytes)) = some (some (.agg #[.int .i64 0, .float .f32 0, .float .f32 0]), 3, 16) := by kernel_rfl
def ZE : El := ⟨0, 0, 0⟩
theorem cells3_zero (n : Nat) : (madeCells (Value.agg #[.int .i64 0, .float .f32 0, .float .f32 0]).cells (n * 3)).toList = cells3 (List.replicate n ZE) := by
  apply List.ext_getElem?
  intro j
  by_cases hj : j < n * 3
  · have h1 : (cells3 (List.replicate n ZE))[j]? = (ZE.cs)[j % 3]? := by
      have := cells3_at (ts := List.replicate n ZE) (k := j / 3) (by simp; omega) (j % 3) (by omega)
      rw [show 3 * (j / 3) + j % 3 = j by omega] at this
      rw [this, List.getElem_replicate]
    rw [h1]
    have h2 : j % 3 = 0 ∨ j % 3 = 1 ∨ j % 3 = 2 := by omega
    rcases h2 with h | h | h <;> simp [madeCells, hj, Value.cells, h, ZE, El.cs]
  · rw [List.getElem?_eq_none (by simp [madeCells]; omega), List.getElem?_eq_none (by rw [cells3_len]; simp; omega)]
/-- A copy under way. -/
def cpE (ts : List El) (k : Nat) : List El := ts.take k ++ List.replicate (ts.length - k) ZE
theorem cpE_len (ts : List El) {k : Nat} (h : k ≤ ts.length) : (cpE ts k).length = ts.length := by simp [cpE]; omega
theorem cpE_zero (ts : List El) : cpE ts 0 = List.replicate ts.length ZE := by simp [cpE]
theorem cpE_all (ts : List El) : cpE ts ts.length = ts := by simp [cpE]
theorem cpE_set (ts : List El) {k : Nat} (h : k < ts.length) : (cpE ts k).set k ts[k] = cpE ts (k + 1) := by
  unfold cpE
  rw [List.set_append_right _ _ (by simp; exact Nat.min_le_left _ _), List.length_take, Nat.min_eq_left (by omega), Nat.sub_self]
  rw [show ts.length - k = ts.length - (k + 1) + 1 by omega, List.replicate_succ, List.set_cons_zero, List.take_succ_eq_append_getElem h, List.append_assoc]
  rfl

theorem toE_any (t : El) (w : World) : Calls Try.prog 67 #[t.val] w fun e w' => e = .returned t.val ∧ Below w.heap.size w w' := by
  unfold El.val
  go_enter Try.func67, Try.ntmps67
  go_wp2
  have hres : Try.f67.results = #[.cell 2 67] := by kernel_rfl
  refine bodyPost_ret (v := .agg #[.int .i64 t.k, .float .f32 t.n, .float .f32 t.p]) ?_ rfl ⟨rfl, (((Below.refl w.heap.size w).alloc (Nat.le_refl _) _).alloc (by simp) _).alloc (by simp; omega) _⟩
  simp only [results, hres]
  go_simp
theorem szE_any (a : Option Addr) (n cap : Nat) (w : World) (hn : n ≤ 9223372036854775807) : Calls Try.prog 26 #[.slice a n cap, .int .i64 1048576] w fun e w' => e = .returned (.int .i64 (if n ≤ 1048576 then 1048576 - (n : Int) else -1)) ∧ w = w' := by
  by_cases h : n ≤ 1048576
  · rw [if_pos h]
    have h2 : ¬ (1048576 - (n : Int) < 0) := by omega
    have hw : wrap64 (1048576 - (n : Int)) = 1048576 - (n : Int) := by unfold wrap64; omega
    go_enter Try.func26, Try.ntmps26
    go_wp2
    go_ret
    exact ⟨rfl, rfl⟩
  · rw [if_neg h]
    have h2 : (1048576 - (n : Int) < 0) := by omega
    have hw : wrap64 (1048576 - (n : Int)) = 1048576 - (n : Int) := by unfold wrap64; omega
    go_enter Try.func26, Try.ntmps26
    go_wp2
    go_ret
    exact ⟨rfl, rfl⟩
theorem eqE1_any (t : El) (ht : t.ok) (w : World) : Calls Try.prog 69 #[t.val, t.val] w fun e w' => e = .returned (.bool true) ∧ Below w.heap.size w w' := by
  have i1 := ht.iN; have i2 := ht.iP
  unfold El.val
  have HB0 := Lib.hid (((Below.refl w.heap.size w).alloc (Nat.le_refl _) (.cells #[.int .i64 t.k, .float .f32 t.n, .float .f32 t.p] 67)).alloc (by simp) (.cells #[.int .i64 t.k, .float .f32 t.n, .float .f32 t.p] 67))
  go_enter Try.func69, Try.ntmps69
  go_wp2_with (first | (apply wpList_wid; rfl; rfl; (first | with_reducible assumption | exact Is.const rfl); exact U32; exact U64; intro r n hr) | (go_at_call 18; ((with_reducible refine (sameFloat_any _ _ _ (by assumption) (by assumption) _).mono ?_); rintro e w' ⟨rfl, n, rfl⟩)))
  go_ret
  exact ⟨rfl, below_drewN HB0.out _⟩

theorem es_len {w : World} {v : Value} {xs : List El} (h : ES w v xs) : xs.length ≤ 9223372036854775807 := by
  obtain ⟨a, cap, _, h1, h2, _⟩ := h
  unfold maxLen at h2
  omega
/-- An element of what came in, in a world in which what lay there has not turned. -/
theorem ES.at {w w' : World} {a : Option Addr} {n c : Nat} {xs : List El} (h : ES w (.slice a n c) xs) (hb : Below w.heap.size w w') {i : Nat} (hi : i < xs.length) :
    ∃ b o, a = some ⟨b, o, none⟩ ∧ w'.cell? ⟨b, o + i * 3, none⟩ = some (.int .i64 xs[i].k) ∧ w'.cell? ⟨b, o + i * 3 + 1, none⟩ = some (.float .f32 xs[i].n) ∧ w'.cell? ⟨b, o + i * 3 + 2, none⟩ = some (.float .f32 xs[i].p) := by
  obtain ⟨a', cap, hv, _, _, _, hm⟩ := h
  rcases hm with rfl | ⟨b, off, rfl, hlt, hc⟩
  · simp at hi
  · simp only [Value.slice.injEq] at hv
    refine ⟨b, off, hv.1, ?_⟩
    rw [hb.cell (p := ⟨b, off + i * 3, none⟩) hlt, hb.cell (p := ⟨b, off + i * 3 + 1, none⟩) hlt, hb.cell (p := ⟨b, off + i * 3 + 2, none⟩) hlt]
    exact hc i hi

set_option maxHeartbeats 1000000 in
set_option maxRecDepth 100000 in
theorem toES_any (v : Value) (ts : List El) (w : World) (hv : ES w v ts) (hn : ts.length ≤ 1048576) : Calls Try.prog 28 #[v] w fun e w' =>
    (∃ g, e = .returned (.slice (some ⟨g, 0, none⟩) ts.length ts.length) ∧ EOwn w.heap.size w' (.slice (some ⟨g, 0, none⟩) ts.length ts.length) ts) ∧ Below w.heap.size w w' := by
  have HV := Lib.hid hv
  obtain ⟨a, cap, rfl, hlc, hcm, hwf, hmem⟩ := hv
  unfold maxLen at hcm
  obtain ⟨i0, hi, hz0, hz1, hz2⟩ := info_parts Einfo
  have hb4 : i0.bytes * ts.length ≤ 281474976710656 := by rw [hz2]; omega
  have hml : ts.length ≤ maxLen := by unfold maxLen; omega
  have HI := Lib.hid hi; have HZ0 := Lib.hid hz0; have HZ1 := Lib.hid hz1
  clear hi hz0 hz1 hz2 hmem hwf
  go_enter Try.func28, Try.ntmps28
  go_wp2_with (at_make; refine wpList_make_full _ rfl _ _ 37 rfl w.heap.size 67 i0 (.agg #[.int .i64 0, .float .f32 0, .float .f32 0]) 3 Try.underlying37 HI.out HZ0.out HZ1.out _ _ _ _ ts.length rfl rfl rfl rfl hb4 hml (Nat.le_refl _) ?_; intro w4 hown hgrow)
  rw [cells3_zero] at hown
  have HO0 := Lib.hid (show EOwn w.heap.size w4 (.slice (some ⟨w.heap.size, 0, none⟩) ts.length ts.length) (cpE ts 0) by unfold EOwn; rw [cpE_zero, List.length_replicate]; exact hown)
  have HB0 := Lib.hid ((Below.refl w.heap.size w).grown hgrow (Nat.le_refl _) (fun k h => by cases h))
  clear hown hgrow hb4 hml HI HZ0 HZ1
  go_loopw [4] (fun i wr => ∃ k : Nat, k ≤ ts.length ∧ i = .int .i64 k ∧ Hid (Below w.heap.size w wr) ∧ Hid (EOwn w.heap.size wr (.slice (some ⟨w.heap.size, 0, none⟩) ts.length ts.length) (cpE ts k))) (fun i _ => ts.length - (intOf i).toNat)
  case atStart => exact ⟨0, Nat.zero_le _, rfl, HB0, HO0⟩
  case round =>
    clear HB0 HO0
    obtain ⟨k, hk, rfl, HB, HR⟩ := hrel
    by_cases hlt : k < ts.length
    · obtain ⟨b, o, rfl, c0, c1, c2⟩ := HV.out.at HB.out hlt
      have HS := Lib.hid (cpE_set ts hlt)
      have HLT := Lib.hid (show k < (cpE ts k).length by rw [cpE_len ts (by omega)]; exact hlt)
      generalize ts[k] = t at c0 c1 c2 HS
      go_wp2_with fail
      refine (toE_any t _).mono ?_
      rintro e w5 ⟨rfl, hb5⟩
      have HB5 := Lib.hid (HB.out.trans (hb5.mono HB.out.size))
      have HR5 := Lib.hid (e_below HR.out hb5)
      clear hb5 c0 c1 c2
      obtain ⟨⟨d0, d1, d2⟩, ⟨f0, f1, f2⟩⟩ := e_cells HR5.out HLT.out
      have HST := Lib.hid (e_set HR5.out HLT.out t)
      unfold El.val
      go_wp2_with fail
      go_roundw
      case rel => exact ⟨k + 1, by omega, by go_num, Lib.hid (((HB5.out.setCell (p := ⟨w.heap.size, k * 3, none⟩) (Nat.le_refl _) _).setCell (p := ⟨w.heap.size, k * 3 + 1, none⟩) (Nat.le_refl _) _).setCell (p := ⟨w.heap.size, k * 3 + 2, none⟩) (Nat.le_refl _) _), Lib.hid (by have h1 := HST.out.1; rw [HS.out] at h1; exact h1)⟩
      case measure => simp [intOf]; omega
    · obtain rfl : k = ts.length := by omega
      clear hlt
      have HR2 := HR.out
      rw [cpE_all] at HR2
      have HR3 := Lib.hid HR2
      clear HR2
      go_wp2
      go_ret
      exact ⟨⟨_, rfl, HR3.out⟩, HB.out⟩

set_option maxHeartbeats 2000000 in
set_option maxRecDepth 100000 in
theorem eqES_any (B B' : Nat) (v v' : Value) (ts : List El) (w : World) (hv : EOwn B w v ts) (hv' : EOwn B' w v' ts) (h : oksE ts) (hn : ts.length ≤ 1048576) :
    Calls Try.prog 30 #[v, v'] w fun e w' => e = .returned (.bool true) ∧ Below w.heap.size w w' := by
  obtain ⟨a, cap, rfl, hf⟩ := e_form hv
  obtain ⟨a', cap', rfl, hf'⟩ := e_form hv'
  have hcm := e_cap hv; have hcm' := e_cap hv'
  unfold maxLen at hcm hcm'
  have HU := Lib.hid hv; have HV := Lib.hid hv'; have HO := Lib.hid h
  clear hv hv' h
  go_enter Try.func30, Try.ntmps30
  go_wp2
  go_loopw [5] (fun i wr => ∃ k : Nat, k ≤ ts.length ∧ i = .int .i64 k ∧ Below w.heap.size w wr) (fun i _ => ts.length - (intOf i).toNat)
  case atStart => exact ⟨0, Nat.zero_le _, rfl, Below.refl _ _⟩
  case round =>
    obtain ⟨k, hk, rfl, hb⟩ := hrel
    by_cases hlt : k < ts.length
    · rcases hf with hf | ⟨g, rfl, _, hg⟩
      · subst hf; simp at hlt
      rcases hf' with hf' | ⟨g', rfl, _, hg'⟩
      · subst hf'; simp at hlt
      have HT := Lib.hid (oksE_at HO.out hlt)
      have HE := Lib.hid (fun w2 (h2 : Below w.heap.size w w2) => (e_cells (e_below HU.out h2) hlt).1)
      have HE' := Lib.hid (fun w2 (h2 : Below w.heap.size w w2) => (e_cells (e_below HV.out h2) hlt).1)
      generalize ts[k] = t at HE HE' HT
      have hd := (Below.refl wr.heap.size wr).drew
      have HC := Lib.hid (show ∀ w2, Below wr.heap.size wr w2 → (w2.cell? ⟨g, k * 3, none⟩ = some (.int .i64 t.k) ∧ w2.cell? ⟨g, k * 3 + 1, none⟩ = some (.float .f32 t.n) ∧ w2.cell? ⟨g, k * 3 + 2, none⟩ = some (.float .f32 t.p)) ∧
          w2.cell? ⟨g', k * 3, none⟩ = some (.int .i64 t.k) ∧ w2.cell? ⟨g', k * 3 + 1, none⟩ = some (.float .f32 t.n) ∧ w2.cell? ⟨g', k * 3 + 2, none⟩ = some (.float .f32 t.p) from fun w2 h2 =>
        ⟨HE.out w2 (hb.trans (h2.mono hb.size)), HE'.out w2 (hb.trans (h2.mono hb.size))⟩)
      have HB := Lib.hid hb
      clear hb
      go_wp2_with fail
      refine wp_region_noPanic ?_
      refine wp_region_held_drew (S := fun w2 => (w2.cell? ⟨g, k * 3, none⟩ = some (.int .i64 t.k) ∧ w2.cell? ⟨g, k * 3 + 1, none⟩ = some (.float .f32 t.n) ∧ w2.cell? ⟨g, k * 3 + 2, none⟩ = some (.float .f32 t.p)) ∧
          w2.cell? ⟨g', k * 3, none⟩ = some (.int .i64 t.k) ∧ w2.cell? ⟨g', k * 3 + 1, none⟩ = some (.float .f32 t.n) ∧ w2.cell? ⟨g', k * 3 + 2, none⟩ = some (.float .f32 t.p)) (by kernel_rfl) (HC.out _ hd) (fun hHeld => ?_)
      ((refine wpAnyH_take (i := 0) (v := ?_) rfl (by kernel_rfl) (by kernel_rfl) (by kernel_rfl) (fun _ _ _ h => h) (Or.inl ⟨by rfl, ?_⟩) (by assumption) ?_; rotate_left; (· intro w hSw; (try dsimp only at hSw); go_simp; first | done | with_reducible rfl); (try simp only [List.getElem_toArray, List.getElem_cons_zero, List.getElem_cons_succ, Act.put, List.setIfInBounds_toArray, List.set_cons_zero, List.set_cons_succ])); (refine wpAnyH_take (i := 1) (v := ?_) rfl (by kernel_rfl) (by kernel_rfl) (by kernel_rfl) (fun _ _ _ h => h) (Or.inl ⟨by rfl, ?_⟩) (by assumption) ?_; rotate_left; (· intro w hSw; (try dsimp only at hSw); go_simp; first | done | with_reducible rfl); (try simp only [List.getElem_toArray, List.getElem_cons_zero, List.getElem_cons_succ, Act.put, List.setIfInBounds_toArray, List.set_cons_zero, List.set_cons_succ])); (refine wpAnyH_take (i := 2) (v := ?_) rfl (by kernel_rfl) (by kernel_rfl) (by kernel_rfl) (fun _ _ _ h => h) (Or.inl ⟨by rfl, ?_⟩) (by assumption) ?_; rotate_left; (· intro w hSw; (try dsimp only at hSw); go_simp; first | done | with_reducible rfl); (try simp only [List.getElem_toArray, List.getElem_cons_zero, List.getElem_cons_succ, Act.put, List.setIfInBounds_toArray, List.set_cons_zero, List.set_cons_succ])); (refine wpAnyH_take (i := 3) (v := ?_) rfl (by kernel_rfl) (by kernel_rfl) (by kernel_rfl) (fun _ _ _ h => h) (Or.inl ⟨by rfl, ?_⟩) (by assumption) ?_; rotate_left; (· intro w hSw; (try dsimp only at hSw); go_simp; first | done | with_reducible rfl); (try simp only [List.getElem_toArray, List.getElem_cons_zero, List.getElem_cons_succ, Act.put, List.setIfInBounds_toArray, List.set_cons_zero, List.set_cons_succ])); (refine wpAnyH_take (i := 4) (v := ?_) rfl (by kernel_rfl) (by kernel_rfl) (by kernel_rfl) (fun _ _ _ h => h) (Or.inl ⟨by rfl, ?_⟩) (by assumption) ?_; rotate_left; (· intro w hSw; (try dsimp only at hSw); go_simp; first | done | with_reducible rfl); (try simp only [List.getElem_toArray, List.getElem_cons_zero, List.getElem_cons_succ, Act.put, List.setIfInBounds_toArray, List.set_cons_zero, List.set_cons_succ])); (refine wpAnyH_take (i := 5) (v := ?_) rfl (by kernel_rfl) (by kernel_rfl) (by kernel_rfl) (fun _ _ _ h => h) (Or.inl ⟨by rfl, ?_⟩) (by assumption) ?_; rotate_left; (· intro w hSw; (try dsimp only at hSw); go_simp; first | done | with_reducible rfl); (try simp only [List.getElem_toArray, List.getElem_cons_zero, List.getElem_cons_succ, Act.put, List.setIfInBounds_toArray, List.set_cons_zero, List.set_cons_succ])); (refine wpAnyH_take (i := 6) (v := ?_) rfl (by kernel_rfl) (by kernel_rfl) (by kernel_rfl) (fun _ _ _ h => h) (Or.inl ⟨by rfl, ?_⟩) (by assumption) ?_; rotate_left; (· intro w hSw; (try dsimp only at hSw); go_simp; first | done | with_reducible rfl); (try simp only [List.getElem_toArray, List.getElem_cons_zero, List.getElem_cons_succ, Act.put, List.setIfInBounds_toArray, List.set_cons_zero, List.set_cons_succ])); (refine wpAnyH_take (i := 7) (v := ?_) rfl (by kernel_rfl) (by kernel_rfl) (by kernel_rfl) (fun _ _ _ h => h) (Or.inl ⟨by rfl, ?_⟩) (by assumption) ?_; rotate_left; (· intro w hSw; (try dsimp only at hSw); go_simp; first | done | with_reducible rfl); (try simp only [List.getElem_toArray, List.getElem_cons_zero, List.getElem_cons_succ, Act.put, List.setIfInBounds_toArray, List.set_cons_zero, List.set_cons_succ])))
      (refine wpAnyH_ready (rs := [8]) (by kernel_rfl) (by simp) ?_; refine AllReadyH.cons (i := 8) rfl (fun K hK => ?_) AllReadyH.nil)
      go_simp
      refine (eqE1_any t HT.out _).mono ?_; rintro e w3 ⟨rfl, h3⟩
      have HD3 := Lib.hid (hd.trans (h3.mono hd.size))
      clear h3 hd
      go_wp2_with fail
      (refine hK.out _ _ (HC.out _ HD3.out) (fun hHeld => ?_); clear hK K; (try simp only [List.getElem_toArray, List.getElem_cons_zero, List.getElem_cons_succ, Act.put, List.setIfInBounds_toArray, List.set_cons_zero, List.set_cons_succ]))
      ((refine wpAnyH_take (i := 9) (v := ?_) rfl (by kernel_rfl) (by kernel_rfl) (by kernel_rfl) (fun _ _ _ h => h) (Or.inl ⟨by rfl, ?_⟩) (by assumption) ?_; rotate_left; (· intro w hSw; (try dsimp only at hSw); go_simp; first | done | with_reducible rfl); (try simp only [List.getElem_toArray, List.getElem_cons_zero, List.getElem_cons_succ, Act.put, List.setIfInBounds_toArray, List.set_cons_zero, List.set_cons_succ])))
      (refine wpAnyH_done (by kernel_rfl) ?_ _; refine NoPanic.normal ?_)
      clear hHeld
      go_wp2_with fail
      go_roundw
      case rel => exact ⟨k + 1, by omega, by go_num, HB.out.trans (HD3.out.mono HB.out.size)⟩
      case measure => simp [intOf]; omega
    · obtain rfl : k = ts.length := by omega
      clear hlt
      go_wp2
      go_ret
      exact ⟨rfl, hb⟩

/-- The k-th three marks. -/
def EM (k : Nat) : El := ⟨3 * (k : Int) + 1, floatOfInt .f32 (3 * (k : Int) + 1 + 1), floatOfInt .f32 (3 * (k : Int) + 1 + 1 + 1)⟩
def marksE (n : Nat) : List El := (List.range n).map EM
theorem marksE_len (n : Nat) : (marksE n).length = n := by simp [marksE]
theorem marksE_at (n k : Nat) (h : k < n) : (marksE n)[k]'(by rw [marksE_len]; exact h) = EM k := by simp [marksE]
theorem marksE_all (xs : List El) (n : Nat) (hn : xs.length = n) (h : ∀ i (hi : i < xs.length), xs[i] = EM i) : xs = marksE n := by
  refine List.ext_getElem (by rw [marksE_len, hn]) fun i h1 h2 => ?_
  rw [marksE_at n i (by omega)]; exact h i h1
set_option maxHeartbeats 4000000 in
set_option maxRecDepth 100000 in
theorem markES_any (B : Nat) (v : Value) (xs : List El) (w : World) (hv : EOwn B w v xs) (hn : xs.length ≤ 1048576) :
    Calls Try.prog 33 #[v, .int .i64 1] w fun e w' => e = .returned (.int .i64 (3 * (xs.length : Int) + 1)) ∧ EOwn B w' v (marksE xs.length) ∧ w.grownBy w' v.ownBlock := by
  obtain ⟨a, cap, rfl, hf⟩ := e_form hv
  have HV := Lib.hid hv
  clear hv
  go_enter Try.func33, Try.ntmps33
  go_wp2
  go_loopw [1, 5] (fun m i wr => ∃ k : Nat, k ≤ xs.length ∧ m = .int .i64 (3 * (k : Int) + 1) ∧ i = .int .i64 (k : Int) ∧ Hid (w.grownBy wr (Value.slice a xs.length cap).ownBlock) ∧ ∃ ys : List El, ys.length = xs.length ∧ Hid (∀ i (h : i < ys.length), i < k → ys[i] = EM i) ∧ Hid (EOwn B wr (.slice a xs.length cap) ys)) (fun _ i _ => xs.length - (intOf i).toNat)
  case atStart => exact ⟨0, Nat.zero_le _, rfl, rfl, Lib.hid (grown_refl _ _), xs, rfl, Lib.hid (fun i _ h => absurd h (Nat.not_lt_zero _)), HV⟩
  case round =>
    obtain ⟨k, hk, rfl, rfl, HG, ys, hyl, HM, HO⟩ := hrel
    by_cases hlt : k < xs.length
    · rcases hf with hf | ⟨g, rfl, _, _⟩
      · subst hf; simp at hlt
      have HLT := Lib.hid (show k < ys.length by omega)
      obtain ⟨⟨d0, d1, d2⟩, ⟨f0, f1, f2⟩⟩ := e_cells HO.out HLT.out
      have HST := Lib.hid (e_set HO.out HLT.out (EM k))
      have HYL := Lib.hid hyl
      clear hyl
      go_wp2
      go_roundw
      case rel => exact ⟨k + 1, by omega, by go_num <;> (first | done | omega), by go_num, Lib.hid (grown_trans HG.out HST.out.2), ys.set k (EM k), by rw [List.length_set]; exact HYL.out, Lib.hid (fun i h hi => by
        rw [List.length_set] at h
        by_cases e : i = k
        · subst e; exact List.getElem_set_self _
        · rw [List.getElem_set_ne (Ne.symm e)]; exact HM.out i h (by omega)), Lib.hid HST.out.1⟩
      case measure => simp [intOf]; omega
    · obtain rfl : k = xs.length := by omega
      have hys : ys = marksE xs.length := marksE_all ys _ hyl (fun i hi => HM.out i hi (by omega))
      subst hys
      clear hlt
      go_wp2
      go_ret
      exact ⟨rfl, HO.out, HG.out⟩
theorem neq_selfE (m : Int) : fcmp .neq .f32 (floatOfInt .f32 m) (floatOfInt .f32 m) = false := by rw [fcmp_neq_self]; exact word32_nan _
set_option maxHeartbeats 4000000 in
set_option maxRecDepth 100000 in
theorem heldES_any (B : Nat) (v : Value) (n : Nat) (w : World) (hv : EOwn B w v (marksE n)) (hn : n ≤ 1048576) :
    Calls Try.prog 34 #[v, .int .i64 1] w fun e w' => e = .returned (.int .i64 (3 * (n : Int) + 1)) ∧ ∃ m, w' = w.drewN m := by
  obtain ⟨a, cap, rfl, hf⟩ := e_form hv
  have HV := Lib.hid hv
  rw [marksE_len]
  clear hv
  go_enter Try.func34, Try.ntmps34
  go_wp2
  go_loopw [1, 5] (fun m i wr => ∃ k : Nat, k ≤ n ∧ m = .int .i64 (3 * (k : Int) + 1) ∧ i = .int .i64 (k : Int) ∧ ∃ j, wr = w.drewN j) (fun _ i _ => n - (intOf i).toNat)
  case atStart => exact ⟨0, Nat.zero_le _, rfl, rfl, 0, rfl⟩
  case round =>
    obtain ⟨k, hk, rfl, rfl, j, rfl⟩ := hrel
    by_cases hlt : k < n
    · rcases hf with hf | ⟨g, rfl, _, _⟩
      · have := congrArg List.length hf; rw [marksE_len] at this; simp at this; omega
      have HLT := Lib.hid (show k < (marksE n).length by rw [marksE_len]; exact hlt)
      obtain ⟨⟨d0, d1, d2⟩, _⟩ := e_cells HV.out HLT.out
      rw [marksE_at n k hlt] at d0 d1 d2
      unfold EM at d0 d1 d2
      dsimp only at d0 d1 d2
      have i3 := word32_is (3 * (k : Int) + 1 + 1); have i4 := word32_is (3 * (k : Int) + 1 + 1 + 1)
      have n3 := neq_selfE (3 * (k : Int) + 1 + 1); have n4 := neq_selfE (3 * (k : Int) + 1 + 1 + 1)
      go_wp2_with (first | (apply wpList_fcmp; rfl; rfl; rfl; rfl; (first | with_reducible assumption | exact Is.const rfl); (first | with_reducible assumption | exact Is.const rfl); (first | with_reducible assumption | exact rfl)) | ((with_reducible apply Loose.wp_start); kernel_rfl; kernel_rfl) | ((with_reducible apply Loose.start_cons)) | ((with_reducible apply Loose.start_nil)) | ((with_reducible apply Loose.walk_nil); intro n) | ((with_reducible apply Loose.walk_skip); exact rfl; (go_simp; first | done | exact rfl)) | ((with_reducible apply Loose.step_fc); rfl; rfl; rfl; rfl; (first | with_reducible assumption | exact Is.const rfl); (first | with_reducible assumption | exact Is.const rfl); (first | with_reducible assumption | exact rfl); exact rfl; (go_simp; first | done | exact rfl)) | ((with_reducible apply Loose.step_fa); rfl; rfl; rfl; rfl; (first | with_reducible assumption | exact Is.const rfl); (first | with_reducible assumption | exact Is.const rfl); exact rfl; (intro r; go_simp; first | done | exact rfl); intro r hr) | ((with_reducible apply Loose.step_wid); rfl; rfl; (first | with_reducible assumption | exact Is.const rfl); exact U32; exact U64; exact rfl; (intro r; go_simp; first | done | exact rfl); intro r hr) | ((with_reducible apply Loose.step_nar); rfl; rfl; (first | with_reducible assumption | exact Is.const rfl); exact U64; exact U32; (with_reducible assumption); exact rfl; (intro r; go_simp; first | done | exact rfl); intro r hr) | ((with_reducible apply Loose.step_assign); rfl; rfl; (with_reducible assumption); exact rfl; (intro r; go_simp; first | done | exact rfl); intro r hr) | ((with_reducible apply Loose.step_move); rfl; rfl; (with_reducible assumption); exact rfl; (intro r; go_simp; first | done | exact rfl); intro r hr) | ((with_reducible apply Loose.step_same); rfl; rfl; exact U32; exact U32; (first | with_reducible assumption | exact Is.const rfl); exact rfl; (intro r; go_simp; first | done | exact rfl); intro r hr) | ((with_reducible apply Loose.step_same); rfl; rfl; exact U64; exact U64; (first | with_reducible assumption | exact Is.const rfl); exact rfl; (intro r; go_simp; first | done | exact rfl); intro r hr) | ((with_reducible apply Loose.step_eq); rfl; (intro n; go_simp; first | done | exact rfl); exact rfl; (go_simp; first | done | exact rfl)))
      go_roundw
      case rel => exact ⟨k + 1, by omega, by go_num <;> (first | done | omega), by go_num, _, rfl⟩
      case measure => simp [intOf]; omega
    · obtain rfl : k = n := by omega
      clear hlt
      go_wp2
      go_ret
      exact ⟨rfl, _, rfl⟩
end Go.Proofs.Ytpnmledanloboaa
