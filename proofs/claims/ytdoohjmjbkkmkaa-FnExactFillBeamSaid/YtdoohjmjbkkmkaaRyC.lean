/-
  Rays: the laws' comparisons and marks.
-/
import Derived.Test.YtdoohjmjbkkmkaaRy
import Derived.Test.YtdoohjmjbkkmkaaFC
import Derived.Test.YtdoohjmjbkkmkaaClM
import Derived.Laws.CopyOwn
namespace Go.Proofs.Ytdoohjmjbkkmkaa
open Go.Fl Go.RowKit
set_option linter.unusedSimpArgs false
set_option linter.unusedVariables false

theorem Ryinfo : (Try.prog.info? 61).map (fun i => (i.zero, i.size, i.bytes)) = some (some (.agg #[.complex .f32 0 0, .float .f32 0, .float .f32 0]), 3, 16) := by kernel_rfl
def ZRy : Ry := ⟨0, 0, 0, 0⟩
theorem cellsR_zero (n : Nat) : (madeCells (Value.agg #[.complex .f32 0 0, .float .f32 0, .float .f32 0]).cells (n * 3)).toList = cellsR (List.replicate n ZRy) := by
  apply List.ext_getElem?
  intro j
  by_cases hj : j < n * 3
  · have h1 : (cellsR (List.replicate n ZRy))[j]? = (ZRy.cs)[j % 3]? := by
      have := cellsR_at (ts := List.replicate n ZRy) (k := j / 3) (by simp; omega) (j % 3) (by omega)
      rw [show 3 * (j / 3) + j % 3 = j by omega] at this
      rw [this, List.getElem_replicate]
    rw [h1]
    have h2 : j % 3 = 0 ∨ j % 3 = 1 ∨ j % 3 = 2 := by omega
    rcases h2 with h | h | h <;> simp [madeCells, hj, Value.cells, h, ZRy, Ry.cs]
  · rw [List.getElem?_eq_none (by simp [madeCells]; omega), List.getElem?_eq_none (by rw [cellsR_len]; simp; omega)]
set_option maxHeartbeats 1000000 in
theorem eqRy1_any (t u k : Ry) (ht : Ry.is t k) (hu : Ry.is u k) (w : World) : Calls Try.prog 86 #[t.val, u.val] w fun e w' => e = .returned (.bool true) ∧ Below w.heap.size w w' := by
  obtain ⟨ix, iy, ip, ie⟩ := ht
  obtain ⟨jx, jy, jp, je⟩ := hu
  unfold Ry.val
  have HB0 := Lib.hid (((Below.refl w.heap.size w).alloc (Nat.le_refl _) (.cells #[.complex .f32 t.x t.y, .float .f32 t.p, .float .f32 t.e] 61)).alloc (by simp) (.cells #[.complex .f32 u.x u.y, .float .f32 u.p, .float .f32 u.e] 61))
  go_enter Try.func86, Try.ntmps86
  go_wp2_with (first | (apply wpList_cwid; rfl; rfl; (first | with_reducible assumption | exact Is.const rfl); (first | with_reducible assumption | exact Is.const rfl); exact C32; exact C64; intro r s n hr hs) | (apply wpList_wid; rfl; rfl; (first | with_reducible assumption | exact Is.const rfl); exact U32; exact U64; intro r n hr) | (go_at_call 119; ((with_reducible refine (sameC_any _ _ _ _ _ _ (by assumption) (by assumption) (by assumption) (by assumption) _).mono ?_); rintro e w' ⟨rfl, n, rfl⟩)) | (go_at_call 18; ((with_reducible refine (sameFloat_any _ _ _ (by assumption) (by assumption) _).mono ?_); rintro e w' ⟨rfl, n, rfl⟩)))
  go_ret
  exact ⟨rfl, below_drewN HB0.out _⟩
set_option maxHeartbeats 2000000 in
set_option maxRecDepth 100000 in
theorem eqRyS_any (B B' : Nat) (v v' : Value) (ts us : List Ry) (K : Nat → Ry) (w : World) (hv : RwOwn B w v ts) (hv' : RwOwn B' w v' us) (hl : ts.length = us.length) (h : EqR ts K) (h' : EqR us K) (hn : ts.length ≤ 1048576) :
    Calls Try.prog 43 #[v, v'] w fun e w' => e = .returned (.bool true) ∧ Below w.heap.size w w' := by
  obtain ⟨a, cap, rfl, hf⟩ := ry_form hv
  obtain ⟨a', cap', rfl, hf'⟩ := ry_form hv'
  have hcm := ry_cap hv; have hcm' := ry_cap hv'
  unfold maxLen at hcm hcm'
  rw [← hl]
  have HU := Lib.hid hv; have HV := Lib.hid hv'; have HO := Lib.hid h; have HO' := Lib.hid h'; have HL := Lib.hid hl
  clear hv hv' h h' hl
  go_enter Try.func43, Try.ntmps43
  go_wp2
  go_loopw [5] (fun i wr => ∃ k : Nat, k ≤ ts.length ∧ i = .int .i64 k ∧ Below w.heap.size w wr) (fun i _ => ts.length - (intOf i).toNat)
  case atStart => exact ⟨0, Nat.zero_le _, rfl, Below.refl _ _⟩
  case round =>
    obtain ⟨k, hk, rfl, hb⟩ := hrel
    by_cases hlt : k < ts.length
    · rcases hf with hf | ⟨g, rfl, _, hg⟩
      · subst hf; simp at hlt
      rcases hf' with hf' | ⟨g', rfl, _, hg'⟩
      · subst hf'; have := HL.out; rw [List.length_nil] at this; omega
      have hlt' : k < us.length := HL.out ▸ hlt
      have HT := Lib.hid (HO.out k hlt); have HT' := Lib.hid (HO'.out k hlt')
      have HV' := Lib.hid (show RwOwn B' w (.slice (some ⟨g', 0, none⟩) us.length cap') us from HV.out)
      have HE := Lib.hid (fun w2 (h2 : Below w.heap.size w w2) => (ry_cells (ry_below HU.out h2) hlt).1)
      have HE' := Lib.hid (fun w2 (h2 : Below w.heap.size w w2) => (ry_cells (ry_below HV'.out h2) hlt').1)
      generalize ts[k] = t at HE HT
      generalize us[k] = u at HE' HT'
      have hd := (Below.refl wr.heap.size wr).drew
      have HC := Lib.hid (show ∀ w2, Below wr.heap.size wr w2 → (w2.cell? ⟨g, k * 3, none⟩ = some (.complex .f32 t.x t.y) ∧ w2.cell? ⟨g, k * 3 + 1, none⟩ = some (.float .f32 t.p) ∧ w2.cell? ⟨g, k * 3 + 2, none⟩ = some (.float .f32 t.e)) ∧
          w2.cell? ⟨g', k * 3, none⟩ = some (.complex .f32 u.x u.y) ∧ w2.cell? ⟨g', k * 3 + 1, none⟩ = some (.float .f32 u.p) ∧ w2.cell? ⟨g', k * 3 + 2, none⟩ = some (.float .f32 u.e) from fun w2 h2 =>
        ⟨HE.out w2 (hb.trans (h2.mono hb.size)), HE'.out w2 (hb.trans (h2.mono hb.size))⟩)
      have HB := Lib.hid hb
      clear hb
      go_wp2_with fail
      refine wp_region_noPanic ?_
      refine wp_region_held_drew (S := fun w2 => (w2.cell? ⟨g, k * 3, none⟩ = some (.complex .f32 t.x t.y) ∧ w2.cell? ⟨g, k * 3 + 1, none⟩ = some (.float .f32 t.p) ∧ w2.cell? ⟨g, k * 3 + 2, none⟩ = some (.float .f32 t.e)) ∧
          w2.cell? ⟨g', k * 3, none⟩ = some (.complex .f32 u.x u.y) ∧ w2.cell? ⟨g', k * 3 + 1, none⟩ = some (.float .f32 u.p) ∧ w2.cell? ⟨g', k * 3 + 2, none⟩ = some (.float .f32 u.e)) (by kernel_rfl) (HC.out _ hd) (fun hHeld => ?_)
      ((refine wpAnyH_take (i := 0) (v := ?_) rfl (by kernel_rfl) (by kernel_rfl) (by kernel_rfl) (fun _ _ _ h => h) (Or.inl ⟨by rfl, ?_⟩) (by assumption) ?_; rotate_left; (· intro w hSw; (try dsimp only at hSw); go_simp; first | done | with_reducible rfl); (try simp only [List.getElem_toArray, List.getElem_cons_zero, List.getElem_cons_succ, Act.put, List.setIfInBounds_toArray, List.set_cons_zero, List.set_cons_succ])); (refine wpAnyH_take (i := 1) (v := ?_) rfl (by kernel_rfl) (by kernel_rfl) (by kernel_rfl) (fun _ _ _ h => h) (Or.inl ⟨by rfl, ?_⟩) (by assumption) ?_; rotate_left; (· intro w hSw; (try dsimp only at hSw); go_simp; first | done | with_reducible rfl); (try simp only [List.getElem_toArray, List.getElem_cons_zero, List.getElem_cons_succ, Act.put, List.setIfInBounds_toArray, List.set_cons_zero, List.set_cons_succ])); (refine wpAnyH_take (i := 2) (v := ?_) rfl (by kernel_rfl) (by kernel_rfl) (by kernel_rfl) (fun _ _ _ h => h) (Or.inl ⟨by rfl, ?_⟩) (by assumption) ?_; rotate_left; (· intro w hSw; (try dsimp only at hSw); go_simp; first | done | with_reducible rfl); (try simp only [List.getElem_toArray, List.getElem_cons_zero, List.getElem_cons_succ, Act.put, List.setIfInBounds_toArray, List.set_cons_zero, List.set_cons_succ])); (refine wpAnyH_take (i := 3) (v := ?_) rfl (by kernel_rfl) (by kernel_rfl) (by kernel_rfl) (fun _ _ _ h => h) (Or.inl ⟨by rfl, ?_⟩) (by assumption) ?_; rotate_left; (· intro w hSw; (try dsimp only at hSw); go_simp; first | done | with_reducible rfl); (try simp only [List.getElem_toArray, List.getElem_cons_zero, List.getElem_cons_succ, Act.put, List.setIfInBounds_toArray, List.set_cons_zero, List.set_cons_succ])); (refine wpAnyH_take (i := 4) (v := ?_) rfl (by kernel_rfl) (by kernel_rfl) (by kernel_rfl) (fun _ _ _ h => h) (Or.inl ⟨by rfl, ?_⟩) (by assumption) ?_; rotate_left; (· intro w hSw; (try dsimp only at hSw); go_simp; first | done | with_reducible rfl); (try simp only [List.getElem_toArray, List.getElem_cons_zero, List.getElem_cons_succ, Act.put, List.setIfInBounds_toArray, List.set_cons_zero, List.set_cons_succ])); (refine wpAnyH_take (i := 5) (v := ?_) rfl (by kernel_rfl) (by kernel_rfl) (by kernel_rfl) (fun _ _ _ h => h) (Or.inl ⟨by rfl, ?_⟩) (by assumption) ?_; rotate_left; (· intro w hSw; (try dsimp only at hSw); go_simp; first | done | with_reducible rfl); (try simp only [List.getElem_toArray, List.getElem_cons_zero, List.getElem_cons_succ, Act.put, List.setIfInBounds_toArray, List.set_cons_zero, List.set_cons_succ])); (refine wpAnyH_take (i := 6) (v := ?_) rfl (by kernel_rfl) (by kernel_rfl) (by kernel_rfl) (fun _ _ _ h => h) (Or.inl ⟨by rfl, ?_⟩) (by assumption) ?_; rotate_left; (· intro w hSw; (try dsimp only at hSw); go_simp; first | done | with_reducible rfl); (try simp only [List.getElem_toArray, List.getElem_cons_zero, List.getElem_cons_succ, Act.put, List.setIfInBounds_toArray, List.set_cons_zero, List.set_cons_succ])); (refine wpAnyH_take (i := 7) (v := ?_) rfl (by kernel_rfl) (by kernel_rfl) (by kernel_rfl) (fun _ _ _ h => h) (Or.inl ⟨by rfl, ?_⟩) (by assumption) ?_; rotate_left; (· intro w hSw; (try dsimp only at hSw); go_simp; first | done | with_reducible rfl); (try simp only [List.getElem_toArray, List.getElem_cons_zero, List.getElem_cons_succ, Act.put, List.setIfInBounds_toArray, List.set_cons_zero, List.set_cons_succ])))
      (refine wpAnyH_ready (rs := [8]) (by kernel_rfl) (by simp) ?_; refine AllReadyH.cons (i := 8) rfl (fun K hK => ?_) AllReadyH.nil)
      go_simp
      refine (eqRy1_any t u _ HT.out HT'.out _).mono ?_; rintro e w3 ⟨rfl, h3⟩
      have HD3 := Lib.hid (hd.trans (h3.mono hd.size))
      clear h3 hd
      go_wp2_with fail
      (refine hK.out _ _ (HC.out _ HD3.out) (fun hHeld => ?_); clear hK K; (try simp only [List.getElem_toArray, List.getElem_cons_zero, List.getElem_cons_succ, Act.put, List.setIfInBounds_toArray, List.set_cons_zero, List.set_cons_succ]))
      ((refine wpAnyH_take (i := 9) (v := ?_) rfl (by kernel_rfl) (by kernel_rfl) (by kernel_rfl) (fun _ _ _ h => h) (Or.inl ⟨by rfl, ?_⟩) (by assumption) ?_; rotate_left; (· intro w hSw; (try dsimp only at hSw); go_simp; first | done | with_reducible rfl); (try simp only [List.getElem_toArray, List.getElem_cons_zero, List.getElem_cons_succ, Act.put, List.setIfInBounds_toArray, List.set_cons_zero, List.set_cons_succ])))
      (refine wpAnyH_done (by kernel_rfl) ?_ _; refine NoPanic.normal ?_)
      clear hHeld
      go_wp2_with fail
      go_roundw
      case rel => exact ⟨k + 1, by omega, by go_num, HB.out.trans (HD3.out.mono HB.out.size)⟩
      case measure => simp [intOf]; omega
    · obtain rfl : k = ts.length := by omega
      clear hlt
      go_wp2
      go_ret
      exact ⟨rfl, hb⟩

theorem conv_ray : ∀ i : Fin 256, cConvBits .f64 (floatOfInt .f64 (3 * (i.val : Int) + 1)) 4607182418800017408 .f32 = some (floatOfInt .f32 (3 * (i.val : Int) + 1), 1065353216) := by decide +kernel
theorem conv_runR (k : Nat) (hk : k < 256) (w : World) : (convert 108 59 (.complex .f64 (floatOfInt .f64 (3 * (k : Int) + 1)) 4607182418800017408)).run Try.prog w = .ok (.complex .f32 (floatOfInt .f32 (3 * (k : Int) + 1)) 1065353216) w :=
  run_convert_complex w _ _ _ _ _ _ _ _ (by rw [C64]; rfl) C32 (conv_ray ⟨k, hk⟩)
/-- The k-th marks. -/
def RM (k : Nat) : Ry := ⟨floatOfInt .f32 (3 * (k : Int) + 1), 1065353216, floatOfInt .f32 (3 * (k : Int) + 1 + 1), floatOfInt .f32 (3 * (k : Int) + 1 + 1 + 1)⟩
def marksRy (n : Nat) : List Ry := (List.range n).map RM
theorem marksRy_len (n : Nat) : (marksRy n).length = n := by simp [marksRy]
theorem marksRy_at (n k : Nat) (h : k < n) : (marksRy n)[k]'(by rw [marksRy_len]; exact h) = RM k := by simp [marksRy]
theorem marksRy_all (xs : List Ry) (n : Nat) (hn : xs.length = n) (h : ∀ i (hi : i < xs.length), xs[i] = RM i) : xs = marksRy n := by
  refine List.ext_getElem (by rw [marksRy_len, hn]) fun i h1 h2 => ?_
  rw [marksRy_at n i (by omega)]; exact h i h1
set_option maxHeartbeats 4000000 in
set_option maxRecDepth 100000 in
theorem markRyS_any (B : Nat) (v : Value) (xs : List Ry) (w : World) (hv : RwOwn B w v xs) (hn : xs.length ≤ 256) :
    Calls Try.prog 44 #[v, .int .i64 1] w fun e w' => e = .returned (.int .i64 (3 * (xs.length : Int) + 1)) ∧ RwOwn B w' v (marksRy xs.length) ∧ w.grownBy w' v.ownBlock := by
  obtain ⟨a, cap, rfl, hf⟩ := ry_form hv
  have HV := Lib.hid hv
  clear hv
  go_enter Try.func44, Try.ntmps44
  go_wp2
  go_loopw [1, 5] (fun m i wr => ∃ k : Nat, k ≤ xs.length ∧ m = .int .i64 (3 * (k : Int) + 1) ∧ i = .int .i64 (k : Int) ∧ Hid (w.grownBy wr (Value.slice a xs.length cap).ownBlock) ∧ ∃ ys : List Ry, ys.length = xs.length ∧ Hid (∀ i (h : i < ys.length), i < k → ys[i] = RM i) ∧ Hid (RwOwn B wr (.slice a xs.length cap) ys)) (fun _ i _ => xs.length - (intOf i).toNat)
  case atStart => exact ⟨0, Nat.zero_le _, rfl, rfl, Lib.hid (grown_refl _ _), xs, rfl, Lib.hid (fun i _ h => absurd h (Nat.not_lt_zero _)), HV⟩
  case round =>
    obtain ⟨k, hk, rfl, rfl, HG, ys, hyl, HM, HO⟩ := hrel
    by_cases hlt : k < xs.length
    · rcases hf with hf | ⟨g, rfl, _, _⟩
      · subst hf; simp at hlt
      have HLT := Lib.hid (show k < ys.length by omega)
      obtain ⟨⟨d0, d1, d2⟩, ⟨f0, f1, f2⟩⟩ := ry_cells HO.out HLT.out
      have HST := Lib.hid (ry_set HO.out HLT.out (RM k))
      have HYL := Lib.hid hyl
      have hcv := fun w => conv_runR k (by omega) w
      clear hyl
      go_wp2
      go_roundw
      case rel => exact ⟨k + 1, by omega, by go_num <;> (first | done | omega), by go_num, Lib.hid (grown_trans HG.out HST.out.2), ys.set k (RM k), by rw [List.length_set]; exact HYL.out, Lib.hid (fun i h hi => by
        rw [List.length_set] at h
        by_cases e : i = k
        · subst e; exact List.getElem_set_self _
        · rw [List.getElem_set_ne (Ne.symm e)]; exact HM.out i h (by omega)), Lib.hid HST.out.1⟩
      case measure => simp [intOf]; omega
    · obtain rfl : k = xs.length := by omega
      have hys : ys = marksRy xs.length := marksRy_all ys _ hyl (fun i hi => HM.out i hi (by omega))
      subst hys
      clear hlt
      go_wp2
      go_ret
      exact ⟨rfl, HO.out, HG.out⟩
theorem neq_selfR (m : Int) : fcmp .neq .f32 (floatOfInt .f32 m) (floatOfInt .f32 m) = false := by rw [fcmp_neq_self]; exact word32_nan _
set_option maxHeartbeats 4000000 in
set_option maxRecDepth 100000 in
theorem heldRyS_any (B : Nat) (v : Value) (n : Nat) (w : World) (hv : RwOwn B w v (marksRy n)) (hn : n ≤ 256) :
    Calls Try.prog 45 #[v, .int .i64 1] w fun e w' => e = .returned (.int .i64 (3 * (n : Int) + 1)) ∧ ∃ m, w' = w.drewN m := by
  obtain ⟨a, cap, rfl, hf⟩ := ry_form hv
  have HV := Lib.hid hv
  rw [marksRy_len]
  clear hv
  go_enter Try.func45, Try.ntmps45
  go_wp2
  go_loopw [1, 5] (fun m i wr => ∃ k : Nat, k ≤ n ∧ m = .int .i64 (3 * (k : Int) + 1) ∧ i = .int .i64 (k : Int) ∧ ∃ j, wr = w.drewN j) (fun _ i _ => n - (intOf i).toNat)
  case atStart => exact ⟨0, Nat.zero_le _, rfl, rfl, 0, rfl⟩
  case round =>
    obtain ⟨k, hk, rfl, rfl, j, rfl⟩ := hrel
    by_cases hlt : k < n
    · rcases hf with hf | ⟨g, rfl, _, _⟩
      · have := congrArg List.length hf; rw [marksRy_len] at this; simp at this; omega
      have HLT := Lib.hid (show k < (marksRy n).length by rw [marksRy_len]; exact hlt)
      obtain ⟨⟨d0, d1, d2⟩, _⟩ := ry_cells HV.out HLT.out
      rw [marksRy_at n k hlt] at d0 d1 d2
      unfold RM at d0 d1 d2
      dsimp only at d0 d1 d2
      have hcv := fun w => conv_runR k (by omega) w
      have ho1 := ord_self (floatOfInt .f32 (3 * (k : Int) + 1)) (word32_nan _)
      have ho3 := ord_one
      have i3 := word32_is (3 * (k : Int) + 1 + 1); have i4 := word32_is (3 * (k : Int) + 1 + 1 + 1)
      have n3 := neq_selfR (3 * (k : Int) + 1 + 1); have n4 := neq_selfR (3 * (k : Int) + 1 + 1 + 1)
      go_wp2_with (first | (apply wpList_fcmp; rfl; rfl; rfl; rfl; (first | with_reducible assumption | exact Is.const rfl); (first | with_reducible assumption | exact Is.const rfl); (first | with_reducible assumption | exact rfl)) | ((with_reducible apply Loose.wp_start); kernel_rfl; kernel_rfl) | ((with_reducible apply Loose.start_cons)) | ((with_reducible apply Loose.start_nil)) | ((with_reducible apply Loose.walk_nil); intro n) | ((with_reducible apply Loose.walk_skip); exact rfl; (go_simp; first | done | exact rfl)) | ((with_reducible apply Loose.step_fc); rfl; rfl; rfl; rfl; (first | with_reducible assumption | exact Is.const rfl); (first | with_reducible assumption | exact Is.const rfl); (first | with_reducible assumption | exact rfl); exact rfl; (go_simp; first | done | exact rfl)) | ((with_reducible apply Loose.step_fa); rfl; rfl; rfl; rfl; (first | with_reducible assumption | exact Is.const rfl); (first | with_reducible assumption | exact Is.const rfl); exact rfl; (intro r; go_simp; first | done | exact rfl); intro r hr) | ((with_reducible apply Loose.step_wid); rfl; rfl; (first | with_reducible assumption | exact Is.const rfl); exact U32; exact U64; exact rfl; (intro r; go_simp; first | done | exact rfl); intro r hr) | ((with_reducible apply Loose.step_nar); rfl; rfl; (first | with_reducible assumption | exact Is.const rfl); exact U64; exact U32; (with_reducible assumption); exact rfl; (intro r; go_simp; first | done | exact rfl); intro r hr) | ((with_reducible apply Loose.step_assign); rfl; rfl; (with_reducible assumption); exact rfl; (intro r; go_simp; first | done | exact rfl); intro r hr) | ((with_reducible apply Loose.step_move); rfl; rfl; (with_reducible assumption); exact rfl; (intro r; go_simp; first | done | exact rfl); intro r hr) | ((with_reducible apply Loose.step_same); rfl; rfl; exact U32; exact U32; (first | with_reducible assumption | exact Is.const rfl); exact rfl; (intro r; go_simp; first | done | exact rfl); intro r hr) | ((with_reducible apply Loose.step_same); rfl; rfl; exact U64; exact U64; (first | with_reducible assumption | exact Is.const rfl); exact rfl; (intro r; go_simp; first | done | exact rfl); intro r hr) | ((with_reducible apply Loose.step_eq); rfl; (intro n; go_simp; first | done | exact rfl); exact rfl; (go_simp; first | done | exact rfl)))
      go_roundw
      case rel => exact ⟨k + 1, by omega, by go_num <;> (first | done | omega), by go_num, _, rfl⟩
      case measure => simp [intOf]; omega
    · obtain rfl : k = n := by omega
      clear hlt
      go_wp2
      go_ret
      exact ⟨rfl, _, rfl⟩
end Go.Proofs.Ytdoohjmjbkkmkaa
