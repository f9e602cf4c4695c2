/-
  Clouds of streams that are equal to the laws.
-/
import Derived.Test.YtibjajgcfbfppaaStrmY
import Derived.Test.YtibjajgcfbfppaaCl
namespace Go.Proofs.Ytibjajgcfbfppaa
open Go.Fl Go.RowKit
set_option linter.unusedSimpArgs false
set_option linter.unusedVariables false

theorem eqG2_any (a b : Int) (w : World) : Calls Try.prog 58 #[GV a b, GV a b] w fun e w' => e = .returned (.bool true) ∧ Below w.heap.size w w' := by
  go_enter Try.func58, Try.ntmps58
  go_wp2
  go_ret
  exact ⟨rfl, ((Below.refl _ _).alloc (Nat.le_refl _) _).alloc (by simp) _⟩

set_option maxHeartbeats 2000000 in
theorem eqPart_any (t u k : Pb) (ht : IsP t k) (hu : IsP u k) (w : World) : Calls Try.prog 74 #[t.r4.val, u.r4.val] w fun e w' => e = .returned (.bool true) ∧ Below w.heap.size w w' := by
  obtain ⟨ix, iy, iu, iv⟩ := ht
  obtain ⟨jx, jy, ju, jv⟩ := hu
  have i1 : Is .f32 3212836864 3212836864 := Is.const (by decide +kernel)
  have i2 : Is .f32 1065353216 1065353216 := Is.const (by decide +kernel)
  unfold R4.val Pb.r4
  have HB0 := Lib.hid (((Below.refl w.heap.size w).alloc (Nat.le_refl _) (.cells #[.complex .f32 t.x t.y, .complex .f32 t.u t.v, .float .f32 3212836864, .float .f32 1065353216] 68)).alloc (by simp) (.cells #[.complex .f32 u.x u.y, .complex .f32 u.u u.v, .float .f32 3212836864, .float .f32 1065353216] 68))
  go_enter Try.func74, Try.ntmps74
  go_wp2_with (first | (apply wpList_cwid; rfl; rfl; (first | with_reducible assumption | exact Is.const rfl); (first | with_reducible assumption | exact Is.const rfl); exact C32; exact C64; intro r s n hr hs) | (apply wpList_wid; rfl; rfl; (first | with_reducible assumption | exact Is.const rfl); exact U32; exact U64; intro r n hr) | (go_at_call 80; ((with_reducible refine (sameC_any _ _ _ _ _ _ (by assumption) (by assumption) (by assumption) (by assumption) _).mono ?_); rintro e w' ⟨rfl, n, rfl⟩)) | (go_at_call 60; ((with_reducible refine (sameFloat_any _ _ _ (by assumption) (by assumption) _).mono ?_); rintro e w' ⟨rfl, n, rfl⟩)))
  go_ret
  exact ⟨rfl, below_drewN HB0.out _⟩

set_option maxHeartbeats 2000000 in
set_option maxRecDepth 100000 in
theorem eqParts_any (B B' : Nat) (v v' : Value) (ts us : List Pb) (K : Nat → Pb) (w : World) (hv : BOwn B w v ts) (hv' : BOwn B' w v' us) (hl : ts.length = us.length) (h : EqP ts K) (h' : EqP us K) (hn : ts.length ≤ 48) :
    Calls Try.prog 59 #[v, v'] w fun e w' => e = .returned (.bool true) ∧ Below w.heap.size w w' := by
  obtain ⟨a, cap, rfl, hf⟩ := b_form hv
  obtain ⟨a', cap', rfl, hf'⟩ := b_form hv'
  rw [← hl]
  have HU := Lib.hid hv; have HV := Lib.hid hv'; have HO := Lib.hid h; have HO' := Lib.hid h'; have HL := Lib.hid hl
  clear hv hv' h h' hl
  go_enter Try.func59, Try.ntmps59
  go_wp2
  go_loopw [5] (fun i wr => ∃ k : Nat, k ≤ ts.length ∧ i = .int .i64 k ∧ Below w.heap.size w wr) (fun i _ => ts.length - (intOf i).toNat)
  case atStart => exact ⟨0, Nat.zero_le _, rfl, Below.refl _ _⟩
  case round =>
    obtain ⟨k, hk, rfl, hb⟩ := hrel
    by_cases hlt : k < ts.length
    · have hlt' : k < us.length := HL.out ▸ hlt
      rcases hf with hf | ⟨g, rfl, _, hg⟩
      · subst hf; simp at hlt
      rcases hf' with hf' | ⟨g', rfl, _, hg'⟩
      · subst hf'; simp at hlt'
      have HT := Lib.hid (HO.out k hlt); have HT' := Lib.hid (HO'.out k hlt')
      have HE := Lib.hid (fun w2 (h2 : Below w.heap.size w w2) => b_cells (r4_below HU.out h2) hlt)
      have HV' := Lib.hid (show BOwn B' w (.slice (some ⟨g', 0, none⟩) us.length cap') us from HV.out)
      have HE' := Lib.hid (fun w2 (h2 : Below w.heap.size w w2) => b_cells (r4_below HV'.out h2) hlt')
      generalize ts[k] = t at HE HT
      generalize us[k] = u at HE' HT'
      have hd := (Below.refl wr.heap.size wr).drew
      have HC := Lib.hid (show ∀ w2, Below wr.heap.size wr w2 → (w2.cell? ⟨g, k * 4, none⟩ = some (.complex .f32 t.x t.y) ∧ w2.cell? ⟨g, k * 4 + 1, none⟩ = some (.complex .f32 t.u t.v) ∧ w2.cell? ⟨g, k * 4 + 2, none⟩ = some (.float .f32 3212836864) ∧ w2.cell? ⟨g, k * 4 + 3, none⟩ = some (.float .f32 1065353216)) ∧
          w2.cell? ⟨g', k * 4, none⟩ = some (.complex .f32 u.x u.y) ∧ w2.cell? ⟨g', k * 4 + 1, none⟩ = some (.complex .f32 u.u u.v) ∧ w2.cell? ⟨g', k * 4 + 2, none⟩ = some (.float .f32 3212836864) ∧ w2.cell? ⟨g', k * 4 + 3, none⟩ = some (.float .f32 1065353216) from fun w2 h2 =>
        ⟨HE.out w2 (hb.trans (h2.mono hb.size)), HE'.out w2 (hb.trans (h2.mono hb.size))⟩)
      have HB := Lib.hid hb
      clear hb
      go_wp2_with fail
      refine wp_region_noPanic ?_
      refine wp_region_held_drew (S := fun w2 => (w2.cell? ⟨g, k * 4, none⟩ = some (.complex .f32 t.x t.y) ∧ w2.cell? ⟨g, k * 4 + 1, none⟩ = some (.complex .f32 t.u t.v) ∧ w2.cell? ⟨g, k * 4 + 2, none⟩ = some (.float .f32 3212836864) ∧ w2.cell? ⟨g, k * 4 + 3, none⟩ = some (.float .f32 1065353216)) ∧
          w2.cell? ⟨g', k * 4, none⟩ = some (.complex .f32 u.x u.y) ∧ w2.cell? ⟨g', k * 4 + 1, none⟩ = some (.complex .f32 u.u u.v) ∧ w2.cell? ⟨g', k * 4 + 2, none⟩ = some (.float .f32 3212836864) ∧ w2.cell? ⟨g', k * 4 + 3, none⟩ = some (.float .f32 1065353216)) (by kernel_rfl) (HC.out _ hd) (fun hHeld => ?_)
      ((refine wpAnyH_take (i := 0) (v := ?_) rfl (by kernel_rfl) (by kernel_rfl) (by kernel_rfl) (fun _ _ _ h => h) (Or.inl ⟨by rfl, ?_⟩) (by assumption) ?_; rotate_left; (· intro w hSw; (try dsimp only at hSw); go_simp; first | done | with_reducible rfl); (try simp only [List.getElem_toArray, List.getElem_cons_zero, List.getElem_cons_succ, Act.put, List.setIfInBounds_toArray, List.set_cons_zero, List.set_cons_succ])); (refine wpAnyH_take (i := 1) (v := ?_) rfl (by kernel_rfl) (by kernel_rfl) (by kernel_rfl) (fun _ _ _ h => h) (Or.inl ⟨by rfl, ?_⟩) (by assumption) ?_; rotate_left; (· intro w hSw; (try dsimp only at hSw); go_simp; first | done | with_reducible rfl); (try simp only [List.getElem_toArray, List.getElem_cons_zero, List.getElem_cons_succ, Act.put, List.setIfInBounds_toArray, List.set_cons_zero, List.set_cons_succ])); (refine wpAnyH_take (i := 2) (v := ?_) rfl (by kernel_rfl) (by kernel_rfl) (by kernel_rfl) (fun _ _ _ h => h) (Or.inl ⟨by rfl, ?_⟩) (by assumption) ?_; rotate_left; (· intro w hSw; (try dsimp only at hSw); go_simp; first | done | with_reducible rfl); (try simp only [List.getElem_toArray, List.getElem_cons_zero, List.getElem_cons_succ, Act.put, List.setIfInBounds_toArray, List.set_cons_zero, List.set_cons_succ])); (refine wpAnyH_take (i := 3) (v := ?_) rfl (by kernel_rfl) (by kernel_rfl) (by kernel_rfl) (fun _ _ _ h => h) (Or.inl ⟨by rfl, ?_⟩) (by assumption) ?_; rotate_left; (· intro w hSw; (try dsimp only at hSw); go_simp; first | done | with_reducible rfl); (try simp only [List.getElem_toArray, List.getElem_cons_zero, List.getElem_cons_succ, Act.put, List.setIfInBounds_toArray, List.set_cons_zero, List.set_cons_succ])); (refine wpAnyH_take (i := 4) (v := ?_) rfl (by kernel_rfl) (by kernel_rfl) (by kernel_rfl) (fun _ _ _ h => h) (Or.inl ⟨by rfl, ?_⟩) (by assumption) ?_; rotate_left; (· intro w hSw; (try dsimp only at hSw); go_simp; first | done | with_reducible rfl); (try simp only [List.getElem_toArray, List.getElem_cons_zero, List.getElem_cons_succ, Act.put, List.setIfInBounds_toArray, List.set_cons_zero, List.set_cons_succ])); (refine wpAnyH_take (i := 5) (v := ?_) rfl (by kernel_rfl) (by kernel_rfl) (by kernel_rfl) (fun _ _ _ h => h) (Or.inl ⟨by rfl, ?_⟩) (by assumption) ?_; rotate_left; (· intro w hSw; (try dsimp only at hSw); go_simp; first | done | with_reducible rfl); (try simp only [List.getElem_toArray, List.getElem_cons_zero, List.getElem_cons_succ, Act.put, List.setIfInBounds_toArray, List.set_cons_zero, List.set_cons_succ])); (refine wpAnyH_take (i := 6) (v := ?_) rfl (by kernel_rfl) (by kernel_rfl) (by kernel_rfl) (fun _ _ _ h => h) (Or.inl ⟨by rfl, ?_⟩) (by assumption) ?_; rotate_left; (· intro w hSw; (try dsimp only at hSw); go_simp; first | done | with_reducible rfl); (try simp only [List.getElem_toArray, List.getElem_cons_zero, List.getElem_cons_succ, Act.put, List.setIfInBounds_toArray, List.set_cons_zero, List.set_cons_succ])); (refine wpAnyH_take (i := 7) (v := ?_) rfl (by kernel_rfl) (by kernel_rfl) (by kernel_rfl) (fun _ _ _ h => h) (Or.inl ⟨by rfl, ?_⟩) (by assumption) ?_; rotate_left; (· intro w hSw; (try dsimp only at hSw); go_simp; first | done | with_reducible rfl); (try simp only [List.getElem_toArray, List.getElem_cons_zero, List.getElem_cons_succ, Act.put, List.setIfInBounds_toArray, List.set_cons_zero, List.set_cons_succ])))
      (refine wpAnyH_ready (rs := [8]) (by kernel_rfl) (by simp) ?_; refine AllReadyH.cons (i := 8) rfl (fun K hK => ?_) AllReadyH.nil)
      go_simp
      refine (eqPart_any t u _ HT.out HT'.out _).mono ?_; rintro e w3 ⟨rfl, h3⟩
      have HD3 := Lib.hid (hd.trans (h3.mono hd.size))
      clear h3 hd
      go_wp2_with fail
      (refine hK.out _ _ (HC.out _ HD3.out) (fun hHeld => ?_); clear hK K; (try simp only [List.getElem_toArray, List.getElem_cons_zero, List.getElem_cons_succ, Act.put, List.setIfInBounds_toArray, List.set_cons_zero, List.set_cons_succ]))
      ((refine wpAnyH_take (i := 9) (v := ?_) rfl (by kernel_rfl) (by kernel_rfl) (by kernel_rfl) (fun _ _ _ h => h) (Or.inl ⟨by rfl, ?_⟩) (by assumption) ?_; rotate_left; (· intro w hSw; (try dsimp only at hSw); go_simp; first | done | with_reducible rfl); (try simp only [List.getElem_toArray, List.getElem_cons_zero, List.getElem_cons_succ, Act.put, List.setIfInBounds_toArray, List.set_cons_zero, List.set_cons_succ])))
      (refine wpAnyH_done (by kernel_rfl) ?_ _; refine NoPanic.normal ?_)
      clear hHeld
      go_wp2_with fail
      go_roundw
      case rel => exact ⟨k + 1, by omega, by go_num, HB.out.trans (HD3.out.mono HB.out.size)⟩
      case measure => simp [intOf]; omega
    · obtain rfl : k = ts.length := by omega
      clear hlt
      go_wp2
      go_ret
      exact ⟨rfl, hb⟩

set_option maxHeartbeats 2000000 in
theorem eqCloud_any (B B' : Nat) (a b : Int) (v v' : Value) (ts us : List Pb) (K : Nat → Pb) (k k' BK : Nat) (w : World) (hv : BOwn B w v ts) (hv' : BOwn B' w v' us) (hl : ts.length = us.length) (h : EqP ts K) (h' : EqP us K) (hn : ts.length ≤ 48) (ik : Is .f32 k BK) (ik' : Is .f32 k' BK) :
    Calls Try.prog 29 #[CV a b v k, CV a b v' k'] w fun e w' => e = .returned (.bool true) ∧ Below w.heap.size w w' := by
  have hb := (((Below.refl w.heap.size w).alloc (Nat.le_refl _) (.cells (CC a b v k) 56)).alloc (by simp) (.cells (CC a b v' k') 56))
  have HB0 := Lib.hid hb
  have HX := Lib.hid (show ((w.alloc (.cells (CC a b v k) 56)).alloc (.cells (CC a b v' k') 56)).heap[w.heap.size]? = some (.cells (CC a b v k) 56) from heap_alloc2_old w _ _)
  have HY := Lib.hid (show ((w.alloc (.cells (CC a b v k) 56)).alloc (.cells (CC a b v' k') 56)).heap[w.heap.size + 1]? = some (.cells (CC a b v' k') 56) from heap_alloc2_new w _ _)
  have HZ := Lib.hid (show w.heap.size + 1 < ((w.alloc (.cells (CC a b v k) 56)).alloc (.cells (CC a b v' k') 56)).heap.size by simp)
  have HV := Lib.hid (r4_below hv hb); have HV' := Lib.hid (r4_below hv' hb)
  have iz := is_zero
  obtain ⟨x0, x1, x2, x3, x4⟩ := five_cells HX.out
  obtain ⟨y0, y1, y2, y3, y4⟩ := five_cells HY.out
  clear hb hv hv'
  go_enter Try.func29, Try.ntmps29
  go_wp2_with fail
  clear x0 x1 x2 x3 x4 y0 y1 y2 y3 y4
  generalize (w.alloc (.cells (CC a b v k) 56)).alloc (.cells (CC a b v' k') 56) = w1 at HB0 HX HY HZ HV HV' ⊢
  refine (eqG2_any a b _).mono ?_
  rintro e w2 ⟨rfl, h2⟩
  have HB2 := Lib.hid (HB0.out.trans (h2.mono HB0.out.size)); have HX2 := Lib.hid ((h2.block w.heap.size (Nat.lt_of_succ_lt HZ.out)).trans HX.out); have HY2 := Lib.hid ((h2.block (w.heap.size + 1) HZ.out).trans HY.out); have HZ2 := Lib.hid (Nat.lt_of_lt_of_le HZ.out h2.size)
  have HV2 := Lib.hid (r4_below HV.out h2); have HV2' := Lib.hid (r4_below HV'.out h2)
  clear h2 HB0 HX HY HZ HV HV'
  obtain ⟨x0, x1, x2, x3, x4⟩ := five_cells HX2.out
  obtain ⟨y0, y1, y2, y3, y4⟩ := five_cells HY2.out
  go_wp2_with fail
  refine (eqParts_any B B' v v' ts us K _ HV2.out HV2'.out hl h h' hn).mono ?_
  rintro e w3 ⟨rfl, h3⟩
  have HB3 := Lib.hid (HB2.out.trans (h3.mono HB2.out.size)); have HX3 := Lib.hid ((h3.block w.heap.size (Nat.lt_of_succ_lt HZ2.out)).trans HX2.out); have HY3 := Lib.hid ((h3.block (w.heap.size + 1) HZ2.out).trans HY2.out)
  clear h3 HB2 HX2 HY2 HZ2 HV2 HV2' x0 x1 x2 x3 x4 y0 y1 y2 y3 y4
  obtain ⟨x0, x1, x2, x3, x4⟩ := five_cells HX3.out
  obtain ⟨y0, y1, y2, y3, y4⟩ := five_cells HY3.out
  go_wp2_with (first | (apply wpList_wid; rfl; rfl; (first | with_reducible assumption | exact Is.const rfl); exact U32; exact U64; intro r n hr) | (go_at_call 60; ((with_reducible refine (sameFloat_any _ _ _ (by assumption) (by assumption) _).mono ?_); rintro e w' ⟨rfl, n, rfl⟩)))
  go_ret
  exact ⟨rfl, below_drewN HB3.out _⟩
end Go.Proofs.Ytibjajgcfbfppaa
