/-
  Fields less their means, of the program and of the model.
-/
import Derived.Test.YtjfnecmnofcjbaaMean
namespace Go.Proofs.Ytjfnecmnofcjbaa
open Go.Fl Go.RowKit
set_option linter.unusedSimpArgs false

set_option maxHeartbeats 1000000 in
set_option maxRecDepth 100000 in
theorem sLevel_any (u : Value) (xs : List Nat) (w : World) (hu : FS .f32 w u xs) (hn : xs.length ≤ 1048576) :
    Calls Try.prog 91 #[u] w fun e w' => (∃ r, e = .returned r ∧ FRes w.heap.size w' r xs.length (lvlF xs)) ∧ Below w.heap.size w w' := by
  obtain ⟨i0, hi, hz0, hz1, hz2⟩ := info_parts F32info
  have HU := Lib.hid hu
  obtain ⟨a1, c1, rfl, hlc, hcm, hwf, hmem⟩ := hu
  have HM := Lib.hid (sMean_any _ xs w HU.out hn)
  clear hmem hlc hcm
  go_enter Try.func91, Try.ntmps91
  go_wp2_with fail
  refine HM.out.mono ?_; rintro e w' ⟨⟨mr, rfl, hmr⟩, m1, rfl⟩
  go_wp2_with fail
  have hown0 := own_start w.heap.size (w.drewN m1) (Nat.le_refl _)
  have hbel0 := (below_drewN (Below.refl w.heap.size w) m1).alloc (Nat.le_refl _) (.cells #[] 37)
  generalize (w.drewN m1).alloc (.cells #[] 37) = w2 at hown0 hbel0 ⊢
  have HO0 := Lib.hid hown0
  clear hown0 HM
  have HMR := Lib.hid hmr
  clear hmr
  go_loopw [4, 11] (fun v i wr => ∃ rs : List Nat, i = .int .i64 (rs.length : Int) ∧ rs.length ≤ xs.length ∧ Hid (Eqs rs (lvlF xs)) ∧ (∃ g cap, v = .slice (some ⟨g, 0, none⟩) rs.length cap ∧ Hid (wr.ownsRow w.heap.size 37 1 v rs.length (rs.map (Value.float .f32)))) ∧ Below w.heap.size w wr) (fun _ i _ => xs.length - (intOf i).toNat)
  case atStart => exact ⟨[], rfl, Nat.zero_le _, Lib.hid (Eqs.nil _), ⟨_, _, rfl, HO0⟩, hbel0⟩
  case round =>
    clear HO0 hbel0
    obtain ⟨rs, rfl, hk, HE, ⟨g, cap, rfl, HO⟩, hbel⟩ := hrel
    by_cases hlt : rs.length < xs.length
    · obtain ⟨b1, o1, e1, hcx⟩ := FS.at HU.out hbel hlt
      obtain rfl := e1
      have ix := FS.is hwf rs.length hlt
      have iy := HMR.out
      have HF := Lib.hid (show lvlF xs rs.length = fop .sub .f32 (cn .f32 (xs.getD rs.length 0)) (meanF xs) from rfl)
      generalize meanF xs = Y at iy HF
      generalize cn .f32 (xs.getD rs.length 0) = X at ix HF
      generalize xs.getD rs.length 0 = x at hcx ix
      go_wp2_with (first | (apply wpList_farith; rfl; rfl; rfl; rfl; (first | with_reducible assumption | exact Is.const rfl); (first | with_reducible assumption | exact Is.const rfl); intro r n hr) | (at_builtin; refine wpList_append_lies _ rfl _ _ _ rfl w.heap.size 37 i0 _ 1 4 Try.underlying24 hi hz0 hz1 hz2 rfl (by omega) (.slice (some ⟨g, 0, none⟩) rs.length cap) rs.length (rs.map (Value.float .f32)) rfl (own_next HO.out n r) ⟨wr.heap.size, 0, none⟩ 1 1 [.float .f32 r] rfl rfl (World.news_of_block (cs := #[.float .f32 r]) (t := 37) (fr := (0, 0)) (heap_alloc_new _ _)) (by simp [Value.oneCell']) (by omega) (by unfold maxLen; omega) (by omega) (below_next hbel n r).size (wr.heap.size + 1) (by simp) ?_; intro g2 cap2 w3 hown4 hgrow hat hltg))
      have hb5 := (below_next hbel n r).grown hgrow (below_next hbel n r).size (fun k hk => ((own_next HO.out n r).lt k hk).1)
      have HO4 := Lib.hid (show w3.ownsRow w.heap.size 37 1 (.slice (some ⟨g2, 0, none⟩) (rs ++ [r]).length cap2) (rs ++ [r]).length ((rs ++ [r]).map (Value.float .f32)) by simpa using hown4)
      have HE4 := Lib.hid (HE.out.snoc (by rw [HF.out]; exact hr))
      have HL4 := Lib.hid (show (rs ++ [r]).length = rs.length + 1 by simp)
      clear hown4 hgrow hat hcx iy
      go_wp2
      go_roundw
      case rel => exact ⟨rs ++ [r], by rw [HL4.out]; go_num, by rw [HL4.out]; omega, HE4, ⟨g2, cap2, by rw [HL4.out], by rw [HL4.out] at HO4 ⊢; exact HO4⟩, hb5⟩
      case measure => simp [intOf]; omega
    · have hk2 : rs.length = xs.length := by omega
      have HK2 := Lib.hid hk2
      clear hk2
      go_wp2
      go_ret
      exact ⟨⟨_, rfl, rs, HK2.out, HE.out, HO.out⟩, hbel⟩

def okWithoutMean (a b : Int) (xs : List Nat) : Bool := fieldOk a b xs.length
def lenWithoutMean (a b : Int) (xs : List Nat) : Nat := if okWithoutMean a b xs then xs.length else 0
theorem lenWithoutMean_le (a b : Int) (xs : List Nat) (h : xs.length ≤ 1048576) : lenWithoutMean a b xs ≤ 1048576 := by unfold lenWithoutMean; split <;> omega


set_option maxHeartbeats 1000000 in
set_option maxRecDepth 100000 in
theorem iWithoutMean_yes (a b : Int) (u : Value) (xs : List Nat) (w : World) (hu : FS .f32 w u xs) (h1 : fieldOk a b xs.length = true) :
    Calls Try.prog 86 #[GV a b, u] w fun e w' => (∃ r, e = .returned (.tuple #[r, .bool true]) ∧ FRes w.heap.size w' r xs.length (lvlF xs)) ∧ Below w.heap.size w w' := by
  obtain ⟨i0, hi, hz0, hz1, hz2⟩ := info_parts F32info
  have hu' := hu
  obtain ⟨a1, c1, rfl, hlc, hcm, hwf, hmem⟩ := hu
  have hb0 := (Below.refl w.heap.size w).alloc (Nat.le_refl _) (.cells #[.int .i64 a, .int .i64 b] 27)
  have hn256 : xs.length ≤ 256 := (fieldOk_true h1).2.2.2.2.2
  have hb4 : i0.bytes * xs.length ≤ 281474976710656 := by rw [hz2]; omega
  have hml : xs.length ≤ maxLen := by unfold maxLen; omega
  have HI := Lib.hid hi; have HZ0 := Lib.hid hz0; have HZ1 := Lib.hid hz1
  have H1 := Lib.hid (show okMeanOf a b xs = true from h1)
  have HV := Lib.hid (show valMeanOf a b xs = meanF xs by unfold valMeanOf; rw [show okMeanOf a b xs = true from h1, if_pos rfl])
  have HU := Lib.hid hu'
  clear hu' h1 hi hz0 hz1 hz2 hmem hlc hcm
  go_enter Try.func86, Try.ntmps86
  go_wp2_with fail
  generalize w.alloc (.cells #[.int .i64 a, .int .i64 b] 27) = w1 at hb0 ⊢
  refine (iMeanOf_any a b _ xs _ (HU.out.below hb0) (by omega)).mono ?_; rw [H1.out]; rintro e w2 ⟨⟨mr, rfl, hmr⟩, hb2⟩
  rw [HV.out] at hmr
  have HMR := Lib.hid hmr
  have hb6 := hb0.trans (hb2.mono hb0.size)
  clear hb2 hb0 hmr HV
  go_wp2_with (at_make; refine wpList_make_full _ rfl _ _ 24 rfl w.heap.size 37 i0 (.float .f32 0) 1 Try.underlying24 HI.out HZ0.out HZ1.out _ _ _ _ xs.length rfl rfl rfl rfl hb4 hml hb6.size ?_; intro w4 hown hgrow)
  rw [Nat.mul_one, show (madeCells (Value.float .f32 0).cells xs.length).toList = ptl [] xs.length by rw [ptl_zero]; exact toList_madeCells_one _ _] at hown
  have hbel0 := hb6.grown hgrow hb6.size (fun k h => by cases h)
  have HO0 := Lib.hid hown
  clear hgrow hb4 hml HI HZ0 HZ1 hown hb6 H1
  generalize w2.heap.size = g0 at HO0 ⊢
  go_loopw [24] (fun i wr => ∃ rs : List Nat, i = .int .i64 (rs.length : Int) ∧ rs.length ≤ xs.length ∧ Hid (Eqs rs (lvlF xs)) ∧ Hid (wr.ownsRow w.heap.size 37 1 (.slice (some ⟨g0, 0, none⟩) xs.length xs.length) xs.length (ptl rs xs.length)) ∧ Below w.heap.size w wr) (fun i _ => xs.length - (intOf i).toNat)
  case atStart => exact ⟨[], rfl, Nat.zero_le _, Lib.hid (Eqs.nil _), HO0, hbel0⟩
  case round =>
    clear HO0 hbel0
    obtain ⟨rs, rfl, hk, HE, HO, hbel⟩ := hrel
    by_cases hlt : rs.length < xs.length
    · obtain ⟨b1, o1, e1, hcx⟩ := FS.at HU.out hbel hlt
      obtain rfl := e1
      have ix := FS.is hwf rs.length hlt
      have iy := HMR.out
      have HF := Lib.hid (show lvlF xs rs.length = fop .sub .f32 (cn .f32 (xs.getD rs.length 0)) (meanF xs) from rfl)
      generalize meanF xs = Y at iy HF
      generalize cn .f32 (xs.getD rs.length 0) = X at ix HF
      generalize xs.getD rs.length 0 = x at hcx ix
      have hw0 := HO.out.cellAt rs.length (by omega)
      rw [ptl_get rs _ hlt] at hw0
      have hfz := HO.out.frozenAt rs.length
      go_wp2_with (first | (apply wpList_farith; rfl; rfl; rfl; rfl; (first | with_reducible assumption | exact Is.const rfl); (first | with_reducible assumption | exact Is.const rfl); intro r n hr) | ((with_reducible apply Loose.wp_start); kernel_rfl; kernel_rfl) | ((with_reducible apply Loose.start_cons)) | ((with_reducible apply Loose.start_nil)) | ((with_reducible apply Loose.walk_nil); intro n) | ((with_reducible apply Loose.walk_skip); exact rfl; (go_simp; first | done | exact rfl)) | ((with_reducible apply Loose.step_fc); rfl; rfl; rfl; rfl; (first | with_reducible assumption | exact Is.const rfl); (first | with_reducible assumption | exact Is.const rfl); (first | with_reducible assumption | exact rfl); exact rfl; (go_simp; first | done | exact rfl)) | ((with_reducible apply Loose.step_fa); rfl; rfl; rfl; rfl; (first | with_reducible assumption | exact Is.const rfl); (first | with_reducible assumption | exact Is.const rfl); exact rfl; (intro r; go_simp; first | done | exact rfl); intro r hr) | ((with_reducible apply Loose.step_wid); rfl; rfl; (first | with_reducible assumption | exact Is.const rfl); exact U32; exact U64; exact rfl; (intro r; go_simp; first | done | exact rfl); intro r hr) | ((with_reducible apply Loose.step_nar); rfl; rfl; (first | with_reducible assumption | exact Is.const rfl); exact U64; exact U32; (with_reducible assumption); exact rfl; (intro r; go_simp; first | done | exact rfl); intro r hr) | ((with_reducible apply Loose.step_assign); rfl; rfl; (with_reducible assumption); exact rfl; (intro r; go_simp; first | done | exact rfl); intro r hr) | ((with_reducible apply Loose.step_move); rfl; rfl; (with_reducible assumption); exact rfl; (intro r; go_simp; first | done | exact rfl); intro r hr) | ((with_reducible apply Loose.step_same); rfl; rfl; exact U32; exact U32; (first | with_reducible assumption | exact Is.const rfl); exact rfl; (intro r; go_simp; first | done | exact rfl); intro r hr) | ((with_reducible apply Loose.step_same); rfl; rfl; exact U64; exact U64; (first | with_reducible assumption | exact Is.const rfl); exact rfl; (intro r; go_simp; first | done | exact rfl); intro r hr) | ((with_reducible apply Loose.step_eq); rfl; (intro n; go_simp; first | done | exact rfl); exact rfl; (go_simp; first | done | exact rfl)))
      have ST := ((show (wr.drewN n).ownsRow w.heap.size 37 1 (.slice (some ⟨g0, 0, none⟩) xs.length xs.length) xs.length (ptl rs xs.length) from HO.out).stored rs.length (.float .f32 r)).1
      rw [ptl_set rs _ r hlt] at ST
      have hg0 := (HO.out.lt g0 rfl).1
      go_roundw
      case rel => exact ⟨rs ++ [r], by rw [List.length_append, List.length_singleton]; go_num, by simp; omega, Lib.hid (HE.out.snoc (by rw [HF.out]; assumption)), Lib.hid ST, (below_drewN hbel n).setCell (p := ⟨g0, rs.length, none⟩) hg0 _⟩
      case measure => simp [intOf]; omega
    · have hk2 : rs.length = xs.length := by omega
      have HK2 := Lib.hid hk2
      have HR := Lib.hid (show ptl rs xs.length = rs.map (Value.float .f32) by rw [← hk2]; exact ptl_all rs)
      clear hk2
      go_wp2
      go_ret2
      exact ⟨⟨_, rfl, rs, HK2.out, HE.out, by unfold FOwn; rw [HK2.out, ← HR.out]; exact HO.out⟩, hbel⟩

theorem iWithoutMean_any (a b : Int) (u : Value) (xs : List Nat) (w : World) (hu : FS .f32 w u xs) (hn : xs.length ≤ 1048576) :
    Calls Try.prog 86 #[GV a b, u] w fun e w' => (∃ r, e = .returned (.tuple #[r, .bool (okWithoutMean a b xs)]) ∧ FRes w.heap.size w' r (lenWithoutMean a b xs) (lvlF xs)) ∧ Below w.heap.size w w' := by
  unfold lenWithoutMean
  cases h : okWithoutMean a b xs with
  | true =>
    first | exact iWithoutMean_yes a b u xs w hu h | rw [if_pos rfl]; exact iWithoutMean_yes a b u xs w hu h
  | false =>
    try rw [if_neg (by simp)]
    have HU := Lib.hid hu
    have hb0 := (Below.refl w.heap.size w).alloc (Nat.le_refl _) (.cells #[.int .i64 a, .int .i64 b] 27)
    obtain ⟨a1, c1, rfl, hlc, hcm, hwf, hmem⟩ := hu
    have H1 := Lib.hid (show okMeanOf a b xs = false from h)
    clear h hmem hlc hcm hwf
    go_enter Try.func86, Try.ntmps86
    go_wp2_with fail
    generalize w.alloc (.cells #[.int .i64 a, .int .i64 b] 27) = w1 at hb0 ⊢
    refine (iMeanOf_any a b _ xs _ (HU.out.below hb0) hn).mono ?_; rw [H1.out]; rintro e w2 ⟨⟨mr, rfl, hmr⟩, hb2⟩
    go_wp2_with fail
    go_ret2
    exact ⟨⟨_, rfl, fres_none _ _ _⟩, hb0.trans (hb2.mono hb0.size)⟩
end Go.Proofs.Ytjfnecmnofcjbaa
