/-
  Products of fields and numbers, of the program and of the model.
-/
import Derived.Test.YtlfnbnhbobohlaaFields
namespace Go.Proofs.Ytlfnbnhbobohlaa
open Go.Fl Go.RowKit
set_option linter.unusedSimpArgs false

def mulF (xs : List Nat) (Y : Nat) (i : Nat) : Nat := fop .mul .f32 (cn .f32 (xs.getD i 0)) Y



theorem iScale_no (a b : Int) (a1 : Option Addr) (n1 c1 y : Nat) (w : World) (h : fieldOk a b n1 = false) :
    Calls Try.prog 59 #[GV a b, .slice a1 n1 c1, .float .f32 y] w fun e w' => e = .returned (.tuple #[.slice none 0 0, .bool false]) ∧ Below w.heap.size w w' := by
  have hb0 := (Below.refl w.heap.size w).alloc (Nat.le_refl _) (.cells #[.int .i64 a, .int .i64 b] 27)
  have H1 := Lib.hid h
  clear h
  go_enter Try.func59, Try.ntmps59
  go_wp2_with fail
  generalize w.alloc (.cells #[.int .i64 a, .int .i64 b] 27) = w1 at hb0 ⊢
  refine (iIsField_any a b a1 n1 c1 _).mono ?_; rw [H1.out]; rintro e w2 ⟨rfl, hb2⟩
  have hb3 := hb0.trans (hb2.mono hb0.size)
  go_wp2_with fail
  go_ret2
  exact ⟨rfl, hb3⟩

set_option maxHeartbeats 1000000 in
set_option maxRecDepth 100000 in
theorem iScale_yes (a b : Int) (u : Value) (xs : List Nat) (y Y : Nat) (w : World) (hu : FS .f32 w u xs) (iy : Is .f32 y Y) (h1 : fieldOk a b xs.length = true) :
    Calls Try.prog 59 #[GV a b, u, .float .f32 y] w fun e w' => (∃ r, e = .returned (.tuple #[r, .bool true]) ∧ FRes w.heap.size w' r xs.length (mulF xs Y)) ∧ Below w.heap.size w w' := by
  obtain ⟨i0, hi, hz0, hz1, hz2⟩ := info_parts F32info
  have hu' := hu
  obtain ⟨a1, c1, rfl, hlc, hcm, hwf, hmem⟩ := hu
  have hb0 := (Below.refl w.heap.size w).alloc (Nat.le_refl _) (.cells #[.int .i64 a, .int .i64 b] 27)
  have hn256 : xs.length ≤ 256 := (fieldOk_true h1).2.2.2.2.2
  have hb4 : i0.bytes * xs.length ≤ 281474976710656 := by rw [hz2]; omega
  have hml : xs.length ≤ maxLen := by unfold maxLen; omega
  have HI := Lib.hid hi; have HZ0 := Lib.hid hz0; have HZ1 := Lib.hid hz1
  have H1 := Lib.hid h1
  have HU := Lib.hid hu'
  clear hu' h1 hi hz0 hz1 hz2 hmem hlc hcm
  go_enter Try.func59, Try.ntmps59
  go_wp2_with fail
  generalize w.alloc (.cells #[.int .i64 a, .int .i64 b] 27) = w1 at hb0 ⊢
  refine (iIsField_any a b a1 xs.length c1 _).mono ?_; rw [H1.out]; rintro e w2 ⟨rfl, hb2⟩
  have hb6 := hb0.trans (hb2.mono hb0.size)
  clear hb2 hb0
  go_wp2_with (at_make; refine wpList_make_full _ rfl _ _ 24 rfl w.heap.size 46 i0 (.float .f32 0) 1 Try.underlying24 HI.out HZ0.out HZ1.out _ _ _ _ xs.length rfl rfl rfl rfl hb4 hml hb6.size ?_; intro w4 hown hgrow)
  rw [Nat.mul_one, show (madeCells (Value.float .f32 0).cells xs.length).toList = ptl [] xs.length by rw [ptl_zero]; exact toList_madeCells_one _ _] at hown
  have hbel0 := hb6.grown hgrow hb6.size (fun k h => by cases h)
  have HO0 := Lib.hid hown
  clear hgrow hb4 hml HI HZ0 HZ1 hown hb6 H1
  generalize w2.heap.size = g0 at HO0 ⊢
  go_loopw [20] (fun i wr => ∃ rs : List Nat, i = .int .i64 (rs.length : Int) ∧ rs.length ≤ xs.length ∧ Hid (Eqs rs (mulF xs Y)) ∧ Hid (wr.ownsRow w.heap.size 46 1 (.slice (some ⟨g0, 0, none⟩) xs.length xs.length) xs.length (ptl rs xs.length)) ∧ Below w.heap.size w wr) (fun i _ => xs.length - (intOf i).toNat)
  case atStart => exact ⟨[], rfl, Nat.zero_le _, Lib.hid (Eqs.nil _), HO0, hbel0⟩
  case round =>
    clear HO0 hbel0
    obtain ⟨rs, rfl, hk, HE, HO, hbel⟩ := hrel
    by_cases hlt : rs.length < xs.length
    · obtain ⟨b1, o1, e1, hcx⟩ := FS.at HU.out hbel hlt
      obtain rfl := e1
      have ix := FS.is hwf rs.length hlt
      have HF := Lib.hid (show mulF xs Y rs.length = fop .mul .f32 (cn .f32 (xs.getD rs.length 0)) Y from rfl)
      generalize cn .f32 (xs.getD rs.length 0) = X at ix HF
      generalize xs.getD rs.length 0 = x at hcx ix
      have hw0 := HO.out.cellAt rs.length (by omega)
      rw [ptl_get rs _ hlt] at hw0
      have hfz := HO.out.frozenAt rs.length
      go_wp2_with (first | (apply wpList_farith; rfl; rfl; rfl; rfl; (first | with_reducible assumption | exact Is.const rfl); (first | with_reducible assumption | exact Is.const rfl); intro r n hr) | ((with_reducible apply Loose.wp_start); kernel_rfl; kernel_rfl) | ((with_reducible apply Loose.start_cons)) | ((with_reducible apply Loose.start_nil)) | ((with_reducible apply Loose.walk_nil); intro n) | ((with_reducible apply Loose.walk_skip); exact rfl; (go_simp; first | done | exact rfl)) | ((with_reducible apply Loose.step_fc); rfl; rfl; rfl; rfl; (first | with_reducible assumption | exact Is.const rfl); (first | with_reducible assumption | exact Is.const rfl); (first | with_reducible assumption | exact rfl); exact rfl; (go_simp; first | done | exact rfl)) | ((with_reducible apply Loose.step_fa); rfl; rfl; rfl; rfl; (first | with_reducible assumption | exact Is.const rfl); (first | with_reducible assumption | exact Is.const rfl); exact rfl; (intro r; go_simp; first | done | exact rfl); intro r hr) | ((with_reducible apply Loose.step_wid); rfl; rfl; (first | with_reducible assumption | exact Is.const rfl); exact U32; exact U64; exact rfl; (intro r; go_simp; first | done | exact rfl); intro r hr) | ((with_reducible apply Loose.step_nar); rfl; rfl; (first | with_reducible assumption | exact Is.const rfl); exact U64; exact U32; (with_reducible assumption); exact rfl; (intro r; go_simp; first | done | exact rfl); intro r hr) | ((with_reducible apply Loose.step_assign); rfl; rfl; (with_reducible assumption); exact rfl; (intro r; go_simp; first | done | exact rfl); intro r hr) | ((with_reducible apply Loose.step_move); rfl; rfl; (with_reducible assumption); exact rfl; (intro r; go_simp; first | done | exact rfl); intro r hr) | ((with_reducible apply Loose.step_same); rfl; rfl; exact U32; exact U32; (first | with_reducible assumption | exact Is.const rfl); exact rfl; (intro r; go_simp; first | done | exact rfl); intro r hr) | ((with_reducible apply Loose.step_same); rfl; rfl; exact U64; exact U64; (first | with_reducible assumption | exact Is.const rfl); exact rfl; (intro r; go_simp; first | done | exact rfl); intro r hr) | ((with_reducible apply Loose.step_eq); rfl; (intro n; go_simp; first | done | exact rfl); exact rfl; (go_simp; first | done | exact rfl)))
      have ST := ((show (wr.drewN n).ownsRow w.heap.size 46 1 (.slice (some ⟨g0, 0, none⟩) xs.length xs.length) xs.length (ptl rs xs.length) from HO.out).stored rs.length (.float .f32 r)).1
      rw [ptl_set rs _ r hlt] at ST
      have hg0 := (HO.out.lt g0 rfl).1
      go_roundw
      case rel => exact ⟨rs ++ [r], by rw [List.length_append, List.length_singleton]; go_num, by simp; omega, Lib.hid (HE.out.snoc (by rw [HF.out]; assumption)), Lib.hid ST, (below_drewN hbel n).setCell (p := ⟨g0, rs.length, none⟩) hg0 _⟩
      case measure => simp [intOf]; omega
    · have hk2 : rs.length = xs.length := by omega
      have HK2 := Lib.hid hk2
      have HR := Lib.hid (show ptl rs xs.length = rs.map (Value.float .f32) by rw [← hk2]; exact ptl_all rs)
      clear hk2
      go_wp2
      go_ret2
      exact ⟨⟨_, rfl, rs, HK2.out, HE.out, by unfold FOwn; rw [HK2.out, ← HR.out]; exact HO.out⟩, hbel⟩

def okScaleField (a b : Int) (xs : List Nat) (_Y : Nat) : Bool := fieldOk a b xs.length
def lenScaleField (a b : Int) (xs : List Nat) (Y : Nat) : Nat := if okScaleField a b xs Y then xs.length else 0
theorem lenScaleField_le (a b : Int) (xs : List Nat) (Y : Nat) (h : xs.length ≤ 1048576) : lenScaleField a b xs Y ≤ 1048576 := by unfold lenScaleField; split <;> omega


theorem iScaleField_any (a b : Int) (u : Value) (xs : List Nat) (y Y : Nat) (w : World) (hu : FS .f32 w u xs) (_hn : xs.length ≤ 1048576) (iy : Is .f32 y Y) :
    Calls Try.prog 59 #[GV a b, u, .float .f32 y] w fun e w' => (∃ r, e = .returned (.tuple #[r, .bool (okScaleField a b xs Y)]) ∧ FRes w.heap.size w' r (lenScaleField a b xs Y) (mulF xs Y)) ∧ Below w.heap.size w w' := by
  unfold lenScaleField
  by_cases h : okScaleField a b xs Y = true
  · rw [h, if_pos rfl]
    exact iScale_yes a b u xs y Y w hu iy h
  · have h' : okScaleField a b xs Y = false := by simpa using h
    rw [h', if_neg (by simp)]
    obtain ⟨a1, c1, rfl, _⟩ := hu
    exact (iScale_no a b a1 xs.length c1 y w h').mono fun e w' ⟨he, hb⟩ => ⟨⟨_, he, fres_none _ _ _⟩, hb⟩
end Go.Proofs.Ytlfnbnhbobohlaa
