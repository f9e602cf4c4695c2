/-
  LaplaceOf, of the program and of the model.
-/
import Derived.Test.YtjfnecmnofcjbaaLap
namespace Go.Proofs.Ytjfnecmnofcjbaa
open Go.Fl Go.RowKit
open Go.Joins (ownsRow_le)
set_option linter.unusedSimpArgs false
set_option linter.unusedVariables false

theorem laplaceOf_any (a b : Int) (t : Value) (xs : List Nat) (w : World) (hu : FS .f32 w t xs) (h1 : fieldOk a b xs.length = true) :
    Calls Try.prog 170 #[GV a b, t] w fun e w' => (∃ r, e = .returned r ∧ FRes w.heap.size w' r xs.length (lapV a b xs)) ∧ Below w.heap.size w w' := by
  have HU := Lib.hid hu
  obtain ⟨a1, c1, rfl, hlc, hcm, hwf, hmem⟩ := hu
  obtain ⟨n1, n2, n3, n4⟩ := two_new w (.cells #[.int .i64 a, .int .i64 b] 27) (.cells #[.slice a1 xs.length c1] 24)
  have HG := Lib.hid n1; have HL := Lib.hid n2; have HB := Lib.hid n3; have HS := Lib.hid n4
  have H1 := Lib.hid h1
  have hf := fieldOk_true h1
  have HGO := Lib.hid (show gridOk a b = true from decide_eq_true ⟨hf.1, hf.2.1, hf.2.2.1, hf.2.2.2.1⟩)
  have HNN := Lib.hid hf.2.2.2.2.1
  clear hmem hlc hcm hwf n1 n2 n3 n4 h1 hf
  go_enter Try.func170, Try.ntmps170
  go_wp2_with fail
  generalize (w.alloc (.cells #[.int .i64 a, .int .i64 b] 27)).alloc (.cells #[.slice a1 xs.length c1] 24) = w1 at HG HL HB HS ⊢
  have c0 := (pair_cells HG.out).1; have c1' := (pair_cells HG.out).2.1
  go_wp2_with fail
  refine (fieldBy_any a b xs.length _ _ _ _ _ HGO.out HNN.out (lap1_any a b _ xs _ _ _ (HU.out.below HB.out) H1.out (bx_of HL.out) (gp_of HG.out))).mono ?_; rintro e w3 ⟨⟨r, rfl, hr⟩, hb3⟩
  go_wp2_with fail
  go_ret
  exact ⟨⟨r, rfl, fres_le hr HB.out.size⟩, HB.out.trans (hb3.mono HB.out.size)⟩

def okLaplaceOf (a b : Int) (xs : List Nat) : Bool := fieldOk a b xs.length
def lenLaplaceOf (a b : Int) (xs : List Nat) : Nat := if okLaplaceOf a b xs then xs.length else 0
theorem lenLaplaceOf_le (a b : Int) (xs : List Nat) (h : xs.length ≤ 1048576) : lenLaplaceOf a b xs ≤ 1048576 := by unfold lenLaplaceOf; split <;> omega

theorem iLaplaceOf_any (a b : Int) (u : Value) (xs : List Nat) (w : World) (hu : FS .f32 w u xs) (hn : xs.length ≤ 1048576) :
    Calls Try.prog 85 #[GV a b, u] w fun e w' => (∃ r, e = .returned (.tuple #[r, .bool (okLaplaceOf a b xs)]) ∧ FRes w.heap.size w' r (lenLaplaceOf a b xs) (lapV a b xs)) ∧ Below w.heap.size w w' := by
  have HU := Lib.hid hu
  obtain ⟨a1, c1, rfl, hlc, hcm, hwf, hmem⟩ := hu
  have HP := Lib.hid (gp_new w a b 27)
  have hb0 := (Below.refl w.heap.size w).alloc (Nat.le_refl _) (.cells #[.int .i64 a, .int .i64 b] 27)
  clear hmem hlc hcm hwf
  unfold lenLaplaceOf okLaplaceOf
  cases h : fieldOk a b xs.length with
  | true =>
    have H1 := Lib.hid h
    clear h
    go_enter Try.func85, Try.ntmps85
    go_wp2_with fail
    generalize w.alloc (.cells #[.int .i64 a, .int .i64 b] 27) = w1 at hb0 HP ⊢
    refine (iIsField_any a b a1 xs.length c1 _).mono ?_; rw [H1.out]; rintro e w2 ⟨rfl, hb2⟩
    have hg2 := HP.out.ever _ hb2
    have hc0 := hg2.1
    have hc1 := hg2.2
    have HB2 := Lib.hid (hb0.trans (hb2.mono hb0.size))
    clear hb2 hg2
    go_wp2_with fail
    refine (laplaceOf_any a b _ xs _ (HU.out.below HB2.out) H1.out).mono ?_; rintro e w3 ⟨⟨r, rfl, hr⟩, hb3⟩
    go_wp2_with fail
    go_ret2
    exact ⟨⟨r, rfl, by first | exact fres_le hr HB2.out.size | (rw [if_pos rfl]; exact fres_le hr HB2.out.size)⟩, HB2.out.trans (hb3.mono HB2.out.size)⟩
  | false =>
    have H1 := Lib.hid h
    clear h
    go_enter Try.func85, Try.ntmps85
    go_wp2_with fail
    generalize w.alloc (.cells #[.int .i64 a, .int .i64 b] 27) = w1 at hb0 HP ⊢
    refine (iIsField_any a b a1 xs.length c1 _).mono ?_; rw [H1.out]; rintro e w2 ⟨rfl, hb2⟩
    go_wp2_with fail
    go_ret2
    exact ⟨⟨_, rfl, by first | exact fres_none _ _ _ | (rw [if_neg (by simp)]; exact fres_none _ _ _)⟩, hb0.trans (hb2.mono hb0.size)⟩
end Go.Proofs.Ytjfnecmnofcjbaa
