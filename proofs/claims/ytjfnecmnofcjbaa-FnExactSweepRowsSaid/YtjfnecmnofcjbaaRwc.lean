/-
  SweepRows, of the program and of the model.
-/
import Derived.Test.YtjfnecmnofcjbaaRws
import Derived.Test.YtjfnecmnofcjbaaRwsS
import Derived.Test.YtjfnecmnofcjbaaBrd
import Derived.Test.YtjfnecmnofcjbaaRest
namespace Go.Proofs.Ytjfnecmnofcjbaa
open Go.Fl Go.RowKit
open Go.Joins (ownsRow_le)
set_option linter.unusedSimpArgs false
set_option linter.unusedVariables false

set_option maxHeartbeats 1000000 in
set_option maxRecDepth 100000 in
theorem iSweepRows_any (a b : Int) (u : Value) (xs : List Nat) (v : Value) (zs : List Nat) (w : World) (hu : FS .f32 w u xs) (hn : xs.length ≤ 1048576) (hv : FS .f32 w v zs) (hn2 : zs.length ≤ 1048576) :
    Calls Try.prog 27 #[GV a b, u, v] w fun e w' => (∃ x, e = .returned (.tuple #[x, .bool (okSweepRows a b xs zs)]) ∧ FRes w.heap.size w' x (lenSweepRows a b xs zs) (rwsF a b xs zs)) ∧ Below w.heap.size w w' := by
  cases h : fieldOk a b xs.length && fieldOk a b zs.length with
  | true =>
    rw [Bool.and_eq_true] at h
    rw [(okRws_yes h.1 h.2).1, (okRws_yes h.1 h.2).2]
    exact iSweepRows_yes a b u xs v zs w hu hv h.1 h.2
  | false =>
    rw [(okRws_no h).1, (okRws_no h).2]
    have HU := Lib.hid hu; have HV := Lib.hid hv
    obtain ⟨a1, c1, rfl, hlc, hcm, hwf, hmem⟩ := hu
    obtain ⟨a2, c2, rfl, hlc2, hcm2, hwf2, hmem2⟩ := hv
    have hb0 := (Below.refl w.heap.size w).alloc (Nat.le_refl _) (.cells #[.int .i64 a, .int .i64 b] 27)
    have H1 := Lib.hid h
    clear h hlc hcm hwf hmem hlc2 hcm2 hwf2 hmem2
    go_enter Try.func27, Try.ntmps27
    go_wp2_with fail
    generalize w.alloc (.cells #[.int .i64 a, .int .i64 b] 27) = w1 at hb0 ⊢
    refine (newBoard_no a b _ _ xs zs _ (HU.out.below hb0) (HV.out.below hb0) hn2 H1.out).mono ?_; rintro e w2 ⟨rfl, hb2⟩
    have hbb := hb0.trans (hb2.mono hb0.size)
    have hal := (Below.refl w2.heap.size w2).alloc (Nat.le_refl _) (.cells #[.int .i64 0, .int .i64 0, .slice none 0 0, .slice none 0 0] 108)
    go_wp2_with fail
    go_ret2
    exact ⟨⟨_, rfl, fres_none _ _ _⟩, hbb.trans (hal.mono hbb.size)⟩

set_option maxHeartbeats 1000000 in
set_option maxRecDepth 100000 in
theorem sSweepRows_any (a b : Int) (u : Value) (xs : List Nat) (v : Value) (zs : List Nat) (w : World) (hu : FS .f32 w u xs) (hn : xs.length ≤ 1048576) (hv : FS .f32 w v zs) (hn2 : zs.length ≤ 1048576) :
    Calls Try.prog 26 #[GV a b, u, v] w fun e w' => (∃ x, e = .returned (.tuple #[x, .bool (okSweepRows a b xs zs)]) ∧ FRes w.heap.size w' x (lenSweepRows a b xs zs) (rwsF a b xs zs)) ∧ Below w.heap.size w w' := by
  cases h1 : fieldOk a b xs.length with
  | true =>
    cases h2 : fieldOk a b zs.length with
    | true =>
      rw [(okRws_yes h1 h2).1, (okRws_yes h1 h2).2]
      exact sSweepRows_yes a b u xs v zs w hu hn hv hn2 h1 h2
    | false =>
      rw [(okRws_no (by rw [h1, h2]; rfl)).1, (okRws_no (by rw [h1, h2]; rfl)).2]
      have H1 := Lib.hid h1; have H2 := Lib.hid h2
      obtain ⟨a1, c1, rfl, hlc, hcm, hwf, hmem⟩ := hu
      obtain ⟨a2, c2, rfl, hlc2, hcm2, hwf2, hmem2⟩ := hv
      have HP := Lib.hid (gp_new w a b 27)
      have hb0 := (Below.refl w.heap.size w).alloc (Nat.le_refl _) (.cells #[.int .i64 a, .int .i64 b] 27)
      clear hlc hcm hwf hmem hlc2 hcm2 hwf2 hmem2 hn hn2 h1 h2
      go_enter Try.func26, Try.ntmps26
      go_wp2_with fail
      generalize w.alloc (.cells #[.int .i64 a, .int .i64 b] 27) = w1 at hb0 HP ⊢
      refine (sFits_any _ a b a1 xs.length c1 _ HP.out).mono ?_; rw [H1.out]; rintro e w' ⟨rfl, m1, rfl⟩
      go_wp2_with fail
      refine (sFits_any _ a b a2 zs.length c2 _ (GP.drewN HP.out m1)).mono ?_; rw [H2.out]; rintro e w' ⟨rfl, m2, rfl⟩
      go_wp2_with fail
      go_ret2
      exact ⟨⟨_, rfl, fres_none _ _ _⟩, below_drewN hb0 _⟩
  | false =>
      rw [(okRws_no (by rw [h1]; rfl)).1, (okRws_no (by rw [h1]; rfl)).2]
      have H1 := Lib.hid h1
      obtain ⟨a1, c1, rfl, hlc, hcm, hwf, hmem⟩ := hu
      obtain ⟨a2, c2, rfl, hlc2, hcm2, hwf2, hmem2⟩ := hv
      have HP := Lib.hid (gp_new w a b 27)
      have hb0 := (Below.refl w.heap.size w).alloc (Nat.le_refl _) (.cells #[.int .i64 a, .int .i64 b] 27)
      clear hlc hcm hwf hmem hlc2 hcm2 hwf2 hmem2 hn hn2 h1
      go_enter Try.func26, Try.ntmps26
      go_wp2_with fail
      generalize w.alloc (.cells #[.int .i64 a, .int .i64 b] 27) = w1 at hb0 HP ⊢
      refine (sFits_any _ a b a1 xs.length c1 _ HP.out).mono ?_; rw [H1.out]; rintro e w' ⟨rfl, m1, rfl⟩
      go_wp2_with fail
      go_ret2
      exact ⟨⟨_, rfl, fres_none _ _ _⟩, below_drewN hb0 _⟩
end Go.Proofs.Ytjfnecmnofcjbaa
