/-
  FieldsOf, of the program and of the model.
-/
import Derived.Test.YtajnaobfeipdaaaFlds
namespace Go.Proofs.Ytajnaobfeipdaaa
open Go.Fl Go.RowKit
open Go.Joins (ownsRow_le)
set_option linter.unusedSimpArgs false
set_option linter.unusedVariables false

def okFieldsOf (a b : Int) (xs : List Nat) : Bool := fieldOk a b xs.length
def lenFieldsOf (a b : Int) (xs : List Nat) : Nat := if okFieldsOf a b xs then xs.length else 0
theorem lenFieldsOf_le (a b : Int) (xs : List Nat) (h : xs.length ≤ 1048576) : lenFieldsOf a b xs ≤ 1048576 := by unfold lenFieldsOf; split <;> omega
/-- Two results apart from each other. -/
def TwoRes (w w' : World) (e : Ending) (ok : Bool) (n : Nat) (F G : Nat → Nat) : Prop :=
  ∃ u v, e = .returned (.tuple #[u, v, .bool ok]) ∧ FRes w.heap.size w' u n F ∧ FRes w.heap.size w' v n G ∧ (v.ownBlock = none ∨ v.ownBlock ≠ u.ownBlock) ∧ (u.ownBlock = none ∨ u.ownBlock ≠ v.ownBlock)
theorem twoRes_none (w w' : World) (F G : Nat → Nat) : TwoRes w w' (.returned (.tuple #[.slice none 0 0, .slice none 0 0, .bool false])) false 0 F G :=
  ⟨_, _, rfl, fres_none _ _ _, fres_none _ _ _, .inl rfl, .inl rfl⟩

theorem sFieldsOf_two (a b : Int) (u : Value) (xs : List Nat) (w : World) (hu : FS .f32 w u xs) :
    Calls Try.prog 34 #[GV a b, u] w fun e w' => TwoRes w w' e (okFieldsOf a b xs) (lenFieldsOf a b xs) (gapF a b xs 1 0) (gapF a b xs 0 1) ∧ Below w.heap.size w w' := by
  have HU := Lib.hid hu
  obtain ⟨a1, c1, rfl, hlc, hcm, hwf, hmem⟩ := hu
  have HP := Lib.hid (gp_new w a b 28)
  have hb0 := (Below.refl w.heap.size w).alloc (Nat.le_refl _) (.cells #[.int .i64 a, .int .i64 b] 28)
  clear hmem hlc hcm hwf
  unfold lenFieldsOf okFieldsOf
  cases h : fieldOk a b xs.length with
  | true =>
    have H1 := Lib.hid h
    clear h
    go_enter Try.func34, Try.ntmps34
    go_wp2_with fail
    generalize w.alloc (.cells #[.int .i64 a, .int .i64 b] 28) = w1 at hb0 HP ⊢
    refine (sFits_any _ a b a1 xs.length c1 _ HP.out).mono ?_; rw [H1.out]; rintro e w' ⟨rfl, m1, rfl⟩
    have hb1 := below_drewN hb0 m1
    have HP2 := Lib.hid (GP.drewN HP.out m1)
    generalize w1.drewN m1 = w2 at hb1 HP2 ⊢
    go_wp2_with fail
    refine (sFields_any _ a b _ xs _ HP2.out (HU.out.below hb1) H1.out).mono ?_; rintro e w3 ⟨⟨p, q, rfl, hr1, hr2, ha1, ha2⟩, hb2⟩
    have HR1 := Lib.hid hr1; have HR2 := Lib.hid hr2; have HA1 := Lib.hid ha1; have HA2 := Lib.hid ha2
    clear hr1 hr2 ha1 ha2
    go_wp2_with fail
    refine bodyPost_ret (v := .tuple #[p, q, .bool true]) (by simp [results, Try.results34, go_sem]) rfl ?_
    exact ⟨⟨p, q, rfl, fres_le HR1.out hb1.size, fres_le HR2.out hb1.size, HA1.out, HA2.out⟩, hb1.trans (hb2.mono hb1.size)⟩
  | false =>
    have H1 := Lib.hid h
    clear h
    go_enter Try.func34, Try.ntmps34
    go_wp2_with fail
    generalize w.alloc (.cells #[.int .i64 a, .int .i64 b] 28) = w1 at hb0 HP ⊢
    refine (sFits_any _ a b a1 xs.length c1 _ HP.out).mono ?_; rw [H1.out]; rintro e w' ⟨rfl, m1, rfl⟩
    go_wp2_with fail
    refine bodyPost_ret (v := .tuple #[.slice none 0 0, .slice none 0 0, .bool false]) (by simp [results, Try.results34, go_sem]) rfl ?_
    exact ⟨twoRes_none _ _ _ _, below_drewN hb0 _⟩

theorem iFieldsOf_two (a b : Int) (u : Value) (xs : List Nat) (w : World) (hu : FS .f32 w u xs) :
    Calls Try.prog 35 #[GV a b, u] w fun e w' => TwoRes w w' e (okFieldsOf a b xs) (lenFieldsOf a b xs) (gapF a b xs 1 0) (gapF a b xs 0 1) ∧ Below w.heap.size w w' := by
  have HU := Lib.hid hu
  obtain ⟨a1, c1, rfl, hlc, hcm, hwf, hmem⟩ := hu
  obtain ⟨n1, n2, n3, n4⟩ := two_new w (.cells #[.int .i64 a, .int .i64 b] 28) (.cells #[.slice a1 xs.length c1] 24)
  have HG := Lib.hid n1; have HL := Lib.hid n2; have HB := Lib.hid n3; have HS := Lib.hid n4
  clear hmem hlc hcm hwf n1 n2 n3 n4
  unfold lenFieldsOf okFieldsOf
  cases h : fieldOk a b xs.length with
  | true =>
    have H1 := Lib.hid h
    have hf := fieldOk_true h
    have HGO := Lib.hid (show gridOk a b = true from decide_eq_true ⟨hf.1, hf.2.1, hf.2.2.1, hf.2.2.2.1⟩)
    have HNN := Lib.hid hf.2.2.2.2.1
    clear h hf
    go_enter Try.func35, Try.ntmps35
    go_wp2_with fail
    generalize (w.alloc (.cells #[.int .i64 a, .int .i64 b] 28)).alloc (.cells #[.slice a1 xs.length c1] 24) = w1 at HG HL HB HS ⊢
    refine (iIsField_any a b a1 xs.length c1 _).mono ?_; rw [H1.out]; rintro e w2 ⟨rfl, hb2⟩
    have hs := HS.out
    have BG := Lib.hid ((hb2.block w.heap.size (by omega)).trans HG.out)
    have BL := Lib.hid ((hb2.block (w.heap.size + 1) (by omega)).trans HL.out)
    have BB := Lib.hid (HB.out.trans (hb2.mono HB.out.size))
    have c0 := (pair_cells BG.out).1; have c1' := (pair_cells BG.out).2.1
    have cl := (bx_of BL.out).cell
    clear hb2 hs
    go_wp2_with fail
    refine (fieldBy_any a b xs.length _ _ _ _ _ HGO.out HNN.out (gap1_any a b _ xs _ _ _ (HU.out.below BB.out) H1.out (bx_of BL.out) (gp_of BG.out))).mono ?_; rintro e w3 ⟨⟨r, rfl, hr⟩, hb3⟩
    have HR1 := Lib.hid hr
    have CG := Lib.hid ((hb3.block w.heap.size (Array.getElem?_eq_some_iff.1 BG.out).1).trans BG.out)
    have CL := Lib.hid ((hb3.block (w.heap.size + 1) (Array.getElem?_eq_some_iff.1 BL.out).1).trans BL.out)
    have CB := Lib.hid (BB.out.trans (hb3.mono BB.out.size))
    have HS3 := Lib.hid hb3.size
    clear c0 c1' cl hr hb3
    have c0 := (pair_cells CG.out).1; have c1' := (pair_cells CG.out).2.1
    go_wp2_with fail
    refine (fieldBy_any a b xs.length _ _ _ _ _ HGO.out HNN.out (gap2_any a b _ xs _ _ _ (HU.out.below CB.out) H1.out (bx_of CL.out) (gp_of CG.out))).mono ?_; rintro e w4 ⟨⟨s, rfl, hr⟩, hb4⟩
    have HR2 := Lib.hid hr
    have HR3 := Lib.hid (fres_below HR1.out hb4)
    have HB4 := Lib.hid (CB.out.trans (hb4.mono CB.out.size))
    clear c0 c1' hr hb4
    go_wp2_with fail
    refine bodyPost_ret (v := .tuple #[r, s, .bool true]) (by simp [results, Try.results35, go_sem]) rfl ?_
    obtain ⟨rs, h1, h2, h3⟩ := HR1.out
    obtain ⟨rs2, k1, k2, k3⟩ := HR2.out
    have hap : s.ownBlock = none ∨ s.ownBlock ≠ r.ownBlock := apart k3.lt h3.lt (.inr (Nat.le_refl _))
    have hap2 : r.ownBlock = none ∨ r.ownBlock ≠ s.ownBlock := apart h3.lt k3.lt (.inl (Nat.le_refl _))
    exact ⟨⟨r, s, rfl, fres_le HR3.out BB.out.size, fres_le HR2.out CB.out.size, hap, hap2⟩, HB4.out⟩
  | false =>
    have H1 := Lib.hid h
    clear h
    go_enter Try.func35, Try.ntmps35
    go_wp2_with fail
    generalize (w.alloc (.cells #[.int .i64 a, .int .i64 b] 28)).alloc (.cells #[.slice a1 xs.length c1] 24) = w1 at HG HL HB HS ⊢
    refine (iIsField_any a b a1 xs.length c1 _).mono ?_; rw [H1.out]; rintro e w2 ⟨rfl, hb2⟩
    go_wp2_with fail
    refine bodyPost_ret (v := .tuple #[.slice none 0 0, .slice none 0 0, .bool false]) (by simp [results, Try.results35, go_sem]) rfl ?_
    exact ⟨twoRes_none _ _ _ _, HB.out.trans (hb2.mono HB.out.size)⟩

theorem sFieldsOf_any (a b : Int) (u : Value) (xs : List Nat) (w : World) (hu : FS .f32 w u xs) (_hn : xs.length ≤ 1048576) :
    Calls Try.prog 34 #[GV a b, u] w fun e w' => (∃ p q, e = .returned (.tuple #[p, q, .bool (okFieldsOf a b xs)]) ∧ FRes w.heap.size w' p (lenFieldsOf a b xs) (gapF a b xs 1 0) ∧ FRes w.heap.size w' q (lenFieldsOf a b xs) (gapF a b xs 0 1) ∧ (q.ownBlock = none ∨ q.ownBlock ≠ p.ownBlock) ∧ (p.ownBlock = none ∨ p.ownBlock ≠ q.ownBlock)) ∧ Below w.heap.size w w' := sFieldsOf_two a b u xs w hu
theorem iFieldsOf_any (a b : Int) (u : Value) (xs : List Nat) (w : World) (hu : FS .f32 w u xs) (_hn : xs.length ≤ 1048576) :
    Calls Try.prog 35 #[GV a b, u] w fun e w' => (∃ p q, e = .returned (.tuple #[p, q, .bool (okFieldsOf a b xs)]) ∧ FRes w.heap.size w' p (lenFieldsOf a b xs) (gapF a b xs 1 0) ∧ FRes w.heap.size w' q (lenFieldsOf a b xs) (gapF a b xs 0 1) ∧ (q.ownBlock = none ∨ q.ownBlock ≠ p.ownBlock) ∧ (p.ownBlock = none ∨ p.ownBlock ≠ q.ownBlock)) ∧ Below w.heap.size w w' := iFieldsOf_two a b u xs w hu
end Go.Proofs.Ytajnaobfeipdaaa
