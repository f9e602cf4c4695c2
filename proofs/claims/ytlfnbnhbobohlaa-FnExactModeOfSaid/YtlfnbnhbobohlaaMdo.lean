/-
  Modes of the mean row, of the program and of the model.
-/
import Derived.Test.YtlfnbnhbobohlaaMrw
import Derived.Test.YtlfnbnhbobohlaaSpw
namespace Go.Proofs.Ytlfnbnhbobohlaa
open Go.Fl Go.RowKit
open Go.Joins (ownsRow_le)
set_option linter.unusedSimpArgs false
set_option linter.unusedVariables false

theorem sumFn_congr {k : FloatKind} {F G : Nat → Nat} {n : Nat} (h : ∀ i, i < n → F i = G i) : sumFn k F n = sumFn k G n := by
  induction n with
  | zero => rfl
  | succ n ih => rw [sumFn, sumFn, ih (fun i hi => h i (by omega)), h n (by omega)]
/-- The mode m of numbers that F tells. -/
def modeRe (n : Nat) (F : Nat → Nat) (m : Nat) : Nat := sumFn .f32 (fun k => fop .mul .f32 (phRe (turnF (k * m % n) n)) (F k)) n
def modeIm (n : Nat) (F : Nat → Nat) (m : Nat) : Nat := sumFn .f32 (fun k => fop .mul .f32 (phIm (turnF (k * m % n) n)) (F k)) n
theorem spec_mode {rs : List Nat} {F : Nat → Nat} (h : Eqs rs F) (m : Nat) : specRe rs m = modeRe rs.length F m ∧ specIm rs m = modeIm rs.length F m := by
  unfold specRe specIm modeRe modeIm
  exact ⟨sumFn_congr fun k hk => by rw [(h k hk).eq], sumFn_congr fun k hk => by rw [(h k hk).eq]⟩
def okModeOf (a b : Int) (xs : List Nat) (m : Int) : Bool := fieldOk a b xs.length && modeB a m
def valModeOf (a b : Int) (xs : List Nat) (m : Int) : Nat := if okModeOf a b xs m then modeRe a.toNat (mrowF a.toNat b.toNat xs) m.toNat else 0
def val2ModeOf (a b : Int) (xs : List Nat) (m : Int) : Nat := if okModeOf a b xs m then modeIm a.toNat (mrowF a.toNat b.toNat xs) m.toNat else 0
theorem okMo_yes {a b : Int} {xs : List Nat} {m : Int} (h1 : fieldOk a b xs.length = true) (h2 : modeB a m = true) : okModeOf a b xs m = true ∧ valModeOf a b xs m = modeRe a.toNat (mrowF a.toNat b.toNat xs) m.toNat ∧ val2ModeOf a b xs m = modeIm a.toNat (mrowF a.toNat b.toNat xs) m.toNat := by
  have e : okModeOf a b xs m = true := by unfold okModeOf; rw [h1, h2]; rfl
  exact ⟨e, by unfold valModeOf; rw [if_pos e], by unfold val2ModeOf; rw [if_pos e]⟩
theorem okMo_no {a b : Int} {xs : List Nat} {m : Int} (h : fieldOk a b xs.length = false ∨ modeB a m = false) : okModeOf a b xs m = false ∧ valModeOf a b xs m = 0 ∧ val2ModeOf a b xs m = 0 := by
  have e : okModeOf a b xs m = false := by unfold okModeOf; rcases h with h | h <;> rw [h] <;> simp
  exact ⟨e, by unfold valModeOf; rw [if_neg (by rw [e]; simp)], by unfold val2ModeOf; rw [if_neg (by rw [e]; simp)]⟩
theorem fres_FS {B : Nat} {w : World} {v : Value} {n : Nat} {F : Nat → Nat} (h : FRes B w v n F) : ∃ rs, rs.length = n ∧ Eqs rs F ∧ FS .f32 w v rs := by
  obtain ⟨rs, h1, h2, h3⟩ := h
  exact ⟨rs, h1, h2, fown_FS h3 h2.lt⟩
/-- A number of a result. -/
theorem cres_at {B : Nat} {w : World} {v : Value} {n : Nat} {F G : Nat → Nat} (h : CRes B w v n F G) {m : Nat} (hm : m < n) : ∃ g c r s, v = .slice (some ⟨g, 0, none⟩) n c ∧ w.cell? ⟨g, m, none⟩ = some (.complex .f32 r s) ∧ Is .f32 r (F m) ∧ Is .f32 s (G m) := by
  obtain ⟨rs, hl, he, ho⟩ := h
  obtain ⟨a, c, rfl, hf⟩ := cown_form ho
  rcases hf with rfl | ⟨g, rfl, _, _⟩
  · simp at hl; omega
  subst hl
  have := he m hm
  exact ⟨g, c, _, _, rfl, cown_at ho rfl hm, this.1, this.2⟩

set_option maxHeartbeats 1000000 in
set_option maxRecDepth 100000 in
theorem iModeOf_any (a b : Int) (v : Value) (xs : List Nat) (m : Int) (w : World) (hv : FS .f32 w v xs) (hn : xs.length ≤ 1048576) (hm : -9223372036854775808 ≤ m ∧ m ≤ 9223372036854775807) :
    Calls Try.prog 30 #[GV a b, v, .int .i64 m] w fun e w' => (∃ r s, e = .returned (.tuple #[.complex .f32 r s, .bool (okModeOf a b xs m)]) ∧ Is .f32 r (valModeOf a b xs m) ∧ Is .f32 s (val2ModeOf a b xs m)) ∧ Below w.heap.size w w' := by
  obtain ⟨ok, hok⟩ : ∃ ok, okModeOf a b xs m = ok := ⟨_, rfl⟩
  obtain ⟨X, hX⟩ : ∃ X, valModeOf a b xs m = X := ⟨_, rfl⟩
  obtain ⟨Y, hY⟩ : ∃ Y, val2ModeOf a b xs m = Y := ⟨_, rfl⟩
  rw [hok, hX, hY]
  have HOK := Lib.hid hok; have HX := Lib.hid hX; have HY := Lib.hid hY; have HM := Lib.hid hm; have HU := Lib.hid hv; have HN := Lib.hid hn
  clear hok hX hY hm
  obtain ⟨a1, c1, rfl, _⟩ := hv
  have HP := Lib.hid (gp_new w a b 27)
  have HB0 := Lib.hid ((Below.refl w.heap.size w).alloc (Nat.le_refl _) (.cells #[.int .i64 a, .int .i64 b] 27))
  cases h1 : fieldOk a b xs.length with
  | false =>
    have H1 := Lib.hid (show okMeanRow a b xs = false from h1)
    have HR := Lib.hid (okMo_no (m := m) (.inl h1))
    obtain rfl : ok = false := HOK.out.symm.trans HR.out.1
    obtain rfl : X = 0 := HX.out.symm.trans HR.out.2.1
    obtain rfl : Y = 0 := HY.out.symm.trans HR.out.2.2
    clear h1 hn
    go_enter Try.func30, Try.ntmps30
    go_wp2_with fail
    generalize w.alloc (.cells #[.int .i64 a, .int .i64 b] 27) = w1 at HB0 HP ⊢
    refine (iMeanRow_any a b _ xs _ (HU.out.below HB0.out) HN.out).mono ?_; rw [H1.out]; rintro e w2 ⟨⟨r, rfl, hr⟩, hb2⟩
    go_wp2_with fail
    go_ret2
    exact ⟨⟨_, _, rfl, Is.const rfl, Is.const rfl⟩, HB0.out.trans (hb2.mono HB0.out.size)⟩
  | true =>
    have H1 := Lib.hid (show okMeanRow a b xs = true from h1)
    have HA := Lib.hid (fieldOk_true h1)
    cases h2 : modeB a m with
    | false =>
      have H2 := Lib.hid h2
      have HR := Lib.hid (okMo_no (b := b) (xs := xs) (.inr h2))
      obtain rfl : ok = false := HOK.out.symm.trans HR.out.1
      obtain rfl : X = 0 := HX.out.symm.trans HR.out.2.1
      obtain rfl : Y = 0 := HY.out.symm.trans HR.out.2.2
      clear h1 h2 hn
      go_enter Try.func30, Try.ntmps30
      go_wp2_with fail
      generalize w.alloc (.cells #[.int .i64 a, .int .i64 b] 27) = w1 at HB0 HP ⊢
      refine (iMeanRow_any a b _ xs _ (HU.out.below HB0.out) HN.out).mono ?_; rw [H1.out]; rintro e w2 ⟨⟨r, rfl, hr⟩, hb2⟩
      have hb3 := HB0.out.trans (hb2.mono HB0.out.size)
      have c := (GP.below HP.out hb2).cells; have c0 := c.1; have c1' := c.2; clear c
      go_wp2_with fail
      refine (iIsMode_any a b m _ ⟨HA.out.1, HA.out.2.1⟩ HM.out).mono ?_; rw [H2.out]; rintro e w3 ⟨rfl, hb4⟩
      go_wp2_with fail
      go_ret2
      exact ⟨⟨_, _, rfl, Is.const rfl, Is.const rfl⟩, hb3.trans (hb4.mono hb3.size)⟩
    | true =>
      have H2 := Lib.hid h2
      have HR := Lib.hid (okMo_yes h1 h2)
      obtain rfl : ok = true := HOK.out.symm.trans HR.out.1
      obtain rfl : X = modeRe a.toNat (mrowF a.toNat b.toNat xs) m.toNat := HX.out.symm.trans HR.out.2.1
      obtain rfl : Y = modeIm a.toNat (mrowF a.toNat b.toNat xs) m.toNat := HY.out.symm.trans HR.out.2.2
      have hin : 0 ≤ m ∧ m ≤ a - 1 := of_decide_eq_true h2
      have HL := Lib.hid (show lenMeanRow a b xs = a.toNat by unfold lenMeanRow; rw [H1.out, if_pos rfl])
      obtain ⟨M, rfl⟩ : ∃ M : Nat, m = (M : Int) := ⟨m.toNat, by omega⟩
      have HMM := Lib.hid (show M < a.toNat by omega)
      clear h1 h2 hn hin
      rw [Int.toNat_natCast]
      go_enter Try.func30, Try.ntmps30
      go_wp2_with fail
      generalize w.alloc (.cells #[.int .i64 a, .int .i64 b] 27) = w1 at HB0 HP ⊢
      refine (iMeanRow_any a b _ xs _ (HU.out.below HB0.out) HN.out).mono ?_; rw [H1.out, HL.out]; rintro e w2 ⟨⟨r, rfl, hr⟩, hb2⟩
      have HR2 := Lib.hid hr
      have HB3 := Lib.hid (HB0.out.trans (hb2.mono HB0.out.size))
      have c := (GP.below HP.out hb2).cells; have c0 := c.1; have c1' := c.2; clear c hr hb2
      obtain ⟨ar, cr, hre⟩ : ∃ ar cr, r = .slice ar a.toNat cr := by
        obtain ⟨rs, hl, he, ho⟩ := HR2.out
        obtain ⟨aq, cq, e, _⟩ := fown_form ho
        exact ⟨aq, cq, by rw [e, hl]⟩
      subst hre
      go_wp2_with fail
      refine (iIsMode_any a b (M : Int) _ ⟨HA.out.1, HA.out.2.1⟩ HM.out).mono ?_; rw [H2.out]; rintro e w3 ⟨rfl, hb4⟩
      clear c0 c1'
      have HB5 := Lib.hid (HB3.out.trans (hb4.mono HB3.out.size))
      obtain ⟨rs, hl, he, hfs⟩ := fres_FS (fres_below HR2.out hb4)
      have HE := Lib.hid he; have HLR := Lib.hid hl; have HFS := Lib.hid hfs
      clear hb4 hl he hfs
      go_wp2_with fail
      refine (spectrumOf_any _ rs _ HFS.out (by have := HLR.out; have := HA.out; omega) (by have := HLR.out; have := HA.out; omega)).mono ?_; rintro e w6 ⟨⟨r6, rfl, hr6⟩, hb6⟩
      have HB6 := Lib.hid (HB5.out.trans (hb6.mono HB5.out.size))
      obtain ⟨g, c, x, y, rfl, hcx, hx, hy⟩ := cres_at hr6 (show M < rs.length by have := HLR.out; have := HMM.out; omega)
      rw [(spec_mode HE.out M).1, HLR.out] at hx; rw [(spec_mode HE.out M).2, HLR.out] at hy
      have i1 : (M : Int) < (rs.length : Int) := by have := HLR.out; have := HMM.out; omega
      have i2 : (0 : Int) ≤ (M : Int) := Int.natCast_nonneg _
      clear hb6 hr6
      go_wp2_with fail
      go_ret2
      exact ⟨⟨_, _, rfl, hx, hy⟩, HB6.out⟩

set_option maxHeartbeats 1000000 in
set_option maxRecDepth 100000 in
theorem sModeOf_any (a b : Int) (v : Value) (xs : List Nat) (m : Int) (w : World) (hv : FS .f32 w v xs) (hn : xs.length ≤ 1048576) (hm : -9223372036854775808 ≤ m ∧ m ≤ 9223372036854775807) :
    Calls Try.prog 29 #[GV a b, v, .int .i64 m] w fun e w' => (∃ r s, e = .returned (.tuple #[.complex .f32 r s, .bool (okModeOf a b xs m)]) ∧ Is .f32 r (valModeOf a b xs m) ∧ Is .f32 s (val2ModeOf a b xs m)) ∧ Below w.heap.size w w' := by
  obtain ⟨ok, hok⟩ : ∃ ok, okModeOf a b xs m = ok := ⟨_, rfl⟩
  obtain ⟨X, hX⟩ : ∃ X, valModeOf a b xs m = X := ⟨_, rfl⟩
  obtain ⟨Y, hY⟩ : ∃ Y, val2ModeOf a b xs m = Y := ⟨_, rfl⟩
  rw [hok, hX, hY]
  have HOK := Lib.hid hok; have HX := Lib.hid hX; have HY := Lib.hid hY; have HU := Lib.hid hv
  clear hok hX hY hm
  obtain ⟨a1, c1, rfl, _⟩ := hv
  have HP := Lib.hid (gp_new w a b 27)
  have HB0 := Lib.hid ((Below.refl w.heap.size w).alloc (Nat.le_refl _) (.cells #[.int .i64 a, .int .i64 b] 27))
  cases h1 : fieldOk a b xs.length with
  | false =>
    have H1 := Lib.hid h1
    have HR := Lib.hid (okMo_no (m := m) (.inl h1))
    obtain rfl : ok = false := HOK.out.symm.trans HR.out.1
    obtain rfl : X = 0 := HX.out.symm.trans HR.out.2.1
    obtain rfl : Y = 0 := HY.out.symm.trans HR.out.2.2
    clear h1 hn
    go_enter Try.func29, Try.ntmps29
    go_wp2_with fail
    generalize w.alloc (.cells #[.int .i64 a, .int .i64 b] 27) = w1 at HB0 HP ⊢
    refine (sField_any _ a b a1 xs.length c1 _ HP.out).mono ?_; rw [H1.out]; rintro e w' ⟨rfl, m1, rfl⟩
    go_wp2_with fail
    go_ret2
    exact ⟨⟨_, _, rfl, Is.const rfl, Is.const rfl⟩, below_drewN HB0.out _⟩
  | true =>
    have H1 := Lib.hid h1
    have HA := Lib.hid (fieldOk_true h1)
    cases h2 : modeB a m with
    | false =>
      have H2 := Lib.hid h2
      have HR := Lib.hid (okMo_no (b := b) (xs := xs) (.inr h2))
      obtain rfl : ok = false := HOK.out.symm.trans HR.out.1
      obtain rfl : X = 0 := HX.out.symm.trans HR.out.2.1
      obtain rfl : Y = 0 := HY.out.symm.trans HR.out.2.2
      clear h1 h2 hn
      go_enter Try.func29, Try.ntmps29
      go_wp2_with fail
      generalize w.alloc (.cells #[.int .i64 a, .int .i64 b] 27) = w1 at HB0 HP ⊢
      refine (sField_any _ a b a1 xs.length c1 _ HP.out).mono ?_; rw [H1.out]; rintro e w' ⟨rfl, m1, rfl⟩
      go_wp2_with fail
      refine (sMode_any _ a b m _ (GP.drewN HP.out m1) ⟨HA.out.1, HA.out.2.1⟩).mono ?_; rw [H2.out]; rintro e w' ⟨rfl, rfl⟩
      go_wp2_with fail
      go_ret2
      exact ⟨⟨_, _, rfl, Is.const rfl, Is.const rfl⟩, below_drewN HB0.out _⟩
    | true =>
      have H2 := Lib.hid h2
      have HR := Lib.hid (okMo_yes h1 h2)
      obtain rfl : ok = true := HOK.out.symm.trans HR.out.1
      obtain rfl : X = modeRe a.toNat (mrowF a.toNat b.toNat xs) m.toNat := HX.out.symm.trans HR.out.2.1
      obtain rfl : Y = modeIm a.toNat (mrowF a.toNat b.toNat xs) m.toNat := HY.out.symm.trans HR.out.2.2
      have hin : 0 ≤ m ∧ m ≤ a - 1 := of_decide_eq_true h2
      obtain ⟨M, rfl⟩ : ∃ M : Nat, m = (M : Int) := ⟨m.toNat, by omega⟩
      obtain ⟨A, rfl⟩ : ∃ A : Nat, a = (A : Int) := ⟨a.toNat, by have := HA.out; omega⟩
      obtain ⟨B, rfl⟩ : ∃ B : Nat, b = (B : Int) := ⟨b.toNat, by have := HA.out; omega⟩
      have HMM := Lib.hid (show M < A by omega)
      clear h1 h2 hn hin
      rw [Int.toNat_natCast, Int.toNat_natCast, Int.toNat_natCast]
      go_enter Try.func29, Try.ntmps29
      go_wp2_with fail
      generalize w.alloc (.cells #[.int .i64 (A : Int), .int .i64 (B : Int)] 27) = w1 at HB0 HP ⊢
      refine (sField_any _ (A : Int) (B : Int) a1 xs.length c1 _ HP.out).mono ?_; rw [H1.out]; rintro e w' ⟨rfl, m1, rfl⟩
      go_wp2_with fail
      refine (sMode_any _ (A : Int) (B : Int) (M : Int) _ (GP.drewN HP.out m1) ⟨HA.out.1, HA.out.2.1⟩).mono ?_; rw [H2.out]; rintro e w' ⟨rfl, rfl⟩
      have HB2 := Lib.hid (below_drewN HB0.out m1)
      go_wp2_with fail
      refine (sMean8_any _ A B _ xs _ (GP.drewN HP.out m1) (HU.out.below HB2.out) (by have := HA.out; omega) (by have := HA.out; omega) HA.out.2.2.2.2.1).mono ?_; rintro e w3 ⟨⟨r, rfl, hr⟩, hb3⟩
      have HB3 := Lib.hid (HB2.out.trans (hb3.mono HB2.out.size))
      obtain ⟨rs, hl, he, hfs⟩ := fres_FS hr
      have HE := Lib.hid he; have HLR := Lib.hid hl; have HFS := Lib.hid hfs
      clear hb3 hl he hfs hr
      go_wp2_with fail
      refine (sSpectrum8_any _ rs _ HFS.out (by have := HLR.out; have := HA.out; omega)).mono ?_; rintro e w6 ⟨⟨r6, rfl, hr6⟩, hb6⟩
      have HB6 := Lib.hid (HB3.out.trans (hb6.mono HB3.out.size))
      obtain ⟨g, c, x, y, rfl, hcx, hx, hy⟩ := cres_at hr6 (show M < rs.length by have := HLR.out; have := HMM.out; omega)
      rw [(spec_mode HE.out M).1, HLR.out] at hx; rw [(spec_mode HE.out M).2, HLR.out] at hy
      have i1 : (M : Int) < (rs.length : Int) := by have := HLR.out; have := HMM.out; omega
      have i2 : (0 : Int) ≤ (M : Int) := Int.natCast_nonneg _
      clear hb6 hr6
      go_wp2_with fail
      go_ret2
      exact ⟨⟨_, _, rfl, hx, hy⟩, HB6.out⟩
end Go.Proofs.Ytlfnbnhbobohlaa
