/-
  Modes of a grid and what they are multiplied with, of the program and of the model.
-/
import Derived.Test.YtlfnbnhbobohlaaAsc
import Derived.Test.YtlfnbnhbobohlaaTurns
import Derived.Test.YtlfnbnhbobohlaaMean
namespace Go.Proofs.Ytlfnbnhbobohlaa
open Go.Fl Go.RowKit
set_option linter.unusedSimpArgs false
set_option linter.unusedVariables false

theorem sub1_wrap {a : Int} (h : 4 ≤ a ∧ a ≤ 16) : wrap64 (a - 1) = a - 1 ∧ IntKind.i64.wrap (a - 1) = a - 1 ∧ wrap64 (2 * a) = 2 * a ∧ IntKind.i64.wrap (2 * a) = 2 * a := by
  rw [wrap_i64, wrap_i64]; unfold wrap64; omega
/-- m is the number of a mode. -/
def modeB (a m : Int) : Bool := decide (0 ≤ m ∧ m ≤ a - 1)
theorem wfI {n : Int} (h : -9223372036854775808 ≤ n ∧ n ≤ 9223372036854775807) : (Lit.int .i64 n).wf = true := by simp [Lit.wf, IntKind.min, IntKind.max, IntKind.signed, IntKind.bits]; omega
theorem ns3 {w : World} {g : Nat} {x y z : Int} {t : TypeId} (h : w.heap[g]? = some (.cells #[.int .i64 x, .int .i64 y, .int .i64 z] t)) (hx : -9223372036854775808 ≤ x ∧ x ≤ 9223372036854775807) (hy : -9223372036854775808 ≤ y ∧ y ≤ 9223372036854775807) (hz : -9223372036854775808 ≤ z ∧ z ≤ 9223372036854775807) :
    Nl.NS .i64 w (.slice (some ⟨g, 0, none⟩) 3 3) [x, y, z] :=
  ns_of (xs := [x, y, z]) h (by intro u hu; rcases List.mem_cons.1 hu with rfl | hu; exact wfI hx; rcases List.mem_cons.1 hu with rfl | hu; exact wfI hy; rcases List.mem_cons.1 hu with rfl | hu; exact wfI hz; cases hu) (by simp)
theorem ascend3 (x y z : Int) (g : Nat) (t : TypeId) (w : World) (h : w.heap[g]? = some (.cells #[.int .i64 x, .int .i64 y, .int .i64 z] t)) (hx : -9223372036854775808 ≤ x ∧ x ≤ 9223372036854775807) (hy : -9223372036854775808 ≤ y ∧ y ≤ 9223372036854775807) (hz : -9223372036854775808 ≤ z ∧ z ≤ 9223372036854775807) :
    Calls Try.prog 66 #[.slice (some ⟨g, 0, none⟩) 3 3] w fun e w' => e = .returned (.bool (decide (x ≤ y ∧ y ≤ z))) ∧ ∃ n, w' = w.drewN n := by
  have := ascend_any _ [x, y, z] w (ns3 h hx hy hz) (by simp) (by simp)
  rw [ascB3] at this
  exact this

set_option maxHeartbeats 1000000 in
set_option maxRecDepth 100000 in
theorem iIsMode_any (a b m : Int) (w : World) (ha : 4 ≤ a ∧ a ≤ 16) (hm : -9223372036854775808 ≤ m ∧ m ≤ 9223372036854775807) :
    Calls Try.prog 76 #[GV a b, .int .i64 m] w fun e w' => e = .returned (.bool (modeB a m)) ∧ Below w.heap.size w w' := by
  obtain ⟨q, hq⟩ : ∃ q, modeB a m = q := ⟨_, rfl⟩
  rw [hq]
  have HQ := Lib.hid (show decide (0 ≤ m ∧ m ≤ a - 1) = q from hq)
  clear hq
  have h1 := (sub1_wrap ha).1
  have HM := Lib.hid hm; have HA := Lib.hid ha
  clear hm ha
  have hb0 := (Below.refl w.heap.size w).alloc (Nat.le_refl _) (.cells #[.int .i64 a, .int .i64 b] 27)
  have c := (gp_new w a b 27).cells; have c0 := c.1; have c1 := c.2; clear c
  go_enter Try.func76, Try.ntmps76
  go_wp2_with fail
  have hnew := heap_alloc_new (w.alloc (.cells #[.int .i64 a, .int .i64 b] 27)) (.cells #[.int .i64 0, .int .i64 m, .int .i64 (a - 1)] 2)
  rw [World.size_alloc] at hnew
  generalize w.alloc (.cells #[.int .i64 a, .int .i64 b] 27) = w1 at hb0 hnew ⊢
  refine (ascend3 0 m (a - 1) _ 2 _ hnew (by omega) HM.out (by have := HA.out; omega)).mono ?_; rw [HQ.out]; rintro e w' ⟨rfl, n, rfl⟩
  go_wp2_with fail
  go_ret
  exact ⟨rfl, below_drewN (hb0.alloc hb0.size _) _⟩
set_option maxRecDepth 100000 in
theorem sMode_any (p : Value) (a b m : Int) (w : World) (hp : GP w p a b) (ha : 4 ≤ a ∧ a ≤ 16) :
    Calls Try.prog 75 #[p, .int .i64 m] w fun e w' => e = .returned (.bool (modeB a m)) ∧ w = w' := by
  obtain ⟨q, hq⟩ : ∃ q, modeB a m = q := ⟨_, rfl⟩
  rw [hq]
  have HQ := Lib.hid (show decide (0 ≤ m ∧ m ≤ a - 1) = q from hq)
  clear hq
  have h1 := (sub1_wrap ha).1
  obtain ⟨g, rfl, hg, c0, c1⟩ := hp
  go_enter Try.func75, Try.ntmps75
  go_wp2_with fail
  refine (sIn_any m 0 (a - 1) _).mono ?_; rw [HQ.out]; rintro e w' ⟨rfl, rfl⟩
  go_wp2_with fail
  go_ret
  exact ⟨rfl, rfl⟩

/-- What a mode is multiplied with. -/
def halfTurn (m a : Int) : Nat := sineT (fop .quo .f32 (floatOfInt .f32 m) (floatOfInt .f32 (2 * a)))
def numM (a b m n : Int) : Nat := fop .mul .f32 1082130432 (fop .add .f32 (fop .mul .f32 (halfTurn m a) (halfTurn m a)) (fop .mul .f32 (halfTurn n b) (halfTurn n b)))
def okModeNumber (a b m n : Int) : Bool := gridOk a b && (modeB a m && modeB b n)
def valModeNumber (a b m n : Int) : Nat := if okModeNumber a b m n then numM a b m n else 0
theorem okMN_yes {a b m n : Int} (h1 : gridOk a b = true) (h2 : modeB a m = true) (h3 : modeB b n = true) : okModeNumber a b m n = true ∧ valModeNumber a b m n = numM a b m n := by
  have e : okModeNumber a b m n = true := by unfold okModeNumber; rw [h1, h2, h3]; rfl
  exact ⟨e, by unfold valModeNumber; rw [if_pos e]⟩
theorem okMN_no {a b m n : Int} (h : gridOk a b = false ∨ modeB a m = false ∨ modeB b n = false) : okModeNumber a b m n = false ∧ valModeNumber a b m n = 0 := by
  have e : okModeNumber a b m n = false := by unfold okModeNumber; rcases h with h | h | h <;> rw [h] <;> simp
  exact ⟨e, by unfold valModeNumber; rw [if_neg (by rw [e]; simp)]⟩

set_option maxHeartbeats 1000000 in
set_option maxRecDepth 100000 in
theorem sNumber8_any (p : Value) (a b m n : Int) (w : World) (hp : GP w p a b) (hg : gridOk a b = true) :
    Calls Try.prog 88 #[p, .int .i64 m, .int .i64 n] w fun e w' => (∃ r, e = .returned (.float .f32 r) ∧ Is .f32 r (numM a b m n)) ∧ ∃ k, w' = w.drewN k := by
  have hA := gridOk_true hg
  have h1 := (sub1_wrap ⟨hA.1, hA.2.1⟩).2.2.1
  have h2 := (sub1_wrap (a := b) ⟨hA.2.2.1, hA.2.2.2⟩).2.2.1
  have i1 := intWord32_is m; have i2 := intWord32_is (2 * a); have i3 := intWord32_is n; have i4 := intWord32_is (2 * b)
  obtain ⟨g, rfl, hgl, c0, c1⟩ := hp
  clear hA hg
  go_enter Try.func88, Try.ntmps88
  go_wp2_with (first | (apply wpList_farith; rfl; rfl; rfl; rfl; (first | with_reducible assumption | exact Is.const rfl); (first | with_reducible assumption | exact Is.const rfl); intro r n hr) | fail)
  refine (sSine_any _ _ (by assumption) _).mono ?_; rintro e w' ⟨⟨r1, rfl, hr1⟩, k1, rfl⟩
  go_wp2_with (first | (apply wpList_farith; rfl; rfl; rfl; rfl; (first | with_reducible assumption | exact Is.const rfl); (first | with_reducible assumption | exact Is.const rfl); intro r n hr) | fail)
  refine (sSine_any _ _ (by assumption) _).mono ?_; rintro e w' ⟨⟨r2, rfl, hr2⟩, k2, rfl⟩
  go_wp2_with (first | (apply wpList_farith; rfl; rfl; rfl; rfl; (first | with_reducible assumption | exact Is.const rfl); (first | with_reducible assumption | exact Is.const rfl); intro r n hr) | fail)
  go_ret
  exact ⟨⟨_, rfl, by assumption⟩, _, rfl⟩

set_option maxHeartbeats 1000000 in
set_option maxRecDepth 100000 in
theorem sModeNumber_any (a b m n : Int) (w : World) (hm : -9223372036854775808 ≤ m ∧ m ≤ 9223372036854775807) (hn : -9223372036854775808 ≤ n ∧ n ≤ 9223372036854775807) :
    Calls Try.prog 39 #[GV a b, .int .i64 m, .int .i64 n] w fun e w' => (∃ r, e = .returned (.tuple #[.float .f32 r, .bool (okModeNumber a b m n)]) ∧ Is .f32 r (valModeNumber a b m n)) ∧ Below w.heap.size w w' := by
  obtain ⟨ok, hok⟩ : ∃ ok, okModeNumber a b m n = ok := ⟨_, rfl⟩
  obtain ⟨X, hX⟩ : ∃ X, valModeNumber a b m n = X := ⟨_, rfl⟩
  rw [hok, hX]
  have HOK := Lib.hid hok; have HX := Lib.hid hX
  clear hok hX
  have HP := Lib.hid (gp_new w a b 27)
  have hb0 := (Below.refl w.heap.size w).alloc (Nat.le_refl _) (.cells #[.int .i64 a, .int .i64 b] 27)
  have hc := (gp_new w a b 27).cells
  have c0 := hc.1; have c1 := hc.2
  clear hc
  cases h1 : gridOk a b with
  | false =>
    have H1 := Lib.hid h1
    have HR := Lib.hid (okMN_no (m := m) (n := n) (.inl h1))
    obtain rfl : ok = false := HOK.out.symm.trans HR.out.1
    obtain rfl : X = 0 := HX.out.symm.trans HR.out.2
    clear h1
    go_enter Try.func39, Try.ntmps39
    go_wp2_with fail
    refine (sIs_any _ a b _ HP.out).mono ?_; rw [H1.out]; rintro e w' ⟨rfl, rfl⟩
    go_wp2_with fail
    go_ret2
    exact ⟨⟨0, rfl, Is.const rfl⟩, hb0⟩
  | true =>
    have H1 := Lib.hid h1
    have hA := gridOk_true h1
    have hs1 := (sub1_wrap ⟨hA.1, hA.2.1⟩).1
    have hs2 := (sub1_wrap (a := b) ⟨hA.2.2.1, hA.2.2.2⟩).1
    clear h1 hA
    cases h2 : modeB a m with
    | false =>
      have H2 := Lib.hid (show decide (0 ≤ m ∧ m ≤ a - 1) = false from h2)
      have HR := Lib.hid (okMN_no (a := a) (b := b) (n := n) (.inr (.inl h2)))
      obtain rfl : ok = false := HOK.out.symm.trans HR.out.1
      obtain rfl : X = 0 := HX.out.symm.trans HR.out.2
      clear h2
      go_enter Try.func39, Try.ntmps39
      go_wp2_with fail
      refine (sIs_any _ a b _ HP.out).mono ?_; rw [H1.out]; rintro e w' ⟨rfl, rfl⟩
      go_wp2_with fail
      refine (sIn_any m 0 (a - 1) _).mono ?_; rw [H2.out]; rintro e w' ⟨rfl, rfl⟩
      go_wp2_with fail
      go_ret2
      exact ⟨⟨0, rfl, Is.const rfl⟩, hb0⟩
    | true =>
      have H2 := Lib.hid (show decide (0 ≤ m ∧ m ≤ a - 1) = true from h2)
      cases h3 : modeB b n with
      | false =>
        have H3 := Lib.hid (show decide (0 ≤ n ∧ n ≤ b - 1) = false from h3)
        have HR := Lib.hid (okMN_no (a := a) (m := m) (.inr (.inr h3)))
        obtain rfl : ok = false := HOK.out.symm.trans HR.out.1
        obtain rfl : X = 0 := HX.out.symm.trans HR.out.2
        clear h2 h3
        go_enter Try.func39, Try.ntmps39
        go_wp2_with fail
        refine (sIs_any _ a b _ HP.out).mono ?_; rw [H1.out]; rintro e w' ⟨rfl, rfl⟩
        go_wp2_with fail
        refine (sIn_any m 0 (a - 1) _).mono ?_; rw [H2.out]; rintro e w' ⟨rfl, rfl⟩
        go_wp2_with fail
        refine (sIn_any n 0 (b - 1) _).mono ?_; rw [H3.out]; rintro e w' ⟨rfl, rfl⟩
        go_wp2_with fail
        go_ret2
        exact ⟨⟨0, rfl, Is.const rfl⟩, hb0⟩
      | true =>
        have H3 := Lib.hid (show decide (0 ≤ n ∧ n ≤ b - 1) = true from h3)
        have HR := Lib.hid (okMN_yes H1.out h2 h3)
        obtain rfl : ok = true := HOK.out.symm.trans HR.out.1
        obtain rfl : X = numM a b m n := HX.out.symm.trans HR.out.2
        clear h2 h3
        go_enter Try.func39, Try.ntmps39
        go_wp2_with fail
        refine (sIs_any _ a b _ HP.out).mono ?_; rw [H1.out]; rintro e w' ⟨rfl, rfl⟩
        go_wp2_with fail
        refine (sIn_any m 0 (a - 1) _).mono ?_; rw [H2.out]; rintro e w' ⟨rfl, rfl⟩
        go_wp2_with fail
        refine (sIn_any n 0 (b - 1) _).mono ?_; rw [H3.out]; rintro e w' ⟨rfl, rfl⟩
        go_wp2_with fail
        refine (sNumber8_any _ a b m n _ HP.out H1.out).mono ?_; rintro e w' ⟨⟨r, rfl, hr⟩, k, rfl⟩
        go_wp2_with fail
        go_ret2
        exact ⟨⟨r, rfl, hr⟩, below_drewN hb0 _⟩

set_option maxHeartbeats 1000000 in
set_option maxRecDepth 100000 in
theorem iModeNumber_any (a b m n : Int) (w : World) (hm : -9223372036854775808 ≤ m ∧ m ≤ 9223372036854775807) (hn : -9223372036854775808 ≤ n ∧ n ≤ 9223372036854775807) :
    Calls Try.prog 40 #[GV a b, .int .i64 m, .int .i64 n] w fun e w' => (∃ r, e = .returned (.tuple #[.float .f32 r, .bool (okModeNumber a b m n)]) ∧ Is .f32 r (valModeNumber a b m n)) ∧ Below w.heap.size w w' := by
  obtain ⟨ok, hok⟩ : ∃ ok, okModeNumber a b m n = ok := ⟨_, rfl⟩
  obtain ⟨X, hX⟩ : ∃ X, valModeNumber a b m n = X := ⟨_, rfl⟩
  rw [hok, hX]
  have HOK := Lib.hid hok; have HX := Lib.hid hX; have HM := Lib.hid hm; have HN := Lib.hid hn
  clear hok hX hm hn
  have HP := Lib.hid (gp_new w a b 27)
  have HB0 := Lib.hid ((Below.refl w.heap.size w).alloc (Nat.le_refl _) (.cells #[.int .i64 a, .int .i64 b] 27))
  cases h1 : gridOk a b with
  | false =>
    have H1 := Lib.hid h1
    have HR := Lib.hid (okMN_no (m := m) (n := n) (.inl h1))
    obtain rfl : ok = false := HOK.out.symm.trans HR.out.1
    obtain rfl : X = 0 := HX.out.symm.trans HR.out.2
    clear h1
    go_enter Try.func40, Try.ntmps40
    go_wp2_with fail
    generalize w.alloc (.cells #[.int .i64 a, .int .i64 b] 27) = w1 at HB0 HP ⊢
    refine (iValidGrid_any a b _).mono ?_; rw [H1.out]; rintro e w2 ⟨rfl, hb2⟩
    go_wp2_with fail
    go_ret2
    exact ⟨⟨0, rfl, Is.const rfl⟩, HB0.out.trans (hb2.mono HB0.out.size)⟩
  | true =>
    have H1 := Lib.hid h1
    have HA := Lib.hid (gridOk_true h1)
    clear h1
    cases h2 : modeB a m with
    | false =>
      have H2 := Lib.hid h2
      have HR := Lib.hid (okMN_no (a := a) (b := b) (n := n) (.inr (.inl h2)))
      obtain rfl : ok = false := HOK.out.symm.trans HR.out.1
      obtain rfl : X = 0 := HX.out.symm.trans HR.out.2
      clear h2
      go_enter Try.func40, Try.ntmps40
      go_wp2_with fail
      generalize w.alloc (.cells #[.int .i64 a, .int .i64 b] 27) = w1 at HB0 HP ⊢
      refine (iValidGrid_any a b _).mono ?_; rw [H1.out]; rintro e w2 ⟨rfl, hb2⟩
      have c := (GP.below HP.out hb2).cells; have c0 := c.1; have c1 := c.2; clear c
      go_wp2_with fail
      refine (iIsMode_any a b m _ ⟨HA.out.1, HA.out.2.1⟩ HM.out).mono ?_; rw [H2.out]; rintro e w3 ⟨rfl, hb3⟩
      go_wp2_with fail
      go_ret2
      exact ⟨⟨0, rfl, Is.const rfl⟩, HB0.out.trans ((hb2.trans (hb3.mono hb2.size)).mono HB0.out.size)⟩
    | true =>
      have H2 := Lib.hid h2
      have hs2 := (sub1_wrap (a := b) ⟨HA.out.2.2.1, HA.out.2.2.2⟩).1
      cases h3 : modeB b n with
      | false =>
        have H3 := Lib.hid (show decide (0 ≤ n ∧ n ≤ b - 1) = false from h3)
        have HR := Lib.hid (okMN_no (a := a) (m := m) (.inr (.inr h3)))
        obtain rfl : ok = false := HOK.out.symm.trans HR.out.1
        obtain rfl : X = 0 := HX.out.symm.trans HR.out.2
        clear h2 h3
        go_enter Try.func40, Try.ntmps40
        go_wp2_with fail
        generalize w.alloc (.cells #[.int .i64 a, .int .i64 b] 27) = w1 at HB0 HP ⊢
        refine (iValidGrid_any a b _).mono ?_; rw [H1.out]; rintro e w2 ⟨rfl, hb2⟩
        have c := (GP.below HP.out hb2).cells; have c0 := c.1; have c1 := c.2; clear c
        go_wp2_with fail
        refine (iIsMode_any a b m _ ⟨HA.out.1, HA.out.2.1⟩ HM.out).mono ?_; rw [H2.out]; rintro e w3 ⟨rfl, hb3⟩
        have hb4 := HB0.out.trans ((hb2.trans (hb3.mono hb2.size)).mono HB0.out.size)
        have c := (GP.below (GP.below HP.out hb2) hb3).cells; have d0 := c.1; have d1 := c.2; clear c c0 c1
        go_wp2_with fail
        refine (ascend3 0 n (b - 1) _ 2 _ (heap_alloc_new _ _) (by omega) HN.out (by have := HA.out; omega)).mono ?_; rw [H3.out]; rintro e w' ⟨rfl, k, rfl⟩
        go_wp2_with fail
        go_ret2
        exact ⟨⟨0, rfl, Is.const rfl⟩, below_drewN (hb4.alloc hb4.size _) _⟩
      | true =>
        have H3 := Lib.hid (show decide (0 ≤ n ∧ n ≤ b - 1) = true from h3)
        have HR := Lib.hid (okMN_yes H1.out h2 h3)
        obtain rfl : ok = true := HOK.out.symm.trans HR.out.1
        obtain rfl : X = numM a b m n := HX.out.symm.trans HR.out.2
        have hw1 := (sub1_wrap ⟨HA.out.1, HA.out.2.1⟩).2.2.1
        have hw2 := (sub1_wrap (a := b) ⟨HA.out.2.2.1, HA.out.2.2.2⟩).2.2.1
        have i1 := intWord32_is m; have i2 := intWord32_is (2 * a); have i3 := intWord32_is n; have i4 := intWord32_is (2 * b)
        clear h2 h3
        go_enter Try.func40, Try.ntmps40
        go_wp2_with fail
        generalize w.alloc (.cells #[.int .i64 a, .int .i64 b] 27) = w1 at HB0 HP ⊢
        refine (iValidGrid_any a b _).mono ?_; rw [H1.out]; rintro e w2 ⟨rfl, hb2⟩
        have c := (GP.below HP.out hb2).cells; have c0 := c.1; have c1 := c.2; clear c
        go_wp2_with fail
        refine (iIsMode_any a b m _ ⟨HA.out.1, HA.out.2.1⟩ HM.out).mono ?_; rw [H2.out]; rintro e w3 ⟨rfl, hb3⟩
        have hb4 := HB0.out.trans ((hb2.trans (hb3.mono hb2.size)).mono HB0.out.size)
        have HQ := Lib.hid (GP.below (GP.below HP.out hb2) hb3)
        have d0 := HQ.out.cells.1; have d1 := HQ.out.cells.2; clear c0 c1
        go_wp2_with fail
        refine (ascend3 0 n (b - 1) _ 2 _ (heap_alloc_new _ _) (by omega) HN.out (by have := HA.out; omega)).mono ?_; rw [H3.out]; rintro e w' ⟨rfl, k, rfl⟩
        have hb5 := below_drewN (hb4.alloc hb4.size (.cells #[.int .i64 0, .int .i64 n, .int .i64 (b - 1)] 2)) k
        have HQ5 := Lib.hid (GP.drewN (GP.below HQ.out ((Below.refl w3.heap.size w3).alloc (Nat.le_refl _) (.cells #[.int .i64 0, .int .i64 n, .int .i64 (b - 1)] 2))) k)
        generalize (w3.alloc (.cells #[.int .i64 0, .int .i64 n, .int .i64 (b - 1)] 2)).drewN k = w5 at hb5 HQ5 ⊢
        clear d0 d1
        have d0 := HQ5.out.cells.1; have d1 := HQ5.out.cells.2
        go_wp2_with (first | (apply wpList_farith; rfl; rfl; rfl; rfl; (first | with_reducible assumption | exact Is.const rfl); (first | with_reducible assumption | exact Is.const rfl); intro r n hr) | fail)
        refine (iSineTurns_any _ _ (by assumption) _).mono ?_; rintro e w' ⟨⟨r1, rfl, hr1⟩, k1, rfl⟩
        go_wp2_with (first | (apply wpList_farith; rfl; rfl; rfl; rfl; (first | with_reducible assumption | exact Is.const rfl); (first | with_reducible assumption | exact Is.const rfl); intro r n hr) | fail)
        refine (iSineTurns_any _ _ (by assumption) _).mono ?_; rintro e w' ⟨⟨r2, rfl, hr2⟩, k2, rfl⟩
        go_wp2_with (first | (apply wpList_farith; rfl; rfl; rfl; rfl; (first | with_reducible assumption | exact Is.const rfl); (first | with_reducible assumption | exact Is.const rfl); intro r n hr) | fail)
        go_ret2
        exact ⟨⟨_, rfl, by assumption⟩, below_drewN hb5 _⟩
end Go.Proofs.Ytlfnbnhbobohlaa
