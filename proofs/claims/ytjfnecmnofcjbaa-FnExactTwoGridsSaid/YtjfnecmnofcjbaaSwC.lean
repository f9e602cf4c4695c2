/-
  SweepColour, of the program and of the model.
-/
import Derived.Test.YtjfnecmnofcjbaaSwp
import Derived.Test.YtjfnecmnofcjbaaSwpS
import Derived.Test.YtjfnecmnofcjbaaBrd
import Derived.Test.YtjfnecmnofcjbaaRest
namespace Go.Proofs.Ytjfnecmnofcjbaa
open Go.Fl Go.RowKit
open Go.Joins (ownsRow_le)
set_option linter.unusedSimpArgs false
set_option linter.unusedVariables false

theorem sweepAt_congr {a b : Int} {L L' F F' : Nat → Nat} {n k : Nat} (ha : 4 ≤ a) (hb : 4 ≤ b) (hn : (n : Int) = a * b) (hL : ∀ j, j < n → L j = L' j) (hF : ∀ j, j < n → F j = F' j) (hk : k < n) : sweepAt a b L F k = sweepAt a b L' F' k := by
  unfold sweepAt
  rw [hL k hk, hF _ (lt_of_area hn (nbI_facts (-1) 0 _ _ ha hb).2), hF _ (lt_of_area hn (nbI_facts 1 0 _ _ ha hb).2), hF _ (lt_of_area hn (nbI_facts 0 (-1) _ _ ha hb).2), hF _ (lt_of_area hn (nbI_facts 0 1 _ _ ha hb).2)]
theorem sweepF_congr {a b c : Int} {L L' F F' : Nat → Nat} {n : Nat} (ha : 4 ≤ a) (hb : 4 ≤ b) (hn : (n : Int) = a * b) (hL : ∀ j, j < n → L j = L' j) (hF : ∀ j, j < n → F j = F' j) : ∀ k, k ≤ n → ∀ j, j < n → sweepF a b c L F k j = sweepF a b c L' F' k j := by
  intro k
  induction k with
  | zero => intro _ j hj; exact hF j hj
  | succ k ih =>
    intro hk j hj
    show (if isHit a c k = true ∧ j = k then _ else _) = (if isHit a c k = true ∧ j = k then _ else _)
    rw [sweepAt_congr ha hb hn hL (ih (by omega)) (by omega), ih (by omega) j hj]
/-- What a sweep leaves, told by what the lists hold. -/
theorem EqOn.congr {rs : List Nat} {F G : Nat → Nat} {n : Nat} (h : EqOn rs F 0 n) (e : ∀ j, j < n → F j = G j) : EqOn rs G 0 n := fun j h1 h2 => by rw [← e j h2]; exact h j h1 h2
theorem RW.own {B : Nat} {w : World} {g cap : Nat} {xs : List Nat} (h : RW B w g cap xs) : FOwn B w (.slice (some ⟨g, 0, none⟩) xs.length cap) xs := h
theorem RW.of {B : Nat} {w : World} {v : Value} {xs : List Nat} (h : FOwn B w v xs) (hn : 0 < xs.length) : ∃ g cap, v = .slice (some ⟨g, 0, none⟩) xs.length cap ∧ RW B w g cap xs := by
  obtain ⟨g, cap, e, _, _⟩ := World.ownsRow.form h hn
  exact ⟨g, cap, e, by have h' : w.ownsRow B 37 1 v xs.length (xs.map (Value.float .f32)) := h; rw [e] at h'; exact h'⟩
theorem RW.res {B : Nat} {w : World} {g cap n : Nat} {xs : List Nat} {F : Nat → Nat} (h : RW B w g cap xs) (hn : xs.length = n) (he : EqOn xs F 0 n) : FRes B w (.slice (some ⟨g, 0, none⟩) n cap) n F := by
  subst hn; exact ⟨xs, rfl, EqOn.eqs he rfl, h⟩
theorem RW.le {B B' : Nat} {w : World} {g cap : Nat} {xs : List Nat} (h : RW B w g cap xs) (hB : B' ≤ B) : RW B' w g cap xs := ownsRow_le h hB

set_option maxHeartbeats 1000000 in
set_option maxRecDepth 100000 in
theorem sweep_any (a b c : Int) (gv capv gl capl : Nat) (xs ls : List Nat) (B : Nat) (w : World) (hv : RW B w gv capv xs) (hl : RW B w gl capl ls) (hne : gv ≠ gl) (h1 : fieldOk a b xs.length = true) (hll : ls.length = xs.length) (hwx : ∀ x ∈ xs, x < 2 ^ FloatKind.f32.format.width) (hwl : ∀ x ∈ ls, x < 2 ^ FloatKind.f32.format.width) :
    Calls Try.prog 94 #[BV a b (.slice (some ⟨gv, 0, none⟩) xs.length capv) (.slice (some ⟨gl, 0, none⟩) ls.length capl), .int .i64 c] w fun e w' => (∃ es, e = .returned (.tuple #[]) ∧ es.length = xs.length ∧ (∀ x ∈ es, x < 2 ^ FloatKind.f32.format.width) ∧ EqOn es (sweepF a b c (fun j => cn .f32 (ls.getD j 0)) (fun j => cn .f32 (xs.getD j 0)) xs.length) 0 xs.length ∧ RW B w' gv capv es ∧ RW B w' gl capl ls) ∧ w.grownBy w' (some gv) := by
  rw [hll]
  have HBX := Lib.hid (heap_alloc_new w (.cells #[.int .i64 a, .int .i64 b, .slice (some ⟨gv, 0, none⟩) xs.length capv, .slice (some ⟨gl, 0, none⟩) xs.length capl] 108))
  have hb0 := (Below.refl w.heap.size w).alloc (Nat.le_refl _) (.cells #[.int .i64 a, .int .i64 b, .slice (some ⟨gv, 0, none⟩) xs.length capv, .slice (some ⟨gl, 0, none⟩) xs.length capl] 108)
  have HV := Lib.hid (hv.still hb0); have HL := Lib.hid (hl.still hb0); have HD := Lib.hid (grown_below (row := some gv) hb0)
  have H1 := Lib.hid h1; have HLL := Lib.hid hll; have HWX := Lib.hid hwx; have HWL := Lib.hid hwl; have HNE := Lib.hid hne
  clear hb0 hv hl h1 hll hwx hwl hne
  go_enter Try.func94, Try.ntmps94
  go_wp2_with fail
  generalize w.alloc (.cells #[.int .i64 a, .int .i64 b, .slice (some ⟨gv, 0, none⟩) xs.length capv, .slice (some ⟨gl, 0, none⟩) xs.length capl] 108) = w1 at HBX HV HL HD ⊢
  have k0 := (four_cells HBX.out).1; have k1 := (four_cells HBX.out).2.1; have k2 := (four_cells HBX.out).2.2.1; have k3 := (four_cells HBX.out).2.2.2.1
  go_wp2_with fail
  have hh := sweepRows_any a b c gv capv gl capl xs ls B _ HV.out HL.out HNE.out H1.out HLL.out HWX.out HWL.out
  rw [HLL.out] at hh
  refine hh.mono ?_; clear hh; rintro e w2 ⟨⟨es, rfl, h⟩, hg⟩
  have HH := Lib.hid h; have HG := Lib.hid hg
  clear h hg k0 k1 k2 k3
  go_wp2_with fail
  go_end0
  exact ⟨⟨es, rfl, HH.out⟩, grown_trans HD.out HG.out⟩

theorem isColour_any (n : Int) (w : World) : Calls Try.prog 93 #[.int .i64 n] w fun e w' => e = .returned (.bool (decide (0 ≤ n) && decide (n < 2))) ∧ w = w' := by
  by_cases h : 0 ≤ n
  · go_enter Try.func93, Try.ntmps93
    go_wp2
    go_ret
    exact ⟨by simp [h], rfl⟩
  · go_enter Try.func93, Try.ntmps93
    go_wp2
    go_ret
    exact ⟨by simp; omega, rfl⟩

def okSweepColour (a b : Int) (xs zs : List Nat) (c : Int) : Bool := fieldOk a b xs.length && fieldOk a b zs.length && (decide (0 ≤ c) && decide (c < 2))
def lenSweepColour (a b : Int) (xs zs : List Nat) (c : Int) : Nat := if okSweepColour a b xs zs c then xs.length else 0
theorem lenSweepColour_le (a b : Int) (xs zs : List Nat) (c : Int) (h : xs.length ≤ 1048576) (h2 : zs.length ≤ 1048576) : lenSweepColour a b xs zs c ≤ 1048576 := by unfold lenSweepColour; split <;> omega
theorem okSw_yes {a b : Int} {xs zs : List Nat} {c : Int} (h1 : fieldOk a b xs.length = true) (h2 : fieldOk a b zs.length = true) (hc : (decide (0 ≤ c) && decide (c < 2)) = true) : okSweepColour a b xs zs c = true ∧ lenSweepColour a b xs zs c = xs.length := by
  have e : okSweepColour a b xs zs c = true := by unfold okSweepColour; rw [h1, h2, hc]; rfl
  exact ⟨e, by unfold lenSweepColour; rw [if_pos e]⟩
theorem okSw_no {a b : Int} {xs zs : List Nat} {c : Int} (h : (fieldOk a b xs.length && fieldOk a b zs.length) = false ∨ (decide (0 ≤ c) && decide (c < 2)) = false) : okSweepColour a b xs zs c = false ∧ lenSweepColour a b xs zs c = 0 := by
  have e : okSweepColour a b xs zs c = false := by unfold okSweepColour; rcases h with h | h <;> rw [h] <;> simp
  exact ⟨e, by unfold lenSweepColour; rw [if_neg (by rw [e]; simp)]⟩
def colourF (a b : Int) (xs zs : List Nat) (c : Int) : Nat → Nat := sweepF a b c (lvlF zs) (fun j => cn .f32 (xs.getD j 0)) xs.length
theorem colourF_of {a b c : Int} {xs zs ls es : List Nat} (h1 : fieldOk a b xs.length = true) (he : EqOn ls (lvlF zs) 0 xs.length) (h : EqOn es (sweepF a b c (fun j => cn .f32 (ls.getD j 0)) (fun j => cn .f32 (xs.getD j 0)) xs.length) 0 xs.length) : EqOn es (colourF a b xs zs c) 0 xs.length := by
  have hA := fieldOk_true h1
  exact h.congr (sweepF_congr hA.1 hA.2.2.1 hA.2.2.2.2.1 (fun j hj => (he j (Nat.zero_le _) hj).eq) (fun _ _ => rfl) _ (Nat.le_refl _))

set_option maxHeartbeats 1000000 in
set_option maxRecDepth 100000 in
theorem iSweepColour_any (a b : Int) (u : Value) (xs : List Nat) (v : Value) (zs : List Nat) (c : Int) (w : World) (hu : FS .f32 w u xs) (hn : xs.length ≤ 1048576) (hv : FS .f32 w v zs) (hn2 : zs.length ≤ 1048576) (hc : -9223372036854775808 ≤ c ∧ c ≤ 9223372036854775807) :
    Calls Try.prog 18 #[GV a b, u, v, .int .i64 c] w fun e w' => (∃ r, e = .returned (.tuple #[r, .bool (okSweepColour a b xs zs c)]) ∧ FRes w.heap.size w' r (lenSweepColour a b xs zs c) (colourF a b xs zs c)) ∧ Below w.heap.size w w' := by
  have HU := Lib.hid hu; have HV := Lib.hid hv
  obtain ⟨a1, c1, rfl, hlc, hcm, hwf, hmem⟩ := hu
  obtain ⟨a2, c2, rfl, hlc2, hcm2, hwf2, hmem2⟩ := hv
  have HWX := Lib.hid hwf
  have hb0 := (Below.refl w.heap.size w).alloc (Nat.le_refl _) (.cells #[.int .i64 a, .int .i64 b] 27)
  clear hmem hlc hcm hwf hmem2 hlc2 hcm2 hwf2
  obtain ⟨ok, hok⟩ : ∃ ok, okSweepColour a b xs zs c = ok := ⟨_, rfl⟩
  obtain ⟨N, hN⟩ : ∃ N, lenSweepColour a b xs zs c = N := ⟨_, rfl⟩
  rw [hok, hN]
  have HOK := Lib.hid hok; have HNN := Lib.hid hN
  clear hok hN
  cases h : fieldOk a b xs.length && fieldOk a b zs.length with
  | true =>
    rw [Bool.and_eq_true] at h
    have HLL := Lib.hid (show zs.length = xs.length by have := (fieldOk_true h.1).2.2.2.2.1; have := (fieldOk_true h.2).2.2.2.2.1; omega)
    have HA := Lib.hid (fieldOk_true h.1)
    have H1 := Lib.hid h.1; have H2 := Lib.hid h.2
    have hpos : 0 < xs.length := by
      have := HA.out; have h4 : 4 * 4 ≤ a * b := Int.mul_le_mul this.1 this.2.2.1 (by omega) (by omega); omega
    clear h
    go_enter Try.func18, Try.ntmps18
    go_wp2_with fail
    generalize w.alloc (.cells #[.int .i64 a, .int .i64 b] 27) = w1 at hb0 ⊢
    refine (newBoard_yes a b _ _ xs zs _ (HU.out.below hb0) (HV.out.below hb0) H1.out H2.out).mono ?_; rintro e w2 ⟨⟨p, q, rfl, hp, hq, hqp, hpq⟩, hb2⟩
    rw [HLL.out] at hq
    obtain ⟨gv, capv, rfl, hrv⟩ := RW.of hp hpos
    obtain ⟨gl, capl, ls, rfl, hlsl, hlse, hlso⟩ := fres_row hq hpos
    have hrl : RW w1.heap.size w2 gl capl ls := by show w2.ownsRow _ _ _ (.slice _ ls.length _) ls.length _; rw [hlsl]; exact hlso
    have hne : gv ≠ gl := by
      rcases hpq with h | h
      · cases h
      · exact fun e => h (by rw [e]; rfl)
    have hbb := hb0.trans (hb2.mono hb0.size)
    have hal := (Below.refl w2.heap.size w2).alloc (Nat.le_refl _) (.cells #[.int .i64 a, .int .i64 b, .slice (some ⟨gv, 0, none⟩) xs.length capv, .slice (some ⟨gl, 0, none⟩) xs.length capl] 108)
    have HBX := Lib.hid (heap_alloc_new w2 (.cells #[.int .i64 a, .int .i64 b, .slice (some ⟨gv, 0, none⟩) xs.length capv, .slice (some ⟨gl, 0, none⟩) xs.length capl] 108))
    have HKV := Lib.hid (show gv ≠ w2.heap.size from by have := (hrv.lt gv rfl).2; omega)
    have HBV := Lib.hid (hrv.lt gv rfl)
    have HRV := Lib.hid (hrv.still hal); have HRL := Lib.hid (hrl.still hal); have HNE := Lib.hid hne
    have HLS := Lib.hid hlsl; have HLE := Lib.hid hlse; have HB := Lib.hid hbb; have HAL := Lib.hid hal; have HB0 := Lib.hid hb0
    have HWL := Lib.hid (show ∀ x ∈ ls, x < 2 ^ FloatKind.f32.format.width from (EqOn.eqs hlse hlsl).lt)
    clear hp hq hqp hpq hrv hlsl hlse hlso hrl hne hb2 hb0 hbb hal
    cases hc2 : (decide (0 ≤ c) && decide (c < 2)) with
    | true =>
      have HC := Lib.hid hc2
      clear hc2 hc
      go_wp2_with fail
      generalize w2.alloc (.cells #[.int .i64 a, .int .i64 b, .slice (some ⟨gv, 0, none⟩) xs.length capv, .slice (some ⟨gl, 0, none⟩) xs.length capl] 108) = w3 at HBX HRV HRL HAL ⊢
      refine (isColour_any c _).mono ?_; rw [HC.out]; rintro e w' ⟨rfl, rfl⟩
      have k0 := (four_cells HBX.out).1; have k1 := (four_cells HBX.out).2.1; have k2 := (four_cells HBX.out).2.2.1; have k3 := (four_cells HBX.out).2.2.2.1
      go_wp2_with fail
      have hh := sweep_any a b c gv capv gl capl xs ls w1.heap.size _ HRV.out HRL.out HNE.out H1.out (HLS.out) HWX.out HWL.out
      rw [HLS.out] at hh
      refine hh.mono ?_; clear hh; rintro e w4 ⟨⟨es, rfl, hel, hew, hee, hve, _⟩, hg⟩
      have HX4 := (hg.block w2.heap.size (Array.getElem?_eq_some_iff.1 HBX.out).1 (fun e => HKV.out (Option.some.inj e).symm)).trans HBX.out
      have HRES := Lib.hid (fres_le (RW.res hve hel (colourF_of H1.out HLE.out hee)) HB0.out.size)
      have HD4 := Lib.hid ((HB.out.trans (HAL.out.mono HB.out.size)).grown hg (HB.out.trans (HAL.out.mono HB.out.size)).size (fun k e => by cases e; exact Nat.le_trans HB0.out.size HBV.out.1))
      clear k0 k1 k2 k3 hel hew hee hve hg
      have k0 := (four_cells HX4).1; have k1 := (four_cells HX4).2.1; have k2 := (four_cells HX4).2.2.1; have k3 := (four_cells HX4).2.2.2.1
      clear HX4
      go_wp2_with fail
      go_ret2
      rw [← HOK.out, ← HNN.out, (okSw_yes H1.out H2.out HC.out).1, (okSw_yes H1.out H2.out HC.out).2]
      exact ⟨⟨_, rfl, HRES.out⟩, HD4.out⟩
    | false =>
      have HC := Lib.hid hc2
      clear hc2 hc
      go_wp2_with fail
      generalize w2.alloc (.cells #[.int .i64 a, .int .i64 b, .slice (some ⟨gv, 0, none⟩) xs.length capv, .slice (some ⟨gl, 0, none⟩) xs.length capl] 108) = w3 at HBX HRV HRL HAL ⊢
      refine (isColour_any c _).mono ?_; rw [HC.out]; rintro e w' ⟨rfl, rfl⟩
      go_wp2_with fail
      go_ret2
      rw [← HOK.out, ← HNN.out, (okSw_no (.inr HC.out)).1, (okSw_no (.inr HC.out)).2]
      exact ⟨⟨_, rfl, fres_none _ _ _⟩, HB.out.trans (HAL.out.mono HB.out.size)⟩
  | false =>
    have H1 := Lib.hid h
    clear h
    go_enter Try.func18, Try.ntmps18
    go_wp2_with fail
    generalize w.alloc (.cells #[.int .i64 a, .int .i64 b] 27) = w1 at hb0 ⊢
    refine (newBoard_no a b _ _ xs zs _ (HU.out.below hb0) (HV.out.below hb0) hn2 H1.out).mono ?_; rintro e w2 ⟨rfl, hb2⟩
    have hbb := hb0.trans (hb2.mono hb0.size)
    go_wp2_with fail
    go_ret2
    rw [← HOK.out, ← HNN.out, (okSw_no (.inl H1.out)).1, (okSw_no (.inl H1.out)).2]
    exact ⟨⟨_, rfl, fres_none _ _ _⟩, hbb.alloc hbb.size _⟩

set_option maxHeartbeats 1000000 in
set_option maxRecDepth 100000 in
theorem sSweepColour_any (a b : Int) (u : Value) (xs : List Nat) (v : Value) (zs : List Nat) (c : Int) (w : World) (hu : FS .f32 w u xs) (hn : xs.length ≤ 1048576) (hv : FS .f32 w v zs) (hn2 : zs.length ≤ 1048576) (hc : -9223372036854775808 ≤ c ∧ c ≤ 9223372036854775807) :
    Calls Try.prog 15 #[GV a b, u, v, .int .i64 c] w fun e w' => (∃ r, e = .returned (.tuple #[r, .bool (okSweepColour a b xs zs c)]) ∧ FRes w.heap.size w' r (lenSweepColour a b xs zs c) (colourF a b xs zs c)) ∧ Below w.heap.size w w' := by
  have HU := Lib.hid hu; have HV := Lib.hid hv
  have HN := Lib.hid hn; have HN2 := Lib.hid hn2
  obtain ⟨a1, c1, rfl, hlc, hcm, hwf, hmem⟩ := hu
  obtain ⟨a2, c2, rfl, hlc2, hcm2, hwf2, hmem2⟩ := hv
  have HWX := Lib.hid hwf
  have HP := Lib.hid (gp_new w a b 27)
  have HPB := Lib.hid (heap_alloc_new w (.cells #[.int .i64 a, .int .i64 b] 27))
  have hb0 := (Below.refl w.heap.size w).alloc (Nat.le_refl _) (.cells #[.int .i64 a, .int .i64 b] 27)
  clear hmem hlc hcm hwf hmem2 hlc2 hcm2 hwf2 hn hn2 hc
  obtain ⟨ok, hok⟩ : ∃ ok, okSweepColour a b xs zs c = ok := ⟨_, rfl⟩
  obtain ⟨N, hN⟩ : ∃ N, lenSweepColour a b xs zs c = N := ⟨_, rfl⟩
  rw [hok, hN]
  have HOK := Lib.hid hok; have HNN := Lib.hid hN
  clear hok hN
  cases h1 : fieldOk a b xs.length with
  | true =>
    cases h2 : fieldOk a b zs.length with
    | true =>
      have HLL := Lib.hid (show zs.length = xs.length by have := (fieldOk_true h1).2.2.2.2.1; have := (fieldOk_true h2).2.2.2.2.1; omega)
      have HA := Lib.hid (fieldOk_true h1)
      have hpos : 0 < xs.length := by
        have := HA.out; have h4 : 4 * 4 ≤ a * b := Int.mul_le_mul this.1 this.2.2.1 (by omega) (by omega); omega
      have H1 := Lib.hid h1; have H2 := Lib.hid h2
      clear h1 h2
      go_enter Try.func15, Try.ntmps15
      go_wp2_with fail
      generalize w.alloc (.cells #[.int .i64 a, .int .i64 b] 27) = w1 at hb0 HP HPB ⊢
      refine (sFits_any _ a b a1 xs.length c1 _ HP.out).mono ?_; rw [H1.out]; rintro e w' ⟨rfl, m1, rfl⟩
      go_wp2_with fail
      refine (sFits_any _ a b a2 zs.length c2 _ (GP.drewN HP.out m1)).mono ?_; rw [H2.out]; rintro e w' ⟨rfl, m2, rfl⟩
      cases hc2 : (decide (0 ≤ c) && decide (c < 2)) with
      | true =>
        have HC0 := Lib.hid hc2
        have HC := Lib.hid (show decide (0 ≤ c ∧ c ≤ 1) = true by rw [Bool.and_eq_true, decide_eq_true_iff, decide_eq_true_iff] at hc2; exact decide_eq_true (by omega))
        clear hc2
        go_wp2_with fail
        refine (sIn_any c 0 1 _).mono ?_; rw [HC.out]; rintro e w' ⟨rfl, rfl⟩
        go_wp2_with fail
        have hbb := below_drewN hb0 (m1 + m2)
        have HPB2 := Lib.hid (show (w1.drewN (m1 + m2)).heap[w.heap.size]? = _ from HPB.out)
        generalize w1.drewN (m1 + m2) = w2 at hbb HPB2 ⊢
        refine (sOwn_any _ xs _ (HU.out.below hbb) hpos HN.out).mono ?_; rintro e w3 ⟨⟨p, rfl, hp⟩, hb3⟩
        obtain ⟨gv, capv, rfl, hrv⟩ := RW.of hp hpos
        have HB3 := Lib.hid (hbb.trans (hb3.mono hbb.size))
        have HPB3 := Lib.hid ((hb3.block w.heap.size (Array.getElem?_eq_some_iff.1 HPB2.out).1).trans HPB2.out)
        have HKV := Lib.hid (show w.heap.size ≠ gv from by have := (hrv.lt gv rfl).1; have := (Array.getElem?_eq_some_iff.1 HPB2.out).1; omega)
        have HRV := Lib.hid (hrv.le hbb.size)
        clear hp hb3 hrv hbb
        go_wp2_with fail
        refine (sLevel_any _ zs _ (HV.out.below HB3.out) HN2.out).mono ?_; rintro e w4 ⟨⟨q, rfl, hq⟩, hb4⟩
        rw [HLL.out] at hq
        obtain ⟨gl, capl, ls, rfl, hlsl, hlse, hlso⟩ := fres_row hq hpos
        have hrl : RW w3.heap.size w4 gl capl ls := by show w4.ownsRow _ _ _ (.slice _ ls.length _) ls.length _; rw [hlsl]; exact hlso
        have HNE := Lib.hid (show gl ≠ gv from by have := (hrl.lt gl rfl).1; have := (HRV.out.lt gv rfl).2; omega)
        have HRL := Lib.hid (hrl.le HB3.out.size)
        have HRV4 := Lib.hid (HRV.out.still hb4)
        have HPB4 := Lib.hid ((hb4.block w.heap.size (Array.getElem?_eq_some_iff.1 HPB3.out).1).trans HPB3.out)
        have HB4 := Lib.hid (HB3.out.trans (hb4.mono HB3.out.size))
        have HLS := Lib.hid hlsl; have HLE := Lib.hid hlse
        have HWL := Lib.hid (show ∀ x ∈ ls, x < 2 ^ FloatKind.f32.format.width from (EqOn.eqs hlse hlsl).lt)
        clear hq hlsl hlse hlso hrl hb4
        go_wp2_with fail
        have hh := sSweep_any a b c w.heap.size gv capv gl capl xs ls w.heap.size _ HPB4.out HKV.out HRV4.out HRL.out HNE.out H1.out HLS.out HWX.out HWL.out
        rw [HLS.out] at hh
        refine hh.mono ?_; clear hh; rintro e w5 ⟨⟨es, rfl, hel, hew, hee, hve, _⟩, hg⟩
        have HRES := Lib.hid (RW.res hve hel (colourF_of H1.out HLE.out hee))
        have HD5 := Lib.hid (HB4.out.grown hg HB4.out.size (fun k e => by cases e; exact (HRV4.out.lt gv rfl).1))
        clear hel hew hee hve hg
        go_wp2_with fail
        go_ret2
        rw [← HOK.out, ← HNN.out, (okSw_yes H1.out H2.out HC0.out).1, (okSw_yes H1.out H2.out HC0.out).2]
        exact ⟨⟨_, rfl, HRES.out⟩, HD5.out⟩
      | false =>
        have HC0 := Lib.hid hc2
        have HC := Lib.hid (show decide (0 ≤ c ∧ c ≤ 1) = false by rw [Bool.and_eq_false_iff, decide_eq_false_iff_not, decide_eq_false_iff_not] at hc2; exact decide_eq_false (by omega))
        clear hc2
        go_wp2_with fail
        refine (sIn_any c 0 1 _).mono ?_; rw [HC.out]; rintro e w' ⟨rfl, rfl⟩
        go_wp2_with fail
        go_ret2
        rw [← HOK.out, ← HNN.out, (okSw_no (.inr HC0.out)).1, (okSw_no (.inr HC0.out)).2]
        exact ⟨⟨_, rfl, fres_none _ _ _⟩, below_drewN hb0 _⟩
    | false =>
      have H1 := Lib.hid h1; have H2 := Lib.hid h2
      clear h1 h2
      go_enter Try.func15, Try.ntmps15
      go_wp2_with fail
      generalize w.alloc (.cells #[.int .i64 a, .int .i64 b] 27) = w1 at hb0 HP HPB ⊢
      refine (sFits_any _ a b a1 xs.length c1 _ HP.out).mono ?_; rw [H1.out]; rintro e w' ⟨rfl, m1, rfl⟩
      go_wp2_with fail
      refine (sFits_any _ a b a2 zs.length c2 _ (GP.drewN HP.out m1)).mono ?_; rw [H2.out]; rintro e w' ⟨rfl, m2, rfl⟩
      go_wp2_with fail
      go_ret2
      rw [← HOK.out, ← HNN.out, (okSw_no (.inl (by rw [H1.out, H2.out]; rfl))).1, (okSw_no (.inl (by rw [H1.out, H2.out]; rfl))).2]
      exact ⟨⟨_, rfl, fres_none _ _ _⟩, below_drewN hb0 _⟩
  | false =>
    have H1 := Lib.hid h1
    clear h1
    go_enter Try.func15, Try.ntmps15
    go_wp2_with fail
    generalize w.alloc (.cells #[.int .i64 a, .int .i64 b] 27) = w1 at hb0 HP HPB ⊢
    refine (sFits_any _ a b a1 xs.length c1 _ HP.out).mono ?_; rw [H1.out]; rintro e w' ⟨rfl, m1, rfl⟩
    go_wp2_with fail
    go_ret2
    rw [← HOK.out, ← HNN.out, (okSw_no (.inl (by rw [H1.out]; rfl))).1, (okSw_no (.inl (by rw [H1.out]; rfl))).2]
    exact ⟨⟨_, rfl, fres_none _ _ _⟩, below_drewN hb0 _⟩
end Go.Proofs.Ytjfnecmnofcjbaa
