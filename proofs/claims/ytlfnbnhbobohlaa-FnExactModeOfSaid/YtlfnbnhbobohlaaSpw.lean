/-
  SpectrumOf, of the program and of the model; lists of complex numbers that are the same.
-/
import Derived.Test.YtlfnbnhbobohlaaSpn
import Derived.Test.YtlfnbnhbobohlaaMdn
namespace Go.Proofs.Ytlfnbnhbobohlaa
open Go.Fl Go.RowKit
open Go.Joins (ownsRow_le)
set_option linter.unusedSimpArgs false
set_option linter.unusedVariables false

theorem eqc_cn {rs ss : List (Nat × Nat)} {F G : Nat → Nat} (h : EqC rs F G) (k : EqC ss F G) (hl : rs.length = ss.length) : ∀ i, i < rs.length → cn .f32 (rs.getD i (0, 0)).1 = cn .f32 (ss.getD i (0, 0)).1 ∧ cn .f32 (rs.getD i (0, 0)).2 = cn .f32 (ss.getD i (0, 0)).2 :=
  fun i hi => ⟨(h i hi).1.eq.trans (k i (hl ▸ hi)).1.eq.symm, (h i hi).2.eq.trans (k i (hl ▸ hi)).2.eq.symm⟩

set_option maxHeartbeats 1000000 in
set_option maxRecDepth 100000 in
theorem eqC2_any (B B' : Nat) (u v : Value) (xs ys : List (Nat × Nat)) (w : World) (hu : COwn B w u xs) (hv : COwn B' w v ys) (hx : c32 xs) (hy : c32 ys) (hlen : xs.length = ys.length) (hn : xs.length ≤ 1048576)
    (hsame : ∀ i, i < xs.length → cn .f32 (xs.getD i (0, 0)).1 = cn .f32 (ys.getD i (0, 0)).1 ∧ cn .f32 (xs.getD i (0, 0)).2 = cn .f32 (ys.getD i (0, 0)).2) :
    Calls Try.prog 26 #[u, v] w fun e w' => e = .returned (.bool true) ∧ ∃ n, w' = w.drewN n := by
  obtain ⟨a, cap, rfl, hf⟩ := cown_form hu
  obtain ⟨a', cap', rfl, hf'⟩ := cown_form hv
  have HU := Lib.hid hu; have HX := Lib.hid hx; have HY := Lib.hid hy; have HL := Lib.hid hlen; have HS := Lib.hid hsame
  have HV := Lib.hid (show w.ownsRow B' 41 1 (.slice a' xs.length cap') xs.length (ys.map cV) by have := hv; unfold COwn at this; rw [← hlen] at this; exact this)
  rw [← hlen]
  clear hu hv hx hy hlen hsame
  go_enter Try.func26, Try.ntmps26
  go_wp2
  go_loopw [5] (fun i wr => ∃ k : Nat, k ≤ xs.length ∧ i = .int .i64 k ∧ ∃ n, wr = w.drewN n) (fun i _ => xs.length - (intOf i).toNat)
  case atStart => exact ⟨0, Nat.zero_le _, rfl, 0, rfl⟩
  case round =>
    obtain ⟨k, hk, rfl, n, rfl⟩ := hrel
    by_cases hlt : k < xs.length
    · rcases hf with rfl | ⟨g, rfl, _, _⟩
      · simp at hlt
      rcases hf' with rfl | ⟨g', rfl, _, _⟩
      · have := HL.out; simp at this; rw [this] at hlt; simp at hlt
      have hcell := cown_at HU.out rfl hlt
      have hcell' := cown_at HV.out HL.out (show k < ys.length by have := HL.out; omega)
      obtain ⟨ix, iy⟩ := c32_at HX.out hlt
      obtain ⟨iu, iv⟩ := c32_at HY.out (show k < ys.length by have := HL.out; omega)
      rw [← (HS.out k hlt).1] at iu; rw [← (HS.out k hlt).2] at iv
      generalize xs.getD k (0, 0) = p at hcell ix iy iu iv
      generalize ys.getD k (0, 0) = q at hcell' iu iv
      generalize cn .f32 p.1 = X at ix iu
      generalize cn .f32 p.2 = Y at iy iv
      generalize p.1 = x at hcell ix
      generalize p.2 = y at hcell iy
      generalize q.1 = x' at hcell' iu
      generalize q.2 = y' at hcell' iv
      go_wp2_with (first | ((with_reducible apply Loose.wp_start); kernel_rfl; kernel_rfl) | ((with_reducible apply Loose.start_cons)) | ((with_reducible apply Loose.start_nil)) | ((with_reducible apply Loose.walk_nil); intro n) | ((with_reducible apply Loose.walk_skip); exact rfl; (go_simp; first | done | exact rfl)) | ((with_reducible apply Loose.step_fc); rfl; rfl; rfl; rfl; (first | with_reducible assumption | exact Is.const rfl); (first | with_reducible assumption | exact Is.const rfl); (first | with_reducible assumption | exact rfl); exact rfl; (go_simp; first | done | exact rfl)) | ((with_reducible apply Loose.step_fa); rfl; rfl; rfl; rfl; (first | with_reducible assumption | exact Is.const rfl); (first | with_reducible assumption | exact Is.const rfl); exact rfl; (intro r; go_simp; first | done | exact rfl); intro r hr) | ((with_reducible apply Loose.step_wid); rfl; rfl; (first | with_reducible assumption | exact Is.const rfl); exact U32; exact U64; exact rfl; (intro r; go_simp; first | done | exact rfl); intro r hr) | ((with_reducible apply Loose.step_nar); rfl; rfl; (first | with_reducible assumption | exact Is.const rfl); exact U64; exact U32; (with_reducible assumption); exact rfl; (intro r; go_simp; first | done | exact rfl); intro r hr) | ((with_reducible apply Loose.step_assign); rfl; rfl; (with_reducible assumption); exact rfl; (intro r; go_simp; first | done | exact rfl); intro r hr) | ((with_reducible apply Loose.step_move); rfl; rfl; (with_reducible assumption); exact rfl; (intro r; go_simp; first | done | exact rfl); intro r hr) | ((with_reducible apply Loose.step_same); rfl; rfl; exact U32; exact U32; (first | with_reducible assumption | exact Is.const rfl); exact rfl; (intro r; go_simp; first | done | exact rfl); intro r hr) | ((with_reducible apply Loose.step_same); rfl; rfl; exact U64; exact U64; (first | with_reducible assumption | exact Is.const rfl); exact rfl; (intro r; go_simp; first | done | exact rfl); intro r hr) | ((with_reducible apply Loose.step_cwid); rfl; rfl; (with_reducible assumption); (with_reducible assumption); exact C32; exact C64; exact rfl; (intro r s; go_simp; first | done | exact rfl); intro r s hr hs) | ((with_reducible apply Loose.step_call); rfl; (intro n; go_simp; first | exact ⟨rfl, rfl⟩ | exact rfl); (intro n; go_at_call 31; exact sameC_any _ _ _ _ _ _ (by assumption) (by assumption) (by assumption) (by assumption) _); exact rfl; (go_simp; first | done | exact rfl)) | ((with_reducible apply Loose.step_eq); rfl; (intro n; go_simp; first | done | exact rfl); exact rfl; (go_simp; first | done | exact rfl)))
      go_roundw
      case rel => exact ⟨k + 1, by omega, by go_num, _, rfl⟩
      case measure => simp [intOf]; omega
    · have : k = xs.length := by omega
      subst this
      clear hlt
      go_wp2
      go_ret
      exact ⟨rfl, _, rfl⟩

set_option maxRecDepth 100000 in
theorem spectrumOf_any (v : Value) (xs : List Nat) (w : World) (hv : FS .f32 w v xs) (hn : xs.length ≤ 16) (h0 : 0 < xs.length) :
    Calls Try.prog 74 #[v] w fun e w' => (∃ r, e = .returned r ∧ CRes w.heap.size w' r xs.length (specRe xs) (specIm xs)) ∧ Below w.heap.size w w' := by
  go_enter Try.func74, Try.ntmps74
  go_wp2_with fail
  refine (spun32_any v xs w hv hn h0).mono ?_; rintro e w' ⟨⟨r, rfl, hr⟩, hb⟩
  go_wp2_with fail
  go_ret
  exact ⟨⟨_, rfl, hr⟩, hb⟩

def okSpectrumOf (xs : List Nat) : Bool := decide (1 ≤ xs.length ∧ xs.length ≤ 16)
def lenSpectrumOf (xs : List Nat) : Nat := if okSpectrumOf xs then xs.length else 0
theorem lenSpectrumOf_le (xs : List Nat) (_h : xs.length ≤ 1048576) : lenSpectrumOf xs ≤ 256 := by
  unfold lenSpectrumOf
  split
  · rename_i h; have := of_decide_eq_true h; omega
  · omega
theorem okS_int (n : Nat) : decide ((1 : Int) ≤ (n : Int) ∧ (n : Int) ≤ 16) = decide (1 ≤ n ∧ n ≤ 16) := by rw [decide_eq_decide]; omega

set_option maxRecDepth 100000 in
theorem isSpecLen_any (n : Nat) (w : World) (hn : n ≤ 1048576) : Calls Try.prog 73 #[.int .i64 (n : Int)] w fun e w' => e = .returned (.bool (decide (1 ≤ n ∧ n ≤ 16))) ∧ Below w.heap.size w w' := by
  obtain ⟨q, hq⟩ : ∃ q, decide (1 ≤ n ∧ n ≤ 16) = q := ⟨_, rfl⟩
  rw [hq]
  have HQ := Lib.hid ((okS_int n).trans hq)
  clear hq
  have hnew := heap_alloc_new w (.cells #[.int .i64 1, .int .i64 (n : Int), .int .i64 16] 2)
  go_enter Try.func73, Try.ntmps73
  go_wp2_with fail
  refine (ascend3 1 (n : Int) 16 _ 2 _ hnew (by omega) (by omega) (by omega)).mono ?_; rw [HQ.out]; rintro e w' ⟨rfl, k, rfl⟩
  go_wp2_with fail
  go_ret
  exact ⟨rfl, below_drewN ((Below.refl _ _).alloc (Nat.le_refl _) _) _⟩

set_option maxRecDepth 100000 in
theorem iSpectrumOf_any (v : Value) (xs : List Nat) (w : World) (hv : FS .f32 w v xs) (hn : xs.length ≤ 1048576) :
    Calls Try.prog 25 #[v] w fun e w' => (∃ r, e = .returned (.tuple #[r, .bool (okSpectrumOf xs)]) ∧ CRes w.heap.size w' r (lenSpectrumOf xs) (specRe xs) (specIm xs)) ∧ Below w.heap.size w w' := by
  have HU := Lib.hid hv
  obtain ⟨a1, c1, rfl, hlc, hcm, hwf, hmem⟩ := hv
  have HN := Lib.hid hn
  clear hlc hcm hwf hmem hn
  unfold lenSpectrumOf
  cases h : okSpectrumOf xs with
  | false =>
    have H := Lib.hid (show decide (1 ≤ xs.length ∧ xs.length ≤ 16) = false from h)
    clear h
    rw [if_neg (by simp)]
    go_enter Try.func25, Try.ntmps25
    go_wp2_with fail
    refine (isSpecLen_any xs.length _ HN.out).mono ?_; rw [H.out]; rintro e w2 ⟨rfl, hb2⟩
    go_wp2_with fail
    go_ret2
    exact ⟨⟨_, rfl, cres_none _ _ _ _⟩, hb2⟩
  | true =>
    have H := Lib.hid (show decide (1 ≤ xs.length ∧ xs.length ≤ 16) = true from h)
    clear h
    rw [if_pos rfl]
    go_enter Try.func25, Try.ntmps25
    go_wp2_with fail
    refine (isSpecLen_any xs.length _ HN.out).mono ?_; rw [H.out]; rintro e w2 ⟨rfl, hb2⟩
    have HB := Lib.hid hb2
    clear hb2
    go_wp2_with fail
    refine (spectrumOf_any _ xs _ (HU.out.below HB.out) (of_decide_eq_true H.out).2 (of_decide_eq_true H.out).1).mono ?_; rintro e w3 ⟨⟨r, rfl, hr⟩, hb3⟩
    go_wp2_with fail
    go_ret2
    exact ⟨⟨_, rfl, cres_le hr HB.out.size⟩, HB.out.trans (hb3.mono HB.out.size)⟩

set_option maxRecDepth 100000 in
theorem sSpectrumOf_any (v : Value) (xs : List Nat) (w : World) (hv : FS .f32 w v xs) (hn : xs.length ≤ 1048576) :
    Calls Try.prog 24 #[v] w fun e w' => (∃ r, e = .returned (.tuple #[r, .bool (okSpectrumOf xs)]) ∧ CRes w.heap.size w' r (lenSpectrumOf xs) (specRe xs) (specIm xs)) ∧ Below w.heap.size w w' := by
  have HU := Lib.hid hv
  obtain ⟨a1, c1, rfl, hlc, hcm, hwf, hmem⟩ := hv
  clear hlc hcm hwf hmem hn
  unfold lenSpectrumOf
  cases h : okSpectrumOf xs with
  | false =>
    have H := Lib.hid ((okS_int xs.length).trans (show decide (1 ≤ xs.length ∧ xs.length ≤ 16) = false from h))
    clear h
    rw [if_neg (by simp)]
    go_enter Try.func24, Try.ntmps24
    go_wp2_with fail
    refine (sIn_any (xs.length : Int) 1 16 _).mono ?_; rw [H.out]; rintro e w' ⟨rfl, rfl⟩
    go_wp2_with fail
    go_ret2
    exact ⟨⟨_, rfl, cres_none _ _ _ _⟩, Below.refl _ _⟩
  | true =>
    have H := Lib.hid ((okS_int xs.length).trans (show decide (1 ≤ xs.length ∧ xs.length ≤ 16) = true from h))
    have H2 := Lib.hid (of_decide_eq_true (show decide (1 ≤ xs.length ∧ xs.length ≤ 16) = true from h))
    clear h
    rw [if_pos rfl]
    go_enter Try.func24, Try.ntmps24
    go_wp2_with fail
    refine (sIn_any (xs.length : Int) 1 16 _).mono ?_; rw [H.out]; rintro e w' ⟨rfl, rfl⟩
    go_wp2_with fail
    refine (sSpectrum8_any _ xs _ HU.out H2.out.2).mono ?_; rintro e w3 ⟨⟨r, rfl, hr⟩, hb3⟩
    go_wp2_with fail
    go_ret2
    exact ⟨⟨_, rfl, hr⟩, hb3⟩
end Go.Proofs.Ytlfnbnhbobohlaa
