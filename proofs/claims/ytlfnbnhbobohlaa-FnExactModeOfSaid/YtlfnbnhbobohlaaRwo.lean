/-
  Rows of fields, of the program and of the model.
-/
import Derived.Test.YtlfnbnhbobohlaaMdn
import Derived.Test.YtlfnbnhbobohlaaCpy
import Derived.Test.YtlfnbnhbobohlaaShift
namespace Go.Proofs.Ytlfnbnhbobohlaa
open Go.Fl Go.RowKit
set_option linter.unusedSimpArgs false
set_option linter.unusedVariables false

/-- m numbers of a list, from the place s on. -/
def subL (xs : List Nat) (s m : Nat) : List Nat := (xs.drop s).take m
theorem subL_len {xs : List Nat} {s m : Nat} (h : s + m ≤ xs.length) : (subL xs s m).length = m := by simp [subL]; omega
theorem subL_at {xs : List Nat} {s m i : Nat} (h : s + m ≤ xs.length) (hi : i < m) : (subL xs s m).getD i 0 = xs.getD (s + i) 0 := by
  unfold subL
  rw [List.getD_eq_getElem?_getD, List.getElem?_take, if_pos hi, List.getElem?_drop, ← List.getD_eq_getElem?_getD]
theorem fs_sub {k : FloatKind} {w : World} {b off n c : Nat} {xs : List Nat} (h : FS k w (.slice (some ⟨b, off, none⟩) n c) xs) {s m c' : Nat} (hs : s + m ≤ xs.length) (hc : m ≤ c') (hc' : c' ≤ maxLen) : FS k w (.slice (some ⟨b, off + s, none⟩) m c') (subL xs s m) := by
  obtain ⟨a, cap, hv, h1, h2, h3, h4⟩ := h
  have hl := subL_len hs
  refine ⟨_, _, by rw [hl], by rw [hl]; exact hc, hc', fun x hx => h3 x (List.mem_of_mem_drop (List.mem_of_mem_take hx)), ?_⟩
  rcases h4 with rfl | ⟨b', o', ha, hlt, hcell⟩
  · exact .inl (by simp [subL])
  · simp only [Value.slice.injEq] at hv
    rw [← hv.1] at ha
    cases ha
    refine .inr ⟨b, off + s, rfl, hlt, fun i hi => ?_⟩
    rw [hl] at hi
    rw [subL_at hs hi, Nat.add_assoc]
    exact hcell _ (by omega)
theorem fs_some {k : FloatKind} {w : World} {a : Option Addr} {n c : Nat} {xs : List Nat} (h : FS k w (.slice a n c) xs) (h0 : 0 < xs.length) : ∃ b off, a = some ⟨b, off, none⟩ := by
  obtain ⟨a', cap, hv, _, _, _, hm⟩ := h
  rcases hm with rfl | ⟨b, off, rfl, _, _⟩
  · simp at h0
  · simp only [Value.slice.injEq] at hv
    exact ⟨b, off, hv.1⟩

def rowF (A Y : Nat) (xs : List Nat) (j : Nat) : Nat := cn .f32 (xs.getD (A * Y + j) 0)
def okRowOf (a b : Int) (xs : List Nat) (y : Int) : Bool := fieldOk a b xs.length && modeB b y
def lenRowOf (a b : Int) (xs : List Nat) (y : Int) : Nat := if okRowOf a b xs y then a.toNat else 0
theorem lenRowOf_le (a b : Int) (xs : List Nat) (y : Int) (_h : xs.length ≤ 1048576) : lenRowOf a b xs y ≤ 1048576 := by
  unfold lenRowOf
  split
  · rename_i h
    unfold okRowOf at h
    rw [Bool.and_eq_true] at h
    have := fieldOk_true h.1
    omega
  · omega
theorem okRw_yes {a b : Int} {xs : List Nat} {y : Int} (h1 : fieldOk a b xs.length = true) (h2 : modeB b y = true) : okRowOf a b xs y = true ∧ lenRowOf a b xs y = a.toNat := by
  have e : okRowOf a b xs y = true := by unfold okRowOf; rw [h1, h2]; rfl
  exact ⟨e, by unfold lenRowOf; rw [if_pos e]⟩
theorem okRw_no {a b : Int} {xs : List Nat} {y : Int} (h : fieldOk a b xs.length = false ∨ modeB b y = false) : okRowOf a b xs y = false ∧ lenRowOf a b xs y = 0 := by
  have e : okRowOf a b xs y = false := by unfold okRowOf; rcases h with h | h <;> rw [h] <;> simp
  exact ⟨e, by unfold lenRowOf; rw [if_neg (by rw [e]; simp)]⟩
/-- The places of a row. -/
theorem row_place {A Y n : Nat} {b : Int} (hA : 4 ≤ (A : Int) ∧ (A : Int) ≤ 16) (hY : (Y : Int) ≤ b - 1) (hb : b ≤ 16) (hn : (n : Int) = A * b) : ∃ p q : Nat, p = A * Y ∧ q = p + A ∧ q ≤ n ∧ wrap64 ((A : Int) * (Y : Int)) = (p : Int) ∧ wrap64 ((A : Int) * ((Y : Int) + 1)) = (q : Int) ∧ wrap64 ((Y : Int) + 1) = (Y : Int) + 1 ∧
    IntKind.i64.wrap ((A : Int) * (Y : Int)) = (p : Int) ∧ IntKind.i64.wrap ((A : Int) * ((Y : Int) + 1)) = (q : Int) ∧ IntKind.i64.wrap ((Y : Int) + 1) = (Y : Int) + 1 := by
  have h1 : (A : Int) * ((Y : Int) + 1) ≤ A * b := Int.mul_le_mul_of_nonneg_left (by omega) (by omega)
  have h2 : (A : Int) * (Y : Int) = ((A * Y : Nat) : Int) := by simp
  have h3 : (A : Int) * ((Y : Int) + 1) = ((A * Y + A : Nat) : Int) := by rw [Int.mul_add, Int.mul_one, h2]; simp
  have h4 : A * Y ≤ 16 * 16 := Nat.mul_le_mul (by omega) (by omega)
  refine ⟨A * Y, A * Y + A, rfl, rfl, by omega, ?_⟩
  rw [h2, h3, wrap_i64, wrap_i64, wrap_i64]
  generalize A * Y = p at *
  exact ⟨wrap64_of (by omega) (by omega), wrap64_of (by omega) (by omega), wrap64_of (by omega) (by omega), wrap64_of (by omega) (by omega), wrap64_of (by omega) (by omega), wrap64_of (by omega) (by omega)⟩
theorem eqs_row {A Y p : Nat} {xs : List Nat} (hp : p = A * Y) (hs : p + A ≤ xs.length) (hwf : ∀ x ∈ xs, x < 2 ^ FloatKind.f32.format.width) : Eqs (subL xs p A) (rowF A Y xs) := by
  intro j hj
  rw [subL_len hs] at hj
  rw [subL_at hs hj]
  unfold rowF
  rw [← hp]
  exact FS.is hwf (p + j) (by omega)

set_option maxHeartbeats 1000000 in
set_option maxRecDepth 100000 in
theorem iRowOf_any (a b : Int) (v : Value) (xs : List Nat) (y : Int) (w : World) (hv : FS .f32 w v xs) (hn : xs.length ≤ 1048576) (hy : -9223372036854775808 ≤ y ∧ y ≤ 9223372036854775807) :
    Calls Try.prog 18 #[GV a b, v, .int .i64 y] w fun e w' => (∃ r, e = .returned (.tuple #[r, .bool (okRowOf a b xs y)]) ∧ FRes w.heap.size w' r (lenRowOf a b xs y) (rowF a.toNat y.toNat xs)) ∧ Below w.heap.size w w' := by
  obtain ⟨ok, hok⟩ : ∃ ok, okRowOf a b xs y = ok := ⟨_, rfl⟩
  obtain ⟨N, hN⟩ : ∃ N, lenRowOf a b xs y = N := ⟨_, rfl⟩
  rw [hok, hN]
  have HOK := Lib.hid hok; have HNN := Lib.hid hN; have HY := Lib.hid hy; have HU := Lib.hid hv
  clear hok hN hy
  obtain ⟨a1, c1, rfl, hlc, hcm, hwf, hmem⟩ := hv
  have HLC := Lib.hid hlc; have HCM := Lib.hid hcm; have HWF := Lib.hid hwf
  clear hmem hlc hcm hwf
  have HP := Lib.hid (gp_new w a b 27)
  have HB0 := Lib.hid ((Below.refl w.heap.size w).alloc (Nat.le_refl _) (.cells #[.int .i64 a, .int .i64 b] 27))
  cases h1 : fieldOk a b xs.length with
  | false =>
    have H1 := Lib.hid h1
    have HR := Lib.hid (okRw_no (y := y) (.inl h1))
    obtain rfl : ok = false := HOK.out.symm.trans HR.out.1
    obtain rfl : N = 0 := HNN.out.symm.trans HR.out.2
    clear h1
    go_enter Try.func18, Try.ntmps18
    go_wp2_with fail
    generalize w.alloc (.cells #[.int .i64 a, .int .i64 b] 27) = w1 at HB0 HP ⊢
    refine (iIsField_any a b a1 xs.length c1 _).mono ?_; rw [H1.out]; rintro e w2 ⟨rfl, hb2⟩
    go_wp2_with fail
    go_ret2
    exact ⟨⟨_, rfl, fres_none _ _ _⟩, HB0.out.trans (hb2.mono HB0.out.size)⟩
  | true =>
    have H1 := Lib.hid h1
    have HA := Lib.hid (fieldOk_true h1)
    have hs2 := (sub1_wrap (a := b) ⟨HA.out.2.2.1, HA.out.2.2.2.1⟩).1
    cases h2 : modeB b y with
    | false =>
      have H2 := Lib.hid (show decide (0 ≤ y ∧ y ≤ b - 1) = false from h2)
      have HR := Lib.hid (okRw_no (a := a) (xs := xs) (.inr h2))
      obtain rfl : ok = false := HOK.out.symm.trans HR.out.1
      obtain rfl : N = 0 := HNN.out.symm.trans HR.out.2
      clear h1 h2
      go_enter Try.func18, Try.ntmps18
      go_wp2_with fail
      generalize w.alloc (.cells #[.int .i64 a, .int .i64 b] 27) = w1 at HB0 HP ⊢
      refine (iIsField_any a b a1 xs.length c1 _).mono ?_; rw [H1.out]; rintro e w2 ⟨rfl, hb2⟩
      have c := (GP.below HP.out hb2).cells; have c0 := c.1; have c1' := c.2; clear c
      go_wp2_with fail
      refine (ascend3 0 y (b - 1) _ 2 _ (heap_alloc_new _ _) (by omega) HY.out (by have := HA.out; omega)).mono ?_; rw [H2.out]; rintro e w' ⟨rfl, k, rfl⟩
      go_wp2_with fail
      go_ret2
      have hb4 := HB0.out.trans (hb2.mono HB0.out.size)
      exact ⟨⟨_, rfl, fres_none _ _ _⟩, below_drewN (hb4.alloc hb4.size _) _⟩
    | true =>
      have H2 := Lib.hid (show decide (0 ≤ y ∧ y ≤ b - 1) = true from h2)
      have HR := Lib.hid (okRw_yes h1 h2)
      obtain rfl : ok = true := HOK.out.symm.trans HR.out.1
      obtain rfl : N = a.toNat := HNN.out.symm.trans HR.out.2
      have hin : 0 ≤ y ∧ y ≤ b - 1 := of_decide_eq_true h2
      obtain ⟨A, rfl⟩ : ∃ A : Nat, a = (A : Int) := ⟨a.toNat, by have := HA.out; omega⟩
      obtain ⟨Y, rfl⟩ : ∃ Y : Nat, y = (Y : Int) := ⟨y.toNat, by omega⟩
      obtain ⟨p, q, hp, hq, hqn, e1, e2, e3, -, -, -⟩ := row_place (n := xs.length) ⟨HA.out.1, HA.out.2.1⟩ hin.2 HA.out.2.2.2.1 HA.out.2.2.2.2.1
      rw [Int.toNat_natCast, Int.toNat_natCast]
      have HPP := Lib.hid hp; have HQ := Lib.hid hq; have HQN := Lib.hid hqn
      obtain ⟨b1, o1, rfl⟩ := fs_some HU.out (by have := HA.out; omega)
      have g1 : (p : Int) ≤ (q : Int) := by omega
      have g2 : (q : Int) ≤ (c1 : Int) := by have := HLC.out; omega
      have g3 : (0 : Int) ≤ (p : Int) := by omega
      have g4 : (p : Int) ≤ (c1 : Int) := by omega
      have g5 : ¬ c1 - p = 0 := by have := HLC.out; have := HA.out; omega
      clear h1 h2 hin hp hq hqn
      go_enter Try.func18, Try.ntmps18
      go_wp2_with fail
      generalize w.alloc (.cells #[.int .i64 (A : Int), .int .i64 b] 27) = w1 at HB0 HP ⊢
      refine (iIsField_any (A : Int) b _ xs.length c1 _).mono ?_; rw [H1.out]; rintro e w2 ⟨rfl, hb2⟩
      have hb4 := HB0.out.trans (hb2.mono HB0.out.size)
      have HQ2 := Lib.hid (GP.below HP.out hb2)
      have c0 := HQ2.out.cells.1; have c1' := HQ2.out.cells.2
      go_wp2_with fail
      refine (ascend3 0 (Y : Int) (b - 1) _ 2 _ (heap_alloc_new _ _) (by omega) HY.out (by have := HA.out; omega)).mono ?_; rw [H2.out]; rintro e w' ⟨rfl, k, rfl⟩
      have hb5 := below_drewN (hb4.alloc hb4.size (.cells #[.int .i64 0, .int .i64 (Y : Int), .int .i64 (b - 1)] 2)) k
      have HQ5 := Lib.hid (GP.drewN (GP.below HQ2.out ((Below.refl w2.heap.size w2).alloc (Nat.le_refl _) (.cells #[.int .i64 0, .int .i64 (Y : Int), .int .i64 (b - 1)] 2))) k)
      generalize (w2.alloc (.cells #[.int .i64 0, .int .i64 (Y : Int), .int .i64 (b - 1)] 2)).drewN k = w5 at hb5 HQ5 ⊢
      clear c0 c1'
      have d0 := HQ5.out.cells.1; have d1 := HQ5.out.cells.2
      go_wp2_with fail
      have hlen := subL_len (xs := xs) (s := p) (m := A) (by have := HQ.out; have := HQN.out; omega)
      have hsub : FS .f32 w5 (.slice (some ⟨b1, o1 + p, none⟩) (q - p) (c1 - p)) (subL xs p A) := by
        rw [show q - p = A by have := HQ.out; omega]
        exact fs_sub (HU.out.below hb5) (by have := HQ.out; have := HQN.out; omega) (by have := HQ.out; have := HQN.out; have := HLC.out; omega) (by have := HCM.out; omega)
      refine (clone_any _ (subL xs p A) _ hsub (by have := HA.out; omega) (by have := HA.out; omega)).mono ?_; rintro e w' ⟨⟨r, rfl, hr⟩, hb6⟩
      go_wp2_with fail
      go_ret2
      exact ⟨⟨_, rfl, _, hlen, eqs_row HPP.out (by have := HQ.out; have := HQN.out; omega) HWF.out, Go.Joins.ownsRow_le hr hb5.size⟩, hb5.trans (hb6.mono hb5.size)⟩

set_option maxHeartbeats 1000000 in
set_option maxRecDepth 100000 in
theorem sRow8_any (pt : Value) (A Y p q : Nat) (b : Int) (v : Value) (xs : List Nat) (w : World) (hp : GP w pt (A : Int) b) (hv : FS .f32 w v xs) (hA : 4 ≤ A ∧ A ≤ 16) (hq : q = p + A) (hqn : q ≤ xs.length) (hn : xs.length ≤ 256)
    (e4 : IntKind.i64.wrap ((A : Int) * (Y : Int)) = (p : Int)) (e5 : IntKind.i64.wrap ((A : Int) * ((Y : Int) + 1)) = (q : Int)) (e6 : IntKind.i64.wrap ((Y : Int) + 1) = (Y : Int) + 1) :
    Calls Try.prog 64 #[pt, v, .int .i64 (Y : Int)] w fun e w' => (∃ r, e = .returned r ∧ FOwn w.heap.size w' r (subL xs p A)) ∧ Below w.heap.size w w' := by
  obtain ⟨i0, hi, hz0, hz1, hz2⟩ := info_parts F32info
  obtain ⟨g, rfl, hgl, c0, c1'⟩ := hp
  have HU := Lib.hid hv
  obtain ⟨a1, c1, rfl, hlc, hcm, hwf, hmem⟩ := hv
  clear hmem hwf
  obtain ⟨b1, o1, rfl⟩ := fs_some HU.out (by omega)
  have g1 : (p : Int) ≤ (q : Int) := by omega
  have g2 : (q : Int) ≤ (c1 : Int) := by omega
  have g3 : (0 : Int) ≤ (p : Int) := by omega
  have g4 : (p : Int) ≤ (c1 : Int) := by omega
  have g5 : ¬ c1 - p = 0 := by omega
  have g6 : ¬ c1 = p := by omega
  have HQP := Lib.hid (show q - p = A by omega)
  have HS := Lib.hid (show p + A ≤ xs.length by omega)
  have HC := Lib.hid (show A ≤ c1 - p by omega)
  have HCM := Lib.hid (show c1 - p ≤ maxLen by omega)
  have HA := Lib.hid hA
  have HLN := Lib.hid (subL_len (xs := xs) (s := p) (m := A) (by omega))
  clear hlc hcm hqn hn hq hA
  go_enter Try.func64, Try.ntmps64
  go_wp2_with fail
  refine wp_region_noPanic ?_
  have hbd := (Below.refl w.heap.size w).drew
  refine wp_region_held_drew (S := fun w' => w'.cell? ⟨g, 0, none⟩ = some (.int .i64 (A : Int))) (by kernel_rfl) c0 (fun hHeld => ?_)
  generalize w.drew = v0 at hHeld hbd ⊢
  have HU0 := Lib.hid (HU.out.below hbd)
  ((refine wpAnyH_take (i := 1) (v := ?_) rfl (by kernel_rfl) (by kernel_rfl) (by kernel_rfl) (fun _ _ _ h => h) (Or.inl ⟨by rfl, ?_⟩) (by assumption) ?_; rotate_left; (· intro w hSw; (try dsimp only at hSw); go_simp; first | done | with_reducible rfl); (try simp only [List.getElem_toArray, List.getElem_cons_zero, List.getElem_cons_succ, Act.put, List.setIfInBounds_toArray, List.set_cons_zero, List.set_cons_succ])); (refine wpAnyH_take (i := 2) (v := ?_) rfl (by kernel_rfl) (by kernel_rfl) (by kernel_rfl) (fun _ _ _ h => h) (Or.inl ⟨by rfl, ?_⟩) (by assumption) ?_; rotate_left; (· intro w hSw; (try dsimp only at hSw); go_simp; first | done | with_reducible rfl); (try simp only [List.getElem_toArray, List.getElem_cons_zero, List.getElem_cons_succ, Act.put, List.setIfInBounds_toArray, List.set_cons_zero, List.set_cons_succ])); (refine wpAnyH_take (i := 3) (v := ?_) rfl (by kernel_rfl) (by kernel_rfl) (by kernel_rfl) (fun _ _ _ h => h) (Or.inl ⟨by rfl, ?_⟩) (by assumption) ?_; rotate_left; (· intro w hSw; (try dsimp only at hSw); go_simp; first | done | with_reducible rfl); (try simp only [List.getElem_toArray, List.getElem_cons_zero, List.getElem_cons_succ, Act.put, List.setIfInBounds_toArray, List.set_cons_zero, List.set_cons_succ])); (refine wpAnyH_take (i := 4) (v := ?_) rfl (by kernel_rfl) (by kernel_rfl) (by kernel_rfl) (fun _ _ _ h => h) (Or.inl ⟨by rfl, ?_⟩) (by assumption) ?_; rotate_left; (· intro w hSw; (try dsimp only at hSw); go_simp; first | done | with_reducible rfl); (try simp only [List.getElem_toArray, List.getElem_cons_zero, List.getElem_cons_succ, Act.put, List.setIfInBounds_toArray, List.set_cons_zero, List.set_cons_succ])); (refine wpAnyH_take (i := 5) (v := ?_) rfl (by kernel_rfl) (by kernel_rfl) (by kernel_rfl) (fun _ _ _ h => h) (Or.inl ⟨by rfl, ?_⟩) (by assumption) ?_; rotate_left; (· intro w hSw; (try dsimp only at hSw); go_simp; first | done | with_reducible rfl); (try simp only [List.getElem_toArray, List.getElem_cons_zero, List.getElem_cons_succ, Act.put, List.setIfInBounds_toArray, List.set_cons_zero, List.set_cons_succ])); (refine wpAnyH_take (i := 6) (v := ?_) rfl (by kernel_rfl) (by kernel_rfl) (by kernel_rfl) (fun _ _ _ h => h) (Or.inl ⟨by rfl, ?_⟩) (by assumption) ?_; rotate_left; (· intro w hSw; (try dsimp only at hSw); go_simp; first | done | with_reducible rfl); (try simp only [List.getElem_toArray, List.getElem_cons_zero, List.getElem_cons_succ, Act.put, List.setIfInBounds_toArray, List.set_cons_zero, List.set_cons_succ])); (refine wpAnyH_take (i := 7) (v := ?_) rfl (by kernel_rfl) (by kernel_rfl) (by kernel_rfl) (fun _ _ _ h => h) (Or.inl ⟨by rfl, ?_⟩) (by assumption) ?_; rotate_left; (· intro w hSw; (try dsimp only at hSw); go_simp; first | done | with_reducible rfl); (try simp only [List.getElem_toArray, List.getElem_cons_zero, List.getElem_cons_succ, Act.put, List.setIfInBounds_toArray, List.set_cons_zero, List.set_cons_succ])); (refine wpAnyH_take (i := 8) (v := ?_) rfl (by kernel_rfl) (by kernel_rfl) (by kernel_rfl) (fun _ _ _ h => h) (Or.inl ⟨by rfl, ?_⟩) (by assumption) ?_; rotate_left; (· intro w hSw; (try dsimp only at hSw); go_simp; first | done | with_reducible rfl); (try simp only [List.getElem_toArray, List.getElem_cons_zero, List.getElem_cons_succ, Act.put, List.setIfInBounds_toArray, List.set_cons_zero, List.set_cons_succ])); (refine wpAnyH_take (i := 9) (v := ?_) rfl (by kernel_rfl) (by kernel_rfl) (by kernel_rfl) (fun _ _ _ h => h) (Or.inl ⟨by rfl, ?_⟩) (by assumption) ?_; rotate_left; (· intro w hSw; (try dsimp only at hSw); go_simp; first | done | with_reducible rfl); (try simp only [List.getElem_toArray, List.getElem_cons_zero, List.getElem_cons_succ, Act.put, List.setIfInBounds_toArray, List.set_cons_zero, List.set_cons_succ])); (refine wpAnyH_take (i := 10) (v := ?_) rfl (by kernel_rfl) (by kernel_rfl) (by kernel_rfl) (fun _ _ _ h => h) (Or.inl ⟨by rfl, ?_⟩) (by assumption) ?_; rotate_left; (· intro w hSw; (try dsimp only at hSw); go_simp; first | done | with_reducible rfl); (try simp only [List.getElem_toArray, List.getElem_cons_zero, List.getElem_cons_succ, Act.put, List.setIfInBounds_toArray, List.set_cons_zero, List.set_cons_succ])); (refine wpAnyH_take (i := 11) (v := ?_) rfl (by kernel_rfl) (by kernel_rfl) (by kernel_rfl) (fun _ _ _ h => h) (Or.inl ⟨by rfl, ?_⟩) (by assumption) ?_; rotate_left; (· intro w hSw; (try dsimp only at hSw); go_simp; first | done | with_reducible rfl); (try simp only [List.getElem_toArray, List.getElem_cons_zero, List.getElem_cons_succ, Act.put, List.setIfInBounds_toArray, List.set_cons_zero, List.set_cons_succ])); (refine wpAnyH_take (i := 12) (v := ?_) rfl (by kernel_rfl) (by kernel_rfl) (by kernel_rfl) (fun _ _ _ h => h) (Or.inl ⟨by rfl, ?_⟩) (by assumption) ?_; rotate_left; (· intro w hSw; (try dsimp only at hSw); go_simp; first | done | with_reducible rfl); (try simp only [List.getElem_toArray, List.getElem_cons_zero, List.getElem_cons_succ, Act.put, List.setIfInBounds_toArray, List.set_cons_zero, List.set_cons_succ])); (refine wpAnyH_take (i := 13) (v := ?_) rfl (by kernel_rfl) (by kernel_rfl) (by kernel_rfl) (fun _ _ _ h => h) (Or.inl ⟨by rfl, ?_⟩) (by assumption) ?_; rotate_left; (· intro w hSw; (try dsimp only at hSw); go_simp; first | done | with_reducible rfl); (try simp only [List.getElem_toArray, List.getElem_cons_zero, List.getElem_cons_succ, Act.put, List.setIfInBounds_toArray, List.set_cons_zero, List.set_cons_succ])); (refine wpAnyH_take (i := 14) (v := ?_) rfl (by kernel_rfl) (by kernel_rfl) (by kernel_rfl) (fun _ _ _ h => h) (Or.inl ⟨by rfl, ?_⟩) (by assumption) ?_; rotate_left; (· intro w hSw; (try dsimp only at hSw); go_simp; first | done | with_reducible rfl); (try simp only [List.getElem_toArray, List.getElem_cons_zero, List.getElem_cons_succ, Act.put, List.setIfInBounds_toArray, List.set_cons_zero, List.set_cons_succ])); (refine wpAnyH_take (i := 15) (v := ?_) rfl (by kernel_rfl) (by kernel_rfl) (by kernel_rfl) (fun _ _ _ h => h) (Or.inl ⟨by rfl, ?_⟩) (by assumption) ?_; rotate_left; (· intro w hSw; (try dsimp only at hSw); go_simp; first | done | with_reducible rfl); (try simp only [List.getElem_toArray, List.getElem_cons_zero, List.getElem_cons_succ, Act.put, List.setIfInBounds_toArray, List.set_cons_zero, List.set_cons_succ])))
  (refine wpAnyH_ready (rs := [0]) (by kernel_rfl) (by simp) ?_; refine AllReadyH.cons (i := 0) rfl (fun K hK => ?_) AllReadyH.nil)
  go_simp
  have hb1 := (Below.refl v0.heap.size v0).alloc (Nat.le_refl _) (.cells #[] 46)
  have hb2 := hbd.alloc hbd.size (.cells #[] 46)
  have hown0 : (v0.alloc (.cells #[] 46)).ownsRow w.heap.size 46 1 (.slice (some ⟨v0.heap.size, 0, none⟩) 0 0) 0 [] := own_start w.heap.size v0 hbd.size
  have hsub : FS .f32 (v0.alloc (.cells #[] 46)) (.slice (some ⟨b1, o1 + p, none⟩) A (c1 - p)) (subL xs p A) := fs_sub (HU0.out.below hb1) HS.out HC.out HCM.out
  have hnews := Lib.hid (news_of (w := v0.alloc (.cells #[] 46)) (b := b1) (off := o1 + p) (xs := subL xs p A) (fun i hi => by
    obtain ⟨b', o', e, hc⟩ := FS.at hsub (Below.refl _ _) hi
    cases e
    exact hc))
  have hd0 : (v0.alloc (.cells #[] 46)).cell? ⟨g, 0, none⟩ = some (.int .i64 (A : Int)) := by rw [hb2.cell (p := ⟨g, 0, none⟩) hgl]; exact c0
  (refine hK.out _ _ (hd0) (fun hHeld => ?_); clear hK K; (try simp only [List.getElem_toArray, List.getElem_cons_zero, List.getElem_cons_succ, Act.put, List.setIfInBounds_toArray, List.set_cons_zero, List.set_cons_succ]))
  (refine wpAnyH_ready (rs := [16]) (by kernel_rfl) (by simp) ?_; refine AllReadyH.cons (i := 16) rfl (fun K hK => ?_) AllReadyH.nil)
  refine step_append_lies _ (by rfl) _ _ _ (by rfl) w.heap.size 46 i0 _ 1 4 Try.underlying24 hi hz0 hz1 hz2 rfl (by omega) (.slice (some ⟨v0.heap.size, 0, none⟩) 0 0) 0 [] (by rfl) hown0
    ⟨b1, o1 + p, none⟩ A (c1 - p) ((subL xs p A).map (Value.float .f32)) (Eq.trans (b := Value.slice (some ⟨b1, o1 + p, none⟩) (q - p) (c1 - p)) (by rfl) (by rw [HQP.out])) (by rw [List.length_map, HLN.out]; omega) hnews.out (by intro u hu; obtain ⟨x, _, rfl⟩ := List.mem_map.1 hu; rfl)
    (by have := HA.out; omega) (by have := HA.out; unfold maxLen; omega) (by have := HA.out; omega) hb2.size (v0.heap.size + 1) (by simp) ?_
  intro g2 cap2 w3 hown4 hgrow hat hltg
  have hb5 := Lib.hid (hb2.grown hgrow hb2.size (fun k hk => (hown0.lt k hk).1))
  have hd3 : w3.cell? ⟨g, 0, none⟩ = some (.int .i64 (A : Int)) := by rw [hb5.out.cell (p := ⟨g, 0, none⟩) hgl]; exact c0
  (refine hK.out _ _ (hd3) (fun hHeld => ?_); clear hK K; (try simp only [List.getElem_toArray, List.getElem_cons_zero, List.getElem_cons_succ, Act.put, List.setIfInBounds_toArray, List.set_cons_zero, List.set_cons_succ]))
  (refine wpAnyH_ready (rs := [17]) (by kernel_rfl) (by simp) ?_; refine AllReadyH.cons (i := 17) rfl (fun K hK => ?_) AllReadyH.nil)
  go_simp
  (refine hK.out _ _ (by assumption) (fun hHeld => ?_); clear hK K; (try simp only [List.getElem_toArray, List.getElem_cons_zero, List.getElem_cons_succ, Act.put, List.setIfInBounds_toArray, List.set_cons_zero, List.set_cons_succ]))
  (refine wpAnyH_done (by kernel_rfl) ?_ _; refine NoPanic.normal ?_)
  have HO4 := Lib.hid (show FOwn w.heap.size w3 (.slice (some ⟨g2, 0, none⟩) A cap2) (subL xs p A) by unfold FOwn; rw [HLN.out]; simpa using hown4)
  clear hown4 hgrow hat hHeld hown0 hsub
  go_wp2
  go_ret
  exact ⟨⟨_, rfl, by first | exact HO4.out | (rw [Nat.zero_add]; exact HO4.out)⟩, hb5.out⟩

set_option maxHeartbeats 1000000 in
set_option maxRecDepth 100000 in
theorem sRowOf_any (a b : Int) (v : Value) (xs : List Nat) (y : Int) (w : World) (hv : FS .f32 w v xs) (hn : xs.length ≤ 1048576) (hy : -9223372036854775808 ≤ y ∧ y ≤ 9223372036854775807) :
    Calls Try.prog 15 #[GV a b, v, .int .i64 y] w fun e w' => (∃ r, e = .returned (.tuple #[r, .bool (okRowOf a b xs y)]) ∧ FRes w.heap.size w' r (lenRowOf a b xs y) (rowF a.toNat y.toNat xs)) ∧ Below w.heap.size w w' := by
  obtain ⟨ok, hok⟩ : ∃ ok, okRowOf a b xs y = ok := ⟨_, rfl⟩
  obtain ⟨N, hN⟩ : ∃ N, lenRowOf a b xs y = N := ⟨_, rfl⟩
  rw [hok, hN]
  have HOK := Lib.hid hok; have HNN := Lib.hid hN; have HU := Lib.hid hv
  clear hok hN hy
  obtain ⟨a1, c1, rfl, hlc, hcm, hwf, hmem⟩ := hv
  have HWF := Lib.hid hwf
  clear hmem hlc hcm hwf
  have HP := Lib.hid (gp_new w a b 27)
  have HB0 := Lib.hid ((Below.refl w.heap.size w).alloc (Nat.le_refl _) (.cells #[.int .i64 a, .int .i64 b] 27))
  have hc0 := HP.out.cells.1; have hc1 := HP.out.cells.2
  cases h1 : fieldOk a b xs.length with
  | false =>
    have H1 := Lib.hid h1
    have HR := Lib.hid (okRw_no (y := y) (.inl h1))
    obtain rfl : ok = false := HOK.out.symm.trans HR.out.1
    obtain rfl : N = 0 := HNN.out.symm.trans HR.out.2
    clear h1
    go_enter Try.func15, Try.ntmps15
    go_wp2_with fail
    generalize w.alloc (.cells #[.int .i64 a, .int .i64 b] 27) = w1 at HB0 HP hc0 hc1 ⊢
    refine (sField_any _ a b a1 xs.length c1 _ HP.out).mono ?_; rw [H1.out]; rintro e w' ⟨rfl, m1, rfl⟩
    go_wp2_with fail
    go_ret2
    exact ⟨⟨_, rfl, fres_none _ _ _⟩, below_drewN HB0.out _⟩
  | true =>
    have H1 := Lib.hid h1
    have HA := Lib.hid (fieldOk_true h1)
    have hs2 := (sub1_wrap (a := b) ⟨HA.out.2.2.1, HA.out.2.2.2.1⟩).1
    cases h2 : modeB b y with
    | false =>
      have H2 := Lib.hid (show decide (0 ≤ y ∧ y ≤ b - 1) = false from h2)
      have HR := Lib.hid (okRw_no (a := a) (xs := xs) (.inr h2))
      obtain rfl : ok = false := HOK.out.symm.trans HR.out.1
      obtain rfl : N = 0 := HNN.out.symm.trans HR.out.2
      clear h1 h2
      go_enter Try.func15, Try.ntmps15
      go_wp2_with fail
      generalize w.alloc (.cells #[.int .i64 a, .int .i64 b] 27) = w1 at HB0 HP hc0 hc1 ⊢
      refine (sField_any _ a b a1 xs.length c1 _ HP.out).mono ?_; rw [H1.out]; rintro e w' ⟨rfl, m1, rfl⟩
      go_wp2_with fail
      refine (sIn_any y 0 (b - 1) _).mono ?_; rw [H2.out]; rintro e w' ⟨rfl, rfl⟩
      go_wp2_with fail
      go_ret2
      exact ⟨⟨_, rfl, fres_none _ _ _⟩, below_drewN HB0.out _⟩
    | true =>
      have H2 := Lib.hid (show decide (0 ≤ y ∧ y ≤ b - 1) = true from h2)
      have HR := Lib.hid (okRw_yes h1 h2)
      obtain rfl : ok = true := HOK.out.symm.trans HR.out.1
      obtain rfl : N = a.toNat := HNN.out.symm.trans HR.out.2
      have hin : 0 ≤ y ∧ y ≤ b - 1 := of_decide_eq_true h2
      obtain ⟨A, rfl⟩ : ∃ A : Nat, a = (A : Int) := ⟨a.toNat, by have := HA.out; omega⟩
      obtain ⟨Y, rfl⟩ : ∃ Y : Nat, y = (Y : Int) := ⟨y.toNat, by omega⟩
      obtain ⟨p, q, hp, hq, hqn, -, -, -, e4, e5, e6⟩ := row_place (n := xs.length) ⟨HA.out.1, HA.out.2.1⟩ hin.2 HA.out.2.2.2.1 HA.out.2.2.2.2.1
      rw [Int.toNat_natCast, Int.toNat_natCast]
      have HPP := Lib.hid hp; have HQ := Lib.hid hq; have HQN := Lib.hid hqn
      have H4 := Lib.hid e4; have H5 := Lib.hid e5; have H6 := Lib.hid e6
      clear h1 h2 hin hp hq hqn e4 e5 e6
      go_enter Try.func15, Try.ntmps15
      go_wp2_with fail
      generalize w.alloc (.cells #[.int .i64 (A : Int), .int .i64 b] 27) = w1 at HB0 HP hc0 hc1 ⊢
      refine (sField_any _ (A : Int) b a1 xs.length c1 _ HP.out).mono ?_; rw [H1.out]; rintro e w' ⟨rfl, m1, rfl⟩
      go_wp2_with fail
      refine (sIn_any (Y : Int) 0 (b - 1) _).mono ?_; rw [H2.out]; rintro e w' ⟨rfl, rfl⟩
      go_wp2_with fail
      have hb2 := below_drewN HB0.out m1
      refine (sRow8_any _ A Y p q b _ xs _ (GP.drewN HP.out m1) (HU.out.below hb2) (by have := HA.out; omega) HQ.out HQN.out HA.out.2.2.2.2.2 H4.out H5.out H6.out).mono ?_; rintro e w' ⟨⟨r, rfl, hr⟩, hb6⟩
      go_wp2_with fail
      go_ret2
      exact ⟨⟨_, rfl, _, subL_len (by have := HQ.out; have := HQN.out; omega), eqs_row HPP.out (by have := HQ.out; have := HQN.out; omega) HWF.out, Go.Joins.ownsRow_le hr hb2.size⟩, hb2.trans (hb6.mono hb2.size)⟩
end Go.Proofs.Ytlfnbnhbobohlaa
