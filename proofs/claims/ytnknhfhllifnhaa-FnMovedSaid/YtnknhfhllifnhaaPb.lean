/-
  Particles of streams: places and speeds of any bits, the charge -1 and the mass 1; which are valid.
-/
import Derived.Test.YtnknhfhllifnhaaPtT
namespace Go.Proofs.Ytnknhfhllifnhaa
open Go.Fl Go.RowKit
set_option linter.unusedSimpArgs false
set_option linter.unusedVariables false

structure Pb where
  x : Nat
  y : Nat
  u : Nat
  v : Nat
def Pb.r4 (t : Pb) : R4 := ⟨.complex .f32 t.x t.y, .complex .f32 t.u t.v, .float .f32 3212836864, .float .f32 1065353216⟩
structure IsP (t k : Pb) : Prop where
  ix : Is .f32 t.x k.x
  iy : Is .f32 t.y k.y
  iu : Is .f32 t.u k.u
  iv : Is .f32 t.v k.v
def EqP (ts : List Pb) (K : Nat → Pb) : Prop := ∀ j (h : j < ts.length), IsP ts[j] (K j)
theorem EqP.nil (K : Nat → Pb) : EqP [] K := fun j h => absurd h (Nat.not_lt_zero j)
theorem EqP.snoc {ts : List Pb} {K : Nat → Pb} {t : Pb} (h : EqP ts K) (ht : IsP t (K ts.length)) : EqP (ts ++ [t]) K := by
  intro j hj
  rw [List.length_append, List.length_singleton] at hj
  by_cases e : j < ts.length
  · rw [List.getElem_append_left e]; exact h j e
  · obtain rfl : j = ts.length := by omega
    rw [List.getElem_append_right (Nat.le_refl _)]; simpa using ht
def okPb (k : Pb) : Bool := (fin .f32 k.x && fin .f32 k.y) && (fin .f32 k.u && fin .f32 k.v)
def allPb (K : Nat → Pb) (n : Nat) : Bool := (List.range n).all fun j => okPb (K j)
theorem allPb_true {K : Nat → Pb} {n : Nat} (h : ∀ j, j < n → okPb (K j) = true) : allPb K n = true := List.all_eq_true.2 (fun j hj => h j (List.mem_range.1 hj))
theorem allPb_false {K : Nat → Pb} {n j : Nat} (hj : j < n) (h : okPb (K j) = false) : allPb K n = false := by
  cases hq : allPb K n with
  | false => rfl
  | true => have := List.all_eq_true.1 hq j (List.mem_range.2 hj); rw [h] at this; cases this
abbrev BOwn (B : Nat) (w : World) (v : Value) (ts : List Pb) : Prop := R4Own B w v (ts.map Pb.r4)
theorem b_form {B : Nat} {w : World} {v : Value} {xs : List Pb} (h : BOwn B w v xs) : ∃ a cap, v = .slice a xs.length cap ∧ (xs = [] ∨ ∃ g, a = some ⟨g, 0, none⟩ ∧ B ≤ g ∧ g < w.heap.size) := by
  obtain ⟨a, cap, e, hf⟩ := r4_form h
  rw [List.length_map] at e
  rw [List.map_eq_nil_iff] at hf
  exact ⟨a, cap, e, hf⟩
theorem b_cells {B : Nat} {w : World} {g n cap : Nat} {xs : List Pb} (h : BOwn B w (.slice (some ⟨g, 0, none⟩) n cap) xs) {k : Nat} (hk : k < xs.length) :
    w.cell? ⟨g, k * 4, none⟩ = some (.complex .f32 xs[k].x xs[k].y) ∧ w.cell? ⟨g, k * 4 + 1, none⟩ = some (.complex .f32 xs[k].u xs[k].v) ∧ w.cell? ⟨g, k * 4 + 2, none⟩ = some (.float .f32 3212836864) ∧ w.cell? ⟨g, k * 4 + 3, none⟩ = some (.float .f32 1065353216) := by
  have hr := r4_at h (k := k) (by simpa using hk)
  rw [Nat.mul_comm 4 k] at hr
  have h0 := hr 0 _ rfl; have h1 := hr 1 _ rfl; have h2 := hr 2 _ rfl; have h3 := hr 3 _ rfl
  simp only [List.getElem_map] at h0 h1 h2 h3
  exact ⟨h0, h1, h2, h3⟩

theorem iFiniteC_any (x X y Y : Nat) (ix : Is .f32 x X) (iy : Is .f32 y Y) (w : World) : Calls Try.prog 154 #[.complex .f32 x y] w fun e w' => e = .returned (.bool (fin .f32 X && fin .f32 Y)) ∧ ∃ n, w' = w.drewN n := by
  cases h : fin .f32 X with
  | true =>
    go_enter Try.func154, Try.ntmps154
    go_wp2_with fail
    refine (iFinite3_any _ _ ix _).mono ?_
    rintro e w' ⟨rfl, k, rfl⟩
    rw [h]
    go_wp2_with fail
    refine (iFinite3_any _ _ iy _).mono ?_
    rintro e w' ⟨rfl, k', rfl⟩
    go_wp2_with fail
    go_ret
    exact ⟨rfl, _, rfl⟩
  | false =>
    go_enter Try.func154, Try.ntmps154
    go_wp2_with fail
    refine (iFinite3_any _ _ ix _).mono ?_
    rintro e w' ⟨rfl, k, rfl⟩
    rw [h]
    go_wp2_with fail
    go_ret
    exact ⟨rfl, _, rfl⟩

set_option maxHeartbeats 1000000 in
theorem iValid_pb (t K : Pb) (h : IsP t K) (w : World) : Calls Try.prog 89 #[t.r4.val] w fun e w' => e = .returned (.bool (okPb K)) ∧ Below w.heap.size w w' := by
  have HT := Lib.hid h
  have HB0 := Lib.hid ((Below.refl w.heap.size w).alloc (Nat.le_refl _) (.cells #[.complex .f32 t.x t.y, .complex .f32 t.u t.v, .float .f32 3212836864, .float .f32 1065353216] 57))
  have f1 : fin .f32 3212836864 = true := by decide +kernel
  have f2 : fin .f32 1065353216 = true := by decide +kernel
  have f3 : fcmp .gtr .f32 1065353216 0 = true := by decide +kernel
  have i1 : Is .f32 3212836864 3212836864 := Is.const (by decide +kernel)
  have i2 : Is .f32 1065353216 1065353216 := Is.const (by decide +kernel)
  clear h
  unfold R4.val Pb.r4 okPb
  cases h1 : (fin .f32 K.x && fin .f32 K.y) with
  | false =>
    go_enter Try.func89, Try.ntmps89
    go_wp2_with fail
    refine (iFiniteC_any _ _ _ _ HT.out.ix HT.out.iy _).mono ?_
    rintro e w1 ⟨rfl, k1, rfl⟩
    rw [h1]
    go_wp2_with fail
    go_ret
    exact ⟨rfl, below_drewN HB0.out _⟩
  | true =>
    cases h2 : (fin .f32 K.u && fin .f32 K.v) with
    | false =>
      go_enter Try.func89, Try.ntmps89
      go_wp2_with fail
      refine (iFiniteC_any _ _ _ _ HT.out.ix HT.out.iy _).mono ?_
      rintro e w1 ⟨rfl, k1, rfl⟩
      rw [h1]
      go_wp2_with fail
      refine (iFiniteC_any _ _ _ _ HT.out.iu HT.out.iv _).mono ?_
      rintro e w2 ⟨rfl, k2, rfl⟩
      rw [h2]
      go_wp2_with fail
      go_ret
      exact ⟨rfl, below_drewN HB0.out _⟩
    | true =>
      go_enter Try.func89, Try.ntmps89
      go_wp2_with fail
      refine (iFiniteC_any _ _ _ _ HT.out.ix HT.out.iy _).mono ?_
      rintro e w1 ⟨rfl, k1, rfl⟩
      rw [h1]
      go_wp2_with fail
      refine (iFiniteC_any _ _ _ _ HT.out.iu HT.out.iv _).mono ?_
      rintro e w2 ⟨rfl, k2, rfl⟩
      rw [h2]
      go_wp2_with fail
      refine (iFinite3_any _ _ i1 _).mono ?_
      rintro e w3 ⟨rfl, k3, rfl⟩
      rw [f1]
      go_wp2_with fail
      refine (iFinite3_any _ _ i2 _).mono ?_
      rintro e w4 ⟨rfl, k4, rfl⟩
      rw [f2]
      go_wp2_with (apply wpList_fcmp; rfl; rfl; rfl; rfl; (first | with_reducible assumption | exact Is.const rfl); (first | with_reducible assumption | exact Is.const rfl); (first | with_reducible assumption | exact rfl))
      go_ret
      exact ⟨rfl, below_drewN HB0.out _⟩

set_option maxHeartbeats 1000000 in
theorem iAre_pb (B : Nat) (v : Value) (ts : List Pb) (K : Nat → Pb) (w : World) (hv : BOwn B w v ts) (h : EqP ts K) (hn : ts.length ≤ 64) : Calls Try.prog 22 #[v] w fun e w' => e = .returned (.bool (allPb K ts.length)) ∧ Below w.heap.size w w' := by
  obtain ⟨a, cap, rfl, hf⟩ := b_form hv
  have HV := Lib.hid hv; have HO := Lib.hid h
  clear hv h
  go_enter Try.func22, Try.ntmps22
  go_wp2
  go_loopw [10] (fun i wr => ∃ k : Nat, k ≤ ts.length ∧ i = .int .i64 k ∧ Below w.heap.size w wr ∧ Hid (∀ j, j < k → okPb (K j) = true)) (fun i _ => ts.length - (intOf i).toNat)
  case atStart => exact ⟨0, Nat.zero_le _, rfl, Below.refl _ _, Lib.hid (fun j hj => absurd hj (Nat.not_lt_zero _))⟩
  case round =>
    obtain ⟨k, hk, rfl, hb, HA⟩ := hrel
    by_cases hlt : k < ts.length
    · rcases hf with hf | ⟨g, rfl, _, _⟩
      · subst hf; simp at hlt
      obtain ⟨c0, c1, c2, c3⟩ := b_cells (r4_below HV.out hb) hlt
      have HT := Lib.hid (HO.out k hlt)
      have HLT := Lib.hid hlt
      generalize ts[k] = t at c0 c1 c2 c3 HT
      have HB1 := Lib.hid (hb.alloc hb.size (.cells #[.complex .f32 t.x t.y, .complex .f32 t.u t.v, .float .f32 3212836864, .float .f32 1065353216] 57))
      clear hb
      go_wp2_with fail
      refine (iValid_pb t (K k) HT.out _).mono ?_
      rintro e w2 ⟨rfl, h2⟩
      have HB2 := Lib.hid (HB1.out.trans (h2.mono HB1.out.size))
      clear h2 c0 c1 c2 c3
      cases hq : okPb (K k) with
      | false =>
        go_wp2_with fail
        go_ret
        exact ⟨congrArg (fun x => Ending.returned (.bool x)) (allPb_false HLT.out hq).symm, HB2.out⟩
      | true =>
        have HA2 := Lib.hid (show ∀ j, j < k + 1 → okPb (K j) = true from fun j hj => by
          by_cases e : j < k
          · exact HA.out j e
          · obtain rfl : j = k := by omega
            exact hq)
        clear hq
        go_wp2_with fail
        go_roundw
        case rel => exact ⟨k + 1, by omega, by go_num, HB2.out, HA2⟩
        case measure => simp [intOf]; omega
    · obtain rfl : k = ts.length := by omega
      clear hlt
      go_wp2
      go_ret
      exact ⟨congrArg (fun x => Ending.returned (.bool x)) (allPb_true HA.out).symm, hb⟩
end Go.Proofs.Ytnknhfhllifnhaa
