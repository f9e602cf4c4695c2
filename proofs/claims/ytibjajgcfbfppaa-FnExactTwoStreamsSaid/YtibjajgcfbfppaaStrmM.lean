/-
  Marks in lists of particles.
-/
import Derived.Test.YtibjajgcfbfppaaStrmE
import Derived.Test.YtibjajgcfbfppaaClM
namespace Go.Proofs.Ytibjajgcfbfppaa
open Go.Fl Go.RowKit
set_option linter.unusedSimpArgs false
set_option linter.unusedVariables false

def MR (k : Nat) : R4 := ⟨.complex .f32 (floatOfInt .f32 (4 * (k : Int) + 1)) 1065353216, .complex .f32 (floatOfInt .f32 (4 * (k : Int) + 1 + 1)) 1065353216, .float .f32 (floatOfInt .f32 (4 * (k : Int) + 1 + 1 + 1)), .float .f32 (floatOfInt .f32 (4 * (k : Int) + 1 + 1 + 1 + 1))⟩
def marksR (n : Nat) : List R4 := (List.range n).map MR
theorem marksR_len (n : Nat) : (marksR n).length = n := by simp [marksR]
theorem marksR_at (n k : Nat) (h : k < n) : (marksR n)[k]'(by rw [marksR_len]; exact h) = MR k := by simp [marksR]
theorem marksR_all (xs : List R4) (n : Nat) (hn : xs.length = n) (h : ∀ i (hi : i < xs.length), xs[i] = MR i) : xs = marksR n := by
  refine List.ext_getElem (by rw [marksR_len, hn]) fun i h1 h2 => ?_
  rw [marksR_at n i (by omega)]; exact h i h1
theorem conv_run' (m : Int) (h0 : 1 ≤ m) (h1 : m ≤ 200) (w : World) : (convert 112 39 (.complex .f64 (floatOfInt .f64 m) 4607182418800017408)).run Try.prog w = .ok (.complex .f32 (floatOfInt .f32 m) 1065353216) w := by
  have h := conv_run (m - 1).toNat (by omega) w
  rw [show (((m - 1).toNat : Int) + 1) = m by omega] at h
  exact h
/-- What a particle of a list looks like, whatever it holds. -/
def PC4 (r : R4) : Prop := (∃ a b, r.v0 = .complex .f32 a b) ∧ (∃ a b, r.v1 = .complex .f32 a b) ∧ (∃ a, r.v2 = .float .f32 a) ∧ (∃ a, r.v3 = .float .f32 a)
theorem mr_pc (k : Nat) : PC4 (MR k) := ⟨⟨_, _, rfl⟩, ⟨_, _, rfl⟩, ⟨_, rfl⟩, ⟨_, rfl⟩⟩
theorem pb_pc (t : Pb) : PC4 t.r4 := ⟨⟨_, _, rfl⟩, ⟨_, _, rfl⟩, ⟨_, rfl⟩, ⟨_, rfl⟩⟩

set_option maxHeartbeats 4000000 in
set_option maxRecDepth 100000 in
theorem markParts_any (B : Nat) (v : Value) (xs : List R4) (w : World) (hv : R4Own B w v xs) (hx : ∀ i (h : i < xs.length), PC4 xs[i]) (hn : xs.length ≤ 48) :
    Calls Try.prog 61 #[v, .int .i64 1] w fun e w' => e = .returned (.int .i64 (4 * (xs.length : Int) + 1)) ∧ R4Own B w' v (marksR xs.length) ∧ w.grownBy w' v.ownBlock := by
  obtain ⟨a, cap, rfl, hf⟩ := r4_form hv
  have HV := Lib.hid hv; have HX := Lib.hid hx
  clear hv hx
  go_enter Try.func61, Try.ntmps61
  go_wp2
  go_loopw [1, 5] (fun m i wr => ∃ k : Nat, k ≤ xs.length ∧ m = .int .i64 (4 * (k : Int) + 1) ∧ i = .int .i64 (k : Int) ∧ Hid (w.grownBy wr (Value.slice a xs.length cap).ownBlock) ∧ ∃ ys : List R4, ys.length = xs.length ∧ Hid (∀ i (h : i < ys.length), i < k → ys[i] = MR i) ∧ Hid (∀ i (h : i < ys.length), PC4 ys[i]) ∧ Hid (R4Own B wr (.slice a xs.length cap) ys)) (fun _ i _ => xs.length - (intOf i).toNat)
  case atStart => exact ⟨0, Nat.zero_le _, rfl, rfl, Lib.hid (grown_refl _ _), xs, rfl, Lib.hid (fun i _ h => absurd h (Nat.not_lt_zero _)), HX, HV⟩
  case round =>
    obtain ⟨k, hk, rfl, rfl, HG, ys, hyl, HM, HP, HO⟩ := hrel
    by_cases hlt : k < xs.length
    · rcases hf with hf | ⟨g, rfl, _, _⟩
      · subst hf; simp at hlt
      have HLT := Lib.hid (show k < ys.length by omega)
      obtain ⟨⟨d0, d1, d2, d3⟩, ⟨f0, f1, f2, f3⟩⟩ := r4_cells HO.out HLT.out
      obtain ⟨⟨a0, b0, h0⟩, ⟨a1, b1, h1⟩, ⟨a2, h2⟩, ⟨a3, h3⟩⟩ := HP.out k HLT.out
      rw [h0] at d0; rw [h1] at d1; rw [h2] at d2; rw [h3] at d3
      have HST := Lib.hid (r4_set HO.out HLT.out (MR k))
      have HYL := Lib.hid hyl
      have hcv1 := conv_run' (4 * (k : Int) + 1) (by omega) (by omega)
      have hcv2 := conv_run' (4 * (k : Int) + 1 + 1) (by omega) (by omega)
      clear h0 h1 h2 h3 hyl
      go_wp2
      go_roundw
      case rel => exact ⟨k + 1, by omega, by go_num <;> (first | done | omega), by go_num, Lib.hid (grown_trans HG.out HST.out.2), ys.set k (MR k), by rw [List.length_set]; exact HYL.out, Lib.hid (fun i h hi => by
        rw [List.length_set] at h
        by_cases e : i = k
        · subst e; exact List.getElem_set_self _
        · rw [List.getElem_set_ne (Ne.symm e)]; exact HM.out i h (by omega)), Lib.hid (fun i h => by
        rw [List.length_set] at h
        by_cases e : i = k
        · subst e; rw [List.getElem_set_self]; exact mr_pc _
        · rw [List.getElem_set_ne (Ne.symm e)]; exact HP.out i h), Lib.hid HST.out.1⟩
      case measure => simp [intOf]; omega
    · obtain rfl : k = xs.length := by omega
      have hys : ys = marksR xs.length := marksR_all ys _ hyl (fun i hi => HM.out i hi (by omega))
      subst hys
      clear hlt
      go_wp2
      go_ret
      exact ⟨rfl, HO.out, HG.out⟩

theorem neq_self32 (m : Int) : fcmp .neq .f32 (floatOfInt .f32 m) (floatOfInt .f32 m) = false := by rw [fcmp_neq_self]; exact word32_nan _

set_option maxHeartbeats 4000000 in
set_option maxRecDepth 100000 in
theorem heldParts_any (B : Nat) (v : Value) (n : Nat) (w : World) (hv : R4Own B w v (marksR n)) (hn : n ≤ 48) :
    Calls Try.prog 62 #[v, .int .i64 1] w fun e w' => e = .returned (.int .i64 (4 * (n : Int) + 1)) ∧ ∃ m, w' = w.drewN m := by
  obtain ⟨a, cap, rfl, hf⟩ := r4_form hv
  have HV := Lib.hid hv
  rw [marksR_len]
  clear hv
  go_enter Try.func62, Try.ntmps62
  go_wp2
  go_loopw [1, 5] (fun m i wr => ∃ k : Nat, k ≤ n ∧ m = .int .i64 (4 * (k : Int) + 1) ∧ i = .int .i64 (k : Int) ∧ ∃ j, wr = w.drewN j) (fun _ i _ => n - (intOf i).toNat)
  case atStart => exact ⟨0, Nat.zero_le _, rfl, rfl, 0, rfl⟩
  case round =>
    obtain ⟨k, hk, rfl, rfl, j, rfl⟩ := hrel
    by_cases hlt : k < n
    · rcases hf with hf | ⟨g, rfl, _, _⟩
      · have := congrArg List.length hf; rw [marksR_len] at this; simp at this; omega
      have HLT := Lib.hid (show k < (marksR n).length by rw [marksR_len]; exact hlt)
      obtain ⟨⟨d0, d1, d2, d3⟩, _⟩ := r4_cells HV.out HLT.out
      rw [marksR_at n k hlt] at d0 d1 d2 d3
      unfold MR at d0 d1 d2 d3
      dsimp only at d0 d1 d2 d3
      have hcv1 := conv_run' (4 * (k : Int) + 1) (by omega) (by omega)
      have hcv2 := conv_run' (4 * (k : Int) + 1 + 1) (by omega) (by omega)
      have ho1 := ord_self (floatOfInt .f32 (4 * (k : Int) + 1)) (word32_nan _)
      have ho2 := ord_self (floatOfInt .f32 (4 * (k : Int) + 1 + 1)) (word32_nan _)
      have ho3 := ord_one
      have i3 := int32_is (4 * (k : Int) + 1 + 1 + 1); have i4 := int32_is (4 * (k : Int) + 1 + 1 + 1 + 1)
      have n3 := neq_self32 (4 * (k : Int) + 1 + 1 + 1); have n4 := neq_self32 (4 * (k : Int) + 1 + 1 + 1 + 1)
      go_wp2_with (apply wpList_fcmp; rfl; rfl; rfl; rfl; (first | with_reducible assumption | exact Is.const rfl); (first | with_reducible assumption | exact Is.const rfl); (first | with_reducible assumption | exact rfl))
      go_roundw
      case rel => exact ⟨k + 1, by omega, by go_num <;> (first | done | omega), by go_num, _, rfl⟩
      case measure => simp [intOf]; omega
    · obtain rfl : k = n := by omega
      clear hlt
      go_wp2
      go_ret
      exact ⟨rfl, _, rfl⟩

set_option maxHeartbeats 1000000 in
theorem markCloud_any (B : Nat) (a b : Int) (v : Value) (xs : List R4) (k : Nat) (w : World) (hv : R4Own B w v xs) (hx : ∀ i (h : i < xs.length), PC4 xs[i]) (hn : xs.length ≤ 48) :
    Calls Try.prog 30 #[CV a b v k, .int .i64 1] w fun e w' => e = .returned (.int .i64 (4 * (xs.length : Int) + 1)) ∧ R4Own B w' v (marksR xs.length) ∧ ∃ w1, Below w.heap.size w w1 ∧ w1.grownBy w' v.ownBlock := by
  have hb := (Below.refl w.heap.size w).alloc (Nat.le_refl _) (.cells (CC a b v k) 56)
  have HB0 := Lib.hid hb
  have HV := Lib.hid (r4_below hv hb)
  obtain ⟨x0, x1, x2, x3, x4⟩ := five_cells (heap_alloc_new w (.cells (CC a b v k) 56))
  clear hb hv
  go_enter Try.func30, Try.ntmps30
  go_wp2_with fail
  clear x0 x1 x2 x3 x4
  generalize w.alloc (.cells (CC a b v k) 56) = w1 at HB0 HV ⊢
  refine (markParts_any B v xs _ HV.out hx hn).mono ?_
  rintro e w2 ⟨rfl, h2, g2⟩
  have H2 := Lib.hid h2; have G2 := Lib.hid g2
  clear h2 g2
  go_wp2_with fail
  go_ret
  exact ⟨rfl, H2.out, w1, HB0.out, G2.out⟩

set_option maxHeartbeats 1000000 in
theorem heldCloud_any (B : Nat) (a b : Int) (v : Value) (n k : Nat) (w : World) (hv : R4Own B w v (marksR n)) (hn : n ≤ 48) :
    Calls Try.prog 31 #[CV a b v k, .int .i64 1] w fun e w' => e = .returned (.int .i64 (4 * (n : Int) + 1)) ∧ Below w.heap.size w w' := by
  have hb := (Below.refl w.heap.size w).alloc (Nat.le_refl _) (.cells (CC a b v k) 56)
  have HB0 := Lib.hid hb
  have HV := Lib.hid (r4_below hv hb)
  obtain ⟨x0, x1, x2, x3, x4⟩ := five_cells (heap_alloc_new w (.cells (CC a b v k) 56))
  have hge : decide (4 * (n : Int) + 1 < 0) = false := decide_eq_false (by omega)
  clear hb hv
  go_enter Try.func31, Try.ntmps31
  go_wp2_with fail
  clear x0 x1 x2 x3 x4
  generalize w.alloc (.cells (CC a b v k) 56) = w1 at HB0 HV ⊢
  refine (heldParts_any B v n _ HV.out hn).mono ?_
  rintro e w2 ⟨rfl, j, rfl⟩
  go_wp2_with fail
  go_ret
  exact ⟨rfl, below_drewN HB0.out _⟩
end Go.Proofs.Ytibjajgcfbfppaa
