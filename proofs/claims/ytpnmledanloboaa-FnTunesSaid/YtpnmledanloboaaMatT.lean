/-
  Products of matrices.
-/
import Derived.Test.YtpnmledanloboaaMat
import Derived.Test.YtpnmledanloboaaOwnE
namespace Go.Proofs.Ytpnmledanloboaa
open Go.Fl Go.RowKit
set_option linter.unusedSimpArgs false
set_option linter.unusedVariables false

theorem fownE4 (B : Nat) (w : World) (a b c d : Nat) {t : TypeId} (h : B ≤ w.heap.size) : FOwnE B (w.alloc (.cells #[.float .f32 a, .float .f32 b, .float .f32 c, .float .f32 d] t)) (.slice (some ⟨w.heap.size, 0, none⟩) 4 4) [a, b, c, d] :=
  ⟨t, by simp, .inr ⟨w.heap.size, 4, _, rfl, h, heap_alloc_new w _, Nat.le_refl _, by decide, rfl, by simp⟩⟩
theorem okT_yes {y z : List Nat} (hy : y.length = 4) (hz : z.length = 4) : okTimesMatrix y z = true ∧ lenTimesMatrix y z = 4 := by
  have e : okTimesMatrix y z = true := by simp [okTimesMatrix, hy, hz]
  exact ⟨e, by unfold lenTimesMatrix; rw [if_pos e]⟩
theorem okT_no {y z : List Nat} (h : y.length ≠ 4 ∨ z.length ≠ 4) : okTimesMatrix y z = false ∧ lenTimesMatrix y z = 0 := by
  have e : okTimesMatrix y z = false := by unfold okTimesMatrix; rcases h with h | h <;> simp [h]
  exact ⟨e, by unfold lenTimesMatrix; rw [if_neg (by rw [e]; simp)]⟩
theorem len4 {z : List Nat} : ((z.length : Int) == 4) = decide (z.length = 4) := by
  rw [Bool.eq_iff_iff]; simp; omega
set_option maxHeartbeats 1000000 in
theorem sTimesMatrix_any (u : Value) (y : List Nat) (v : Value) (z : List Nat) (w : World) (hu : FS .f32 w u y) (hn : y.length ≤ 1048576) (hv : FS .f32 w v z) (hn2 : z.length ≤ 1048576) : Calls Try.prog 22 #[u, v] w fun e w' => (∃ r, e = .returned (.tuple #[r, .bool (okTimesMatrix y z)]) ∧ FResE w.heap.size w' r (lenTimesMatrix y z) (timesF (fromL y) (fromL z))) ∧ Below w.heap.size w w' := by
  have HU := Lib.hid hu; have HV := Lib.hid hv
  obtain ⟨a, cap, rfl, _, hcm, _, _⟩ := hu
  obtain ⟨a', cap', rfl, _, hcm', _, _⟩ := hv
  unfold maxLen at hcm hcm'
  by_cases hy : y.length = 4
  · have hy3 : (y.length : Int) = 4 := by exact_mod_cast hy
    by_cases hz : z.length = 4
    · have hz3 : (z.length : Int) = 4 := by exact_mod_cast hz
      have HOK := Lib.hid (okT_yes hy hz)
      rw [HOK.out.1, HOK.out.2]
      have HY4 := Lib.hid hy; have HZ4 := Lib.hid hz
      go_enter Try.func22, Try.ntmps22
      go_wp2_with fail
      obtain ⟨a0, a1, a2, a3, rfl⟩ := four_of HY4.out
      obtain ⟨b0, b1, b2, b3, rfl⟩ := four_of HZ4.out
      refine (sTimes_any _ _ a0 a1 a2 a3 b0 b1 b2 b3 _ HU.out HV.out).mono ?_
      rintro e w1 ⟨⟨r, rfl, hr⟩, hb⟩
      have HR := Lib.hid hr
      clear hr
      go_wp2_with fail
      go_ret2
      refine ⟨⟨r, rfl, ?_⟩, hb⟩
      have e1 : fromL [a0, a1, a2, a3] = atL [a0, a1, a2, a3] := by funext j; simp [fromL]
      have e2 : fromL [b0, b1, b2, b3] = atL [b0, b1, b2, b3] := by funext j; simp [fromL]
      rw [e1, e2]; exact HR.out.toE
    · have hz3 : ¬ (z.length : Int) = 4 := fun h => hz (by exact_mod_cast h)
      have HOK := Lib.hid (okT_no (y := y) (z := z) (.inr hz))
      rw [HOK.out.1, HOK.out.2]
      clear hz
      go_enter Try.func22, Try.ntmps22
      go_wp2_with fail
      go_ret2
      exact ⟨⟨_, rfl, (fres_none _ _ _).toE⟩, Below.refl _ _⟩
  · have hy3 : ¬ (y.length : Int) = 4 := fun h => hy (by exact_mod_cast h)
    have HOK := Lib.hid (okT_no (y := y) (z := z) (.inl hy))
    rw [HOK.out.1, HOK.out.2]
    clear hy
    go_enter Try.func22, Try.ntmps22
    go_wp2_with fail
    go_ret2
    exact ⟨⟨_, rfl, (fres_none _ _ _).toE⟩, Below.refl _ _⟩

set_option maxHeartbeats 1000000 in
theorem iTimesMatrix_any (u : Value) (y : List Nat) (v : Value) (z : List Nat) (w : World) (hu : FS .f32 w u y) (hn : y.length ≤ 1048576) (hv : FS .f32 w v z) (hn2 : z.length ≤ 1048576) : Calls Try.prog 23 #[u, v] w fun e w' => (∃ r, e = .returned (.tuple #[r, .bool (okTimesMatrix y z)]) ∧ FResE w.heap.size w' r (lenTimesMatrix y z) (timesF (fromL y) (fromL z))) ∧ Below w.heap.size w w' := by
  have HU := Lib.hid hu; have HV := Lib.hid hv
  clear hu hv
  obtain ⟨b1, hb1⟩ : ∃ b1, decide (y.length = 4) = b1 := ⟨_, rfl⟩
  obtain ⟨b2, hb2⟩ : ∃ b2, decide (z.length = 4) = b2 := ⟨_, rfl⟩
  have HB1 := Lib.hid hb1; have HB2 := Lib.hid hb2
  obtain ⟨ok, hok⟩ : ∃ ok, okTimesMatrix y z = ok := ⟨_, rfl⟩
  obtain ⟨N, hN⟩ : ∃ N, lenTimesMatrix y z = N := ⟨_, rfl⟩
  rw [hok, hN]
  have HOK := Lib.hid (show ok = (b1 && b2) by rw [← hok, ← hb1, ← hb2]; rfl)
  have HNN := Lib.hid (show N = if (b1 && b2) then 4 else 0 by rw [← hN, ← hb1, ← hb2]; rfl)
  clear hb1 hb2 hok hN
  go_enter Try.func23, Try.ntmps23
  go_wp2_with fail
  refine (iFrom_any u y _ HU.out).mono ?_
  rw [HB1.out]
  rintro e w1 ⟨⟨a0, a1, a2, a3, rfl, h4⟩, hb⟩
  have H4 := Lib.hid h4; have HC1 := Lib.hid hb
  have HV1 := Lib.hid (HV.out.below (hb.alloc hb.size (MO a0 a1 a2 a3)))
  have HC2 := Lib.hid (HC1.out.alloc HC1.out.size (MO a0 a1 a2 a3))
  have HX := Lib.hid (heap_alloc_new w1 (MO a0 a1 a2 a3))
  clear h4 hb
  go_wp2_with fail
  refine (iFrom_any v z _ HV1.out).mono ?_
  rw [HB2.out]
  rintro e w3 ⟨⟨b0, b1', b2', b3, rfl, h4⟩, hb⟩
  have K4 := Lib.hid h4
  have HY := Lib.hid ((hb.block w1.heap.size (by simp)).trans HX.out)
  have HC3 := Lib.hid (HC2.out.trans (hb.mono HC2.out.size))
  have HS3 := Lib.hid (show w1.heap.size < w3.heap.size from Nat.lt_of_lt_of_le (by simp) hb.size)
  have HC4 := Lib.hid (HC3.out.alloc HC3.out.size (MO b0 b1' b2' b3))
  have HX2 := Lib.hid (heap_alloc_new w3 (MO b0 b1' b2' b3))
  have HY2 := Lib.hid ((heap_alloc_old w3 (MO b0 b1' b2' b3) HS3.out).trans HY.out)
  have HS4 := Lib.hid (show (w3.alloc (MO b0 b1' b2' b3)).heap.size = w3.heap.size + 1 by simp)
  clear h4 hb
  rcases Bool.eq_false_or_eq_true b1 with rfl | rfl
  · rcases Bool.eq_false_or_eq_true b2 with rfl | rfl
    · obtain rfl : ok = true := HOK.out
      obtain rfl : N = 4 := HNN.out
      go_wp2_with ((with_reducible show wpList _ _ _ (Oper.mk (some 27) _ _ _ _ _ :: _) _ _); refine wpList_load_row rfl 78 _ rfl w1.heap.size rfl 78 (MC a0 a1 a2 a3) (0, 0) _ HY2.out Try.underlying78 rfl info_m4 ?_)
      refine (iTimes_any a0 a1 a2 a3 b0 b1' b2' b3 _ _ H4.out K4.out _).mono ?_
      rintro e w5 ⟨⟨x, y', z', u', rfl, h5⟩, hb⟩
      have H5 := Lib.hid h5
      have HC5 := Lib.hid (HC4.out.trans (hb.mono HC4.out.size))
      clear h5 hb
      go_wp2_with fail
      go_ret2
      exact ⟨⟨_, rfl, _, rfl, eqs4 H5.out, fownE4 _ _ _ _ _ _ HC5.out.size⟩, HC5.out.alloc HC5.out.size _⟩
    · obtain rfl : ok = false := HOK.out
      obtain rfl : N = 0 := HNN.out
      go_wp2_with fail
      go_ret2
      exact ⟨⟨_, rfl, (fres_none _ _ _).toE⟩, HC4.out⟩
  · obtain rfl : ok = false := HOK.out.trans (by cases b2 <;> rfl)
    obtain rfl : N = 0 := HNN.out.trans (by cases b2 <;> rfl)
    go_wp2_with fail
    go_ret2
    exact ⟨⟨_, rfl, (fres_none _ _ _).toE⟩, HC4.out⟩
end Go.Proofs.Ytpnmledanloboaa
