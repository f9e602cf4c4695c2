/-
  The laws' marks in lists of complex numbers.
-/
import Derived.Test.YtlfnbnhbobohlaaCl
namespace Go.Proofs.Ytlfnbnhbobohlaa
open Go.Fl Go.RowKit

theorem conv_mark : ∀ i : Fin 257, cConvBits .f64 (floatOfInt .f64 ((i.val : Int) + 1)) 4607182418800017408 .f32 = some (floatOfInt .f32 ((i.val : Int) + 1), 1065353216) := by decide +kernel
def marksC (n : Nat) : List (Nat × Nat) := (List.range n).map fun i : Nat => (floatOfInt .f32 ((i : Int) + 1), 1065353216)
theorem marksC_len (n : Nat) : (marksC n).length = n := by simp [marksC]
theorem marksC_at (n k : Nat) (h : k < n) : (marksC n)[k]? = some (floatOfInt .f32 ((k : Int) + 1), 1065353216) := by
  unfold marksC
  rw [List.getElem?_map, List.getElem?_range h, Option.map_some]
theorem marksC_get (n k : Nat) (h : k < n) : (marksC n).getD k (0, 0) = (floatOfInt .f32 ((k : Int) + 1), 1065353216) := by
  rw [List.getD_eq_getElem?_getD, marksC_at n k h, Option.getD_some]
theorem conv_run (k : Nat) (hk : k < 257) (w : World) : (convert 45 41 (.complex .f64 (floatOfInt .f64 ((k : Int) + 1)) 4607182418800017408)).run Try.prog w = .ok (.complex .f32 (floatOfInt .f32 ((k : Int) + 1)) 1065353216) w :=
  run_convert_complex w _ _ _ _ _ _ _ _ (by rw [C64]; rfl) C32 (conv_mark ⟨k, hk⟩)

set_option maxHeartbeats 1000000 in
set_option maxRecDepth 100000 in
theorem markC_any (B : Nat) (v : Value) (xs : List (Nat × Nat)) (w : World) (h : COwn B w v xs) (hn : xs.length ≤ 256) : Calls Try.prog 27 #[v, .int .i64 1] w fun e w' =>
    e = .returned (.int .i64 ((xs.length : Int) + 1)) ∧ COwn B w' v (marksC xs.length) ∧ w.grownBy w' v.ownBlock := by
  obtain ⟨a, cap, rfl, hf⟩ := cown_form h
  have H := Lib.hid h
  clear h
  go_enter Try.func27, Try.ntmps27
  go_wp2
  go_loopw [1, 5] (fun m i wr => ∃ k : Nat, k ≤ xs.length ∧ m = .int .i64 ((k : Int) + 1) ∧ i = .int .i64 (k : Int) ∧ wr.ownsRow B 41 1 (.slice a xs.length cap) xs.length (((marksC xs.length).map cV).take k ++ (xs.map cV).drop k) ∧ w.grownBy wr (Value.slice a xs.length cap).ownBlock) (fun _ i _ => xs.length - (intOf i).toNat)
  case atStart => exact ⟨0, Nat.zero_le _, rfl, rfl, by have h1 := H.out; unfold COwn at h1; simpa using h1, grown_refl _ _⟩
  case round =>
    obtain ⟨k, hk, rfl, rfl, hown, hbel⟩ := hrel
    by_cases hlt : k < xs.length
    · rcases hf with rfl | ⟨g, rfl, hg1, hg2⟩
      · simp at hlt
      obtain ⟨u1, u2, hu⟩ : ∃ u1 u2 : Nat, (((marksC xs.length).map cV).take k ++ (xs.map cV).drop k)[k]? = some (Value.complex .f32 u1 u2) := ⟨(xs.getD k (0, 0)).1, (xs.getD k (0, 0)).2, by
        rw [List.getElem?_append_right (by simp [marksC_len]; omega)]
        simp [marksC_len, List.getD, Nat.min_eq_left hk, hlt, cV]⟩
      have hw0 := hown.cellAt k (by omega)
      rw [hu] at hw0
      have hfz := hown.frozenAt k
      have hy : ((marksC xs.length).map cV)[k]? = some (.complex .f32 (floatOfInt .f32 ((k : Int) + 1)) 1065353216) := by rw [List.getElem?_map, marksC_at _ k hlt]; rfl
      have hst := (hown.stored k (.complex .f32 (floatOfInt .f32 ((k : Int) + 1)) 1065353216)).1
      rw [mix_set (by simp [marksC_len]) hy] at hst
      have hb2 := grown_trans hbel (hown.stored k (.complex .f32 (floatOfInt .f32 ((k : Int) + 1)) 1065353216)).2
      have hcv := fun w => conv_run k (by omega) w
      have ST := Lib.hid hst
      have SB := Lib.hid hb2
      clear hst hb2 hu hy hown hbel
      go_wp2
      go_roundw
      case rel => exact ⟨k + 1, by omega, by go_num, by go_num, ST.out, SB.out⟩
      case measure => simp [intOf]; omega
    · obtain rfl : k = xs.length := by omega
      have hall : ((marksC xs.length).map cV).take xs.length ++ (xs.map cV).drop xs.length = (marksC xs.length).map cV := by
        rw [List.take_of_length_le (by simp [marksC_len]), List.drop_of_length_le (by simp), List.append_nil]
      rw [hall] at hown
      have OW := Lib.hid hown
      clear hall hown hlt
      go_wp2
      go_ret
      exact ⟨rfl, by unfold COwn; rw [marksC_len]; exact OW.out, hbel⟩

theorem ord_self (x : Nat) (h : nan .f32 x = false) : (FloatKind.f32.format.order x x == some Ordering.eq) = true := by
  have := fcmp_eql_self .f32 x
  rw [h] at this
  exact this
theorem ord_one : (FloatKind.f32.format.order 1065353216 1065353216 == some Ordering.eq) = true := ord_self _ (by decide)

set_option maxHeartbeats 1000000 in
set_option maxRecDepth 100000 in
theorem heldC_any (B : Nat) (v : Value) (n : Nat) (w : World) (h : COwn B w v (marksC n)) (hn : n ≤ 256) : Calls Try.prog 28 #[v, .int .i64 1] w fun e w' => e = .returned (.int .i64 ((n : Int) + 1)) ∧ ∃ m, w' = w.drewN m := by
  obtain ⟨a, cap, rfl, hf⟩ := cown_form h
  have H := Lib.hid h
  rw [marksC_len]
  clear h
  go_enter Try.func28, Try.ntmps28
  go_wp2
  go_loopw [1, 5] (fun m i wr => ∃ k : Nat, k ≤ n ∧ m = .int .i64 ((k : Int) + 1) ∧ i = .int .i64 (k : Int) ∧ ∃ j, wr = w.drewN j) (fun _ i _ => n - (intOf i).toNat)
  case atStart => exact ⟨0, Nat.zero_le _, rfl, rfl, 0, rfl⟩
  case round =>
    obtain ⟨k, hk, rfl, rfl, j, rfl⟩ := hrel
    by_cases hlt : k < n
    · rcases hf with h0 | ⟨g, rfl, _, _⟩
      · have h1 := marksC_len n
        rw [h0] at h1
        simp at h1; omega
      have hcell := cown_at (xs := marksC n) H.out rfl (by rw [marksC_len]; exact hlt)
      rw [marksC_get n k hlt] at hcell
      have hcv := fun w => conv_run k (by omega) w
      have ho1 := ord_self (floatOfInt .f32 ((k : Int) + 1)) (word32_nan _)
      have ho2 := ord_one
      go_wp2
      go_roundw
      case rel => exact ⟨k + 1, by omega, by go_num, by go_num, _, rfl⟩
      case measure => simp [intOf]; omega
    · obtain rfl : k = n := by omega
      clear hlt
      go_wp2
      go_ret
      exact ⟨rfl, _, rfl⟩
end Go.Proofs.Ytlfnbnhbobohlaa
