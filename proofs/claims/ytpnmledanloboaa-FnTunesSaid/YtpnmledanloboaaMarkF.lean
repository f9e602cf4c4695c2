/-
  The laws' marks in a list of 32-bit numbers of the call's own, and the look whether they are held.
-/
import Derived.Test.YtpnmledanloboaaFC
namespace Go.Proofs.Ytpnmledanloboaa
open Go.Fl Go.RowKit

/-- The i-th mark. -/
def markF (i : Nat) : Nat := floatOfInt .f32 ((i : Int) + 1)
theorem word32_nan (n : Int) : nan .f32 (floatOfInt .f32 n) = false := show nan .f32 (FloatKind.f32.format.write (.number (n < 0) n.natAbs 0)) = false from nan_write _ (by intro s t e; cases e)
theorem word32_is (n : Int) : Is .f32 (floatOfInt .f32 n) (floatOfInt .f32 n) := ⟨cn_of _ (word32_nan n), nearest_lt ..⟩
theorem markF_nan (i : Nat) : nan .f32 (markF i) = false := by unfold markF; exact word32_nan _
theorem markF_is (i : Nat) : Is .f32 (markF i) (markF i) := by unfold markF; exact word32_is _
theorem markF_neq (i : Nat) : fcmp .neq .f32 (markF i) (markF i) = false := by rw [fcmp_neq_self, markF_nan]
/-- The first n marks. -/
def marksF (n : Nat) : List Nat := (List.range n).map markF
theorem marksF_len (n : Nat) : (marksF n).length = n := by simp [marksF]
theorem marksF_at (n k : Nat) (h : k < n) : (marksF n)[k]? = some (markF k) := by
  unfold marksF
  rw [List.getElem?_map, List.getElem?_range h, Option.map_some]
theorem marksF_get (n k : Nat) (h : k < n) : (marksF n).getD k 0 = markF k := by
  rw [List.getD_eq_getElem?_getD, marksF_at n k h, Option.getD_some]
theorem marksF_lt (n : Nat) : ∀ x ∈ marksF n, x < 2 ^ FloatKind.f32.format.width := by
  intro x hx
  obtain ⟨i, _, hi⟩ := List.mem_map.1 hx
  rw [← hi]
  exact (markF_is i).lt

/-- A slice of the call's own, perhaps nil, with the numbers xs. -/
def FOwn (B : Nat) (w : World) (v : Value) (xs : List Nat) : Prop := w.ownsRow B 23 1 v xs.length (xs.map (Value.float .f32))

theorem mix_set {ys xs : List Value} {k : Nat} {y : Value} (hl : ys.length = xs.length) (hk : ys[k]? = some y) : (ys.take k ++ xs.drop k).set k y = ys.take (k + 1) ++ xs.drop (k + 1) := by
  obtain ⟨hlt, rfl⟩ := List.getElem?_eq_some_iff.1 hk
  apply List.ext_getElem?
  intro i
  rw [List.getElem?_set]
  by_cases h1 : k = i
  · subst h1
    rw [if_pos rfl, if_pos (by simp; omega), List.getElem?_append_left (by simp; omega), List.getElem?_take, if_pos (by omega)]
    simp [hlt]
  · rw [if_neg h1]
    by_cases h2 : i < k
    · rw [List.getElem?_append_left (by simp; omega), List.getElem?_append_left (by simp; omega), List.getElem?_take, List.getElem?_take, if_pos h2, if_pos (by omega)]
    · rw [List.getElem?_append_right (by simp; omega), List.getElem?_append_right (by simp; omega)]
      simp only [List.length_take, List.getElem?_drop]
      congr 1
      omega

theorem fown_form {B : Nat} {w : World} {v : Value} {xs : List Nat} (h : FOwn B w v xs) : ∃ a cap, v = .slice a xs.length cap ∧ (xs = [] ∨ ∃ g, a = some ⟨g, 0, none⟩ ∧ B ≤ g ∧ g < w.heap.size) := by
  have hl := h.lt
  rcases h.2 with ⟨rfl, h0⟩ | ⟨g, cap, cur, rfl, hB, _⟩
  · exact ⟨none, 0, by rw [h0], .inl (List.length_eq_zero_iff.1 h0)⟩
  · exact ⟨_, _, rfl, .inr ⟨g, rfl, hl g rfl⟩⟩

theorem fown_FS {B : Nat} {w : World} {v : Value} {xs : List Nat} (h : FOwn B w v xs) (hwf : ∀ x ∈ xs, x < 2 ^ FloatKind.f32.format.width) : FS .f32 w v xs := by
  rcases h.2 with ⟨rfl, h0⟩ | ⟨g, cap, cur, rfl, hB, hg, hc, hm, hs, ht⟩
  · have hx := List.length_eq_zero_iff.1 h0
    subst hx
    exact ⟨none, 0, rfl, Nat.le_refl _, Nat.zero_le _, hwf, .inl rfl⟩
  · exact own_FS h hwf

set_option maxHeartbeats 1000000 in
set_option maxRecDepth 100000 in
theorem markF_any (B : Nat) (v : Value) (xs : List Nat) (w : World) (h : FOwn B w v xs) (hn : xs.length ≤ 1048576) : Calls Try.prog 24 #[v, .int .i64 1] w fun e w' =>
    e = .returned (.int .i64 ((xs.length : Int) + 1)) ∧ FOwn B w' v (marksF xs.length) ∧ Below B w w' := by
  obtain ⟨a, cap, rfl, hf⟩ := fown_form h
  have H := Lib.hid h
  clear h
  go_enter Try.func24, Try.ntmps24
  go_wp2
  go_loopw [1, 5] (fun m i wr => ∃ k : Nat, k ≤ xs.length ∧ m = .int .i64 ((k : Int) + 1) ∧ i = .int .i64 (k : Int) ∧ wr.ownsRow B 23 1 (.slice a xs.length cap) xs.length (((marksF xs.length).map (Value.float .f32)).take k ++ (xs.map (Value.float .f32)).drop k) ∧ Below B w wr) (fun _ i _ => xs.length - (intOf i).toNat)
  case atStart => exact ⟨0, Nat.zero_le _, rfl, rfl, by have h1 := H.out; unfold FOwn at h1; simpa using h1, Below.refl _ _⟩
  case round =>
    obtain ⟨k, hk, rfl, rfl, hown, hbel⟩ := hrel
    by_cases hlt : k < xs.length
    · rcases hf with rfl | ⟨g, rfl, hg1, hg2⟩
      · simp at hlt
      obtain ⟨u, hu⟩ : ∃ u : Nat, (((marksF xs.length).map (Value.float .f32)).take k ++ (xs.map (Value.float .f32)).drop k)[k]? = some (Value.float .f32 u) := ⟨xs.getD k 0, by
        rw [List.getElem?_append_right (by simp [marksF_len]; omega)]
        simp [marksF_len, List.getD, Nat.min_eq_left hk, hlt]⟩
      have hw0 := hown.cellAt k (by omega)
      rw [hu] at hw0
      have hfz := hown.frozenAt k
      have hy : ((marksF xs.length).map (Value.float .f32))[k]? = some (.float .f32 (markF k)) := by rw [List.getElem?_map, marksF_at _ k hlt, Option.map_some]
      have hst := (hown.stored k (.float .f32 (markF k))).1
      rw [mix_set (by simp [marksF_len]) hy] at hst
      have hb2 := hbel.setCell (p := ⟨g, k, none⟩) hg1 (.float .f32 (markF k))
      unfold markF at hst hb2
      have ST := Lib.hid hst
      have SB := Lib.hid hb2
      clear hst hb2 hu hy hown hbel
      go_wp2
      go_roundw
      case rel => exact ⟨k + 1, by omega, by go_num, by go_num, ST.out, SB.out⟩
      case measure => simp [intOf]; omega
    · obtain rfl : k = xs.length := by omega
      have hall : ((marksF xs.length).map (Value.float .f32)).take xs.length ++ (xs.map (Value.float .f32)).drop xs.length = (marksF xs.length).map (Value.float .f32) := by
        rw [List.take_of_length_le (by simp [marksF_len]), List.drop_of_length_le (by simp), List.append_nil]
      rw [hall] at hown
      have OW := Lib.hid hown
      clear hall hown hlt
      go_wp2
      go_ret
      exact ⟨rfl, by unfold FOwn; rw [marksF_len]; exact OW.out, hbel⟩

set_option maxHeartbeats 1000000 in
set_option maxRecDepth 100000 in
theorem heldF_any (v : Value) (n : Nat) (w : World) (hv : FS .f32 w v (marksF n)) (hn : n ≤ 1048576) : Calls Try.prog 25 #[v, .int .i64 1] w fun e w' => e = .returned (.int .i64 ((n : Int) + 1)) ∧ ∃ m, w' = w.drewN m := by
  obtain ⟨a, cap, rfl, hlc, hcm, hwf, hmem⟩ := hv
  rw [marksF_len] at hlc hmem ⊢
  clear hwf
  unfold maxLen at hcm
  go_enter Try.func25, Try.ntmps25
  go_wp2
  go_loopw [1, 5] (fun m i wr => ∃ k : Nat, k ≤ n ∧ m = .int .i64 ((k : Int) + 1) ∧ i = .int .i64 (k : Int) ∧ ∃ j, wr = w.drewN j) (fun _ i _ => n - (intOf i).toNat)
  case atStart => exact ⟨0, Nat.zero_le _, rfl, rfl, 0, rfl⟩
  case round =>
    obtain ⟨k, hk, rfl, rfl, j, rfl⟩ := hrel
    by_cases hlt : k < n
    · rcases hmem with h0 | ⟨b, off, rfl, hb, hc⟩
      · have h1 := marksF_len n
        rw [h0] at h1
        simp at h1; omega
      have hcell := hc k hlt
      rw [marksF_get n k hlt] at hcell
      have ix := markF_is k
      have hq := markF_neq k
      unfold markF at hcell ix hq
      clear hc
      go_wp2_with (first | (apply wpList_fcmp; rfl; rfl; rfl; rfl; (first | with_reducible assumption | exact Is.const rfl); (first | with_reducible assumption | exact Is.const rfl); (first | with_reducible assumption | exact rfl)) | ((with_reducible apply Loose.wp_start); kernel_rfl; kernel_rfl) | ((with_reducible apply Loose.start_cons)) | ((with_reducible apply Loose.start_nil)) | ((with_reducible apply Loose.walk_nil); intro n) | ((with_reducible apply Loose.walk_skip); exact rfl; (go_simp; first | done | exact rfl)) | ((with_reducible apply Loose.step_fc); rfl; rfl; rfl; rfl; (first | with_reducible assumption | exact Is.const rfl); (first | with_reducible assumption | exact Is.const rfl); (first | with_reducible assumption | exact rfl); exact rfl; (go_simp; first | done | exact rfl)) | ((with_reducible apply Loose.step_fa); rfl; rfl; rfl; rfl; (first | with_reducible assumption | exact Is.const rfl); (first | with_reducible assumption | exact Is.const rfl); exact rfl; (intro r; go_simp; first | done | exact rfl); intro r hr) | ((with_reducible apply Loose.step_wid); rfl; rfl; (first | with_reducible assumption | exact Is.const rfl); exact U32; exact U64; exact rfl; (intro r; go_simp; first | done | exact rfl); intro r hr) | ((with_reducible apply Loose.step_nar); rfl; rfl; (first | with_reducible assumption | exact Is.const rfl); exact U64; exact U32; (with_reducible assumption); exact rfl; (intro r; go_simp; first | done | exact rfl); intro r hr) | ((with_reducible apply Loose.step_assign); rfl; rfl; (with_reducible assumption); exact rfl; (intro r; go_simp; first | done | exact rfl); intro r hr) | ((with_reducible apply Loose.step_move); rfl; rfl; (with_reducible assumption); exact rfl; (intro r; go_simp; first | done | exact rfl); intro r hr) | ((with_reducible apply Loose.step_same); rfl; rfl; exact U32; exact U32; (first | with_reducible assumption | exact Is.const rfl); exact rfl; (intro r; go_simp; first | done | exact rfl); intro r hr) | ((with_reducible apply Loose.step_same); rfl; rfl; exact U64; exact U64; (first | with_reducible assumption | exact Is.const rfl); exact rfl; (intro r; go_simp; first | done | exact rfl); intro r hr) | ((with_reducible apply Loose.step_eq); rfl; (intro n; go_simp; first | done | exact rfl); exact rfl; (go_simp; first | done | exact rfl)))
      go_roundw
      case rel => exact ⟨k + 1, by omega, by go_num, by go_num, _, rfl⟩
      case measure => simp [intOf]; omega
    · obtain rfl : k = n := by omega
      clear hlt
      go_wp2
      go_ret
      exact ⟨rfl, _, rfl⟩
end Go.Proofs.Ytpnmledanloboaa
