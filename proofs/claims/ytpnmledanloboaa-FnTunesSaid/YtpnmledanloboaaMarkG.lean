/-
  The laws' marks in lists of 32-bit numbers, from any number on; what else has turned.
-/
import Derived.Test.YtpnmledanloboaaMarkF
namespace Go.Proofs.Ytpnmledanloboaa
open Go.Fl Go.RowKit

theorem grown_refl (w : World) (row : Option Nat) : w.grownBy w row := ⟨rfl, rfl, rfl, Nat.le_refl _, fun _ _ _ => rfl⟩
theorem grown_trans {a b c : World} {row : Option Nat} (h : a.grownBy b row) (k : b.grownBy c row) : a.grownBy c row :=
  ⟨k.os.trans h.os, k.tape.trans h.tape, k.output.trans h.output, Nat.le_trans h.size k.size, fun i hi hr => (k.block i (Nat.lt_of_lt_of_le hi h.size) hr).trans (h.block i hi hr)⟩

/-- Marks from number s on. -/
def marksG (s n : Nat) : List Nat := (List.range n).map fun i => markF (s + i)
theorem marksG_len (s n : Nat) : (marksG s n).length = n := by simp [marksG]
theorem marksG_at (s n k : Nat) (h : k < n) : (marksG s n)[k]? = some (markF (s + k)) := by
  unfold marksG
  rw [List.getElem?_map, List.getElem?_range h, Option.map_some]
theorem marksG_get (s n k : Nat) (h : k < n) : (marksG s n).getD k 0 = markF (s + k) := by
  rw [List.getD_eq_getElem?_getD, marksG_at s n k h, Option.getD_some]
theorem marksG_lt (s n : Nat) : ∀ x ∈ marksG s n, x < 2 ^ FloatKind.f32.format.width := by
  intro x hx
  obtain ⟨i, _, hi⟩ := List.mem_map.1 hx
  rw [← hi]
  exact (markF_is _).lt

set_option maxHeartbeats 1000000 in
set_option maxRecDepth 100000 in
theorem markG_any (B : Nat) (v : Value) (xs : List Nat) (s : Nat) (w : World) (h : FOwn B w v xs) (hn : s + xs.length ≤ 4503599627370496) : Calls Try.prog 24 #[v, .int .i64 ((s : Int) + 1)] w fun e w' =>
    e = .returned (.int .i64 (((s + xs.length : Nat) : Int) + 1)) ∧ FOwn B w' v (marksG s xs.length) ∧ w.grownBy w' v.ownBlock := by
  obtain ⟨a, cap, rfl, hf⟩ := fown_form h
  have H := Lib.hid h
  clear h
  go_enter Try.func24, Try.ntmps24
  go_wp2
  go_loopw [1, 5] (fun m i wr => ∃ k : Nat, k ≤ xs.length ∧ m = .int .i64 (((s + k : Nat) : Int) + 1) ∧ i = .int .i64 (k : Int) ∧ wr.ownsRow B 23 1 (.slice a xs.length cap) xs.length (((marksG s xs.length).map (Value.float .f32)).take k ++ (xs.map (Value.float .f32)).drop k) ∧ w.grownBy wr (Value.slice a xs.length cap).ownBlock) (fun _ i _ => xs.length - (intOf i).toNat)
  case atStart => exact ⟨0, Nat.zero_le _, rfl, rfl, by have h1 := H.out; unfold FOwn at h1; simpa using h1, grown_refl _ _⟩
  case round =>
    obtain ⟨k, hk, rfl, rfl, hown, hbel⟩ := hrel
    by_cases hlt : k < xs.length
    · rcases hf with rfl | ⟨g, rfl, hg1, hg2⟩
      · simp at hlt
      obtain ⟨u, hu⟩ : ∃ u : Nat, (((marksG s xs.length).map (Value.float .f32)).take k ++ (xs.map (Value.float .f32)).drop k)[k]? = some (Value.float .f32 u) := ⟨xs.getD k 0, by
        rw [List.getElem?_append_right (by simp [marksG_len]; omega)]
        simp [marksG_len, List.getD, Nat.min_eq_left hk, hlt]⟩
      have hw0 := hown.cellAt k (by omega)
      rw [hu] at hw0
      have hfz := hown.frozenAt k
      have hy : ((marksG s xs.length).map (Value.float .f32))[k]? = some (.float .f32 (markF (s + k))) := by rw [List.getElem?_map, marksG_at s _ k hlt, Option.map_some]
      have hst := (hown.stored k (.float .f32 (markF (s + k)))).1
      rw [mix_set (by simp [marksG_len]) hy] at hst
      have hb2 := grown_trans hbel (hown.stored k (.float .f32 (markF (s + k)))).2
      unfold markF at hst hb2
      have ST := Lib.hid hst
      have SB := Lib.hid hb2
      clear hst hb2 hu hy hown hbel
      go_wp2
      go_roundw
      case rel => exact ⟨k + 1, by omega, by go_num, by go_num, ST.out, SB.out⟩
      case measure => simp [intOf]; omega
    · obtain rfl : k = xs.length := by omega
      have hall : ((marksG s xs.length).map (Value.float .f32)).take xs.length ++ (xs.map (Value.float .f32)).drop xs.length = (marksG s xs.length).map (Value.float .f32) := by
        rw [List.take_of_length_le (by simp [marksG_len]), List.drop_of_length_le (by simp), List.append_nil]
      rw [hall] at hown
      have OW := Lib.hid hown
      clear hall hown hlt
      go_wp2
      go_ret
      exact ⟨rfl, by unfold FOwn; rw [marksG_len]; exact OW.out, hbel⟩

set_option maxHeartbeats 1000000 in
set_option maxRecDepth 100000 in
theorem heldG_any (v : Value) (s n : Nat) (w : World) (hv : FS .f32 w v (marksG s n)) (hn : s + n ≤ 4503599627370496) : Calls Try.prog 25 #[v, .int .i64 ((s : Int) + 1)] w fun e w' => e = .returned (.int .i64 (((s + n : Nat) : Int) + 1)) ∧ ∃ m, w' = w.drewN m := by
  obtain ⟨a, cap, rfl, hlc, hcm, hwf, hmem⟩ := hv
  rw [marksG_len] at hlc hmem ⊢
  clear hwf
  unfold maxLen at hcm
  go_enter Try.func25, Try.ntmps25
  go_wp2
  go_loopw [1, 5] (fun m i wr => ∃ k : Nat, k ≤ n ∧ m = .int .i64 (((s + k : Nat) : Int) + 1) ∧ i = .int .i64 (k : Int) ∧ ∃ j, wr = w.drewN j) (fun _ i _ => n - (intOf i).toNat)
  case atStart => exact ⟨0, Nat.zero_le _, rfl, rfl, 0, rfl⟩
  case round =>
    obtain ⟨k, hk, rfl, rfl, j, rfl⟩ := hrel
    by_cases hlt : k < n
    · rcases hmem with h0 | ⟨b, off, rfl, hb, hc⟩
      · have h1 := marksG_len s n
        rw [h0] at h1
        simp at h1; omega
      have hcell := hc k hlt
      rw [marksG_get s n k hlt] at hcell
      have ix := markF_is (s + k)
      have hq := markF_neq (s + k)
      unfold markF at hcell ix hq
      simp only [Int.natCast_add] at hcell ix hq
      clear hc
      go_wp2_with (first | (apply wpList_fcmp; rfl; rfl; rfl; rfl; (first | with_reducible assumption | exact Is.const rfl); (first | with_reducible assumption | exact Is.const rfl); (first | with_reducible assumption | exact rfl)) | ((with_reducible apply Loose.wp_start); kernel_rfl; kernel_rfl) | ((with_reducible apply Loose.start_cons)) | ((with_reducible apply Loose.start_nil)) | ((with_reducible apply Loose.walk_nil); intro n) | ((with_reducible apply Loose.walk_skip); exact rfl; (go_simp; first | done | exact rfl)) | ((with_reducible apply Loose.step_fc); rfl; rfl; rfl; rfl; (first | with_reducible assumption | exact Is.const rfl); (first | with_reducible assumption | exact Is.const rfl); (first | with_reducible assumption | exact rfl); exact rfl; (go_simp; first | done | exact rfl)) | ((with_reducible apply Loose.step_fa); rfl; rfl; rfl; rfl; (first | with_reducible assumption | exact Is.const rfl); (first | with_reducible assumption | exact Is.const rfl); exact rfl; (intro r; go_simp; first | done | exact rfl); intro r hr) | ((with_reducible apply Loose.step_wid); rfl; rfl; (first | with_reducible assumption | exact Is.const rfl); exact U32; exact U64; exact rfl; (intro r; go_simp; first | done | exact rfl); intro r hr) | ((with_reducible apply Loose.step_nar); rfl; rfl; (first | with_reducible assumption | exact Is.const rfl); exact U64; exact U32; (with_reducible assumption); exact rfl; (intro r; go_simp; first | done | exact rfl); intro r hr) | ((with_reducible apply Loose.step_assign); rfl; rfl; (with_reducible assumption); exact rfl; (intro r; go_simp; first | done | exact rfl); intro r hr) | ((with_reducible apply Loose.step_move); rfl; rfl; (with_reducible assumption); exact rfl; (intro r; go_simp; first | done | exact rfl); intro r hr) | ((with_reducible apply Loose.step_same); rfl; rfl; exact U32; exact U32; (first | with_reducible assumption | exact Is.const rfl); exact rfl; (intro r; go_simp; first | done | exact rfl); intro r hr) | ((with_reducible apply Loose.step_same); rfl; rfl; exact U64; exact U64; (first | with_reducible assumption | exact Is.const rfl); exact rfl; (intro r; go_simp; first | done | exact rfl); intro r hr) | ((with_reducible apply Loose.step_eq); rfl; (intro n; go_simp; first | done | exact rfl); exact rfl; (go_simp; first | done | exact rfl)))
      go_roundw
      case rel => exact ⟨k + 1, by omega, by go_num, by go_num, _, rfl⟩
      case measure => simp [intOf]; omega
    · obtain rfl : k = n := by omega
      clear hlt
      go_wp2
      go_ret
      exact ⟨rfl, _, rfl⟩

theorem markG_at (B : Nat) (v : Value) (xs : List Nat) (s : Nat) (t : Int) (w : World) (h : FOwn B w v xs) (hn : s + xs.length ≤ 4503599627370496) (ht : t = (s : Int) + 1) : Calls Try.prog 24 #[v, .int .i64 t] w fun e w' =>
    e = .returned (.int .i64 (((s + xs.length : Nat) : Int) + 1)) ∧ FOwn B w' v (marksG s xs.length) ∧ w.grownBy w' v.ownBlock := by
  subst ht
  exact markG_any B v xs s w h hn
theorem heldG_at (v : Value) (s n : Nat) (t : Int) (w : World) (hv : FS .f32 w v (marksG s n)) (hn : s + n ≤ 4503599627370496) (ht : t = (s : Int) + 1) : Calls Try.prog 25 #[v, .int .i64 t] w fun e w' => e = .returned (.int .i64 (((s + n : Nat) : Int) + 1)) ∧ ∃ m, w' = w.drewN m := by
  subst ht
  exact heldG_any v s n w hv hn
end Go.Proofs.Ytpnmledanloboaa
