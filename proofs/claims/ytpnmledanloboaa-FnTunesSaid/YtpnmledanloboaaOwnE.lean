/-
  Lists of 32-bit numbers of a call's own, in memory laid for any type (an array of numbers sliced).
-/
import Derived.Test.YtpnmledanloboaaOwn
namespace Go.Proofs.Ytpnmledanloboaa
open Go.Fl Go.RowKit

def FOwnE (B : Nat) (w : World) (v : Value) (xs : List Nat) : Prop := ∃ e, w.ownsRow B e 1 v xs.length (xs.map (Value.float .f32))
theorem FOwn.toE {B : Nat} {w : World} {v : Value} {xs : List Nat} (h : FOwn B w v xs) : FOwnE B w v xs := ⟨_, h⟩
theorem fownE_form {B : Nat} {w : World} {v : Value} {xs : List Nat} {e : TypeId} (h : w.ownsRow B e 1 v xs.length (xs.map (Value.float .f32))) : ∃ a cap, v = .slice a xs.length cap ∧ (xs = [] ∨ ∃ g, a = some ⟨g, 0, none⟩ ∧ B ≤ g ∧ g < w.heap.size) := by
  have hl := h.lt
  rcases h.2 with ⟨rfl, h0⟩ | ⟨g, cap, cur, rfl, hB, _⟩
  · exact ⟨none, 0, by rw [h0], .inl (List.length_eq_zero_iff.1 h0)⟩
  · exact ⟨_, _, rfl, .inr ⟨g, rfl, hl g rfl⟩⟩
theorem FOwnE.lt {B : Nat} {w : World} {v : Value} {xs : List Nat} (h : FOwnE B w v xs) : ∀ k, v.ownBlock = some k → B ≤ k ∧ k < w.heap.size := by
  obtain ⟨e, h⟩ := h
  exact World.ownsRow.lt h
theorem fownE_below {B : Nat} {w w' : World} {v : Value} {xs : List Nat} (h : FOwnE B w v xs) (hb : Below w.heap.size w w') : FOwnE B w' v xs := by
  obtain ⟨e, h⟩ := h
  exact ⟨e, World.ownsRow.kept h (grown_below (row := none) hb) (by cases v.ownBlock <;> simp)⟩
theorem fownE_grown {B : Nat} {w w' : World} {u v : Value} {xs : List Nat} (h : FOwnE B w v xs) (hg : w.grownBy w' u.ownBlock) (hne : v.ownBlock = none ∨ v.ownBlock ≠ u.ownBlock) : FOwnE B w' v xs := by
  obtain ⟨e, h⟩ := h
  exact ⟨e, World.ownsRow.kept h hg hne⟩
theorem fownE_FS {B : Nat} {w : World} {v : Value} {xs : List Nat} (h : FOwnE B w v xs) (hwf : ∀ x ∈ xs, x < 2 ^ FloatKind.f32.format.width) : FS .f32 w v xs := by
  obtain ⟨e, h⟩ := h
  rcases h.2 with ⟨rfl, h0⟩ | ⟨g, cap, cur, rfl, hB, hg, hc, hm, hs, ht⟩
  · have hx := List.length_eq_zero_iff.1 h0
    subst hx
    exact ⟨none, 0, rfl, Nat.le_refl _, Nat.zero_le _, hwf, .inl rfl⟩
  · exact own_FS h hwf
def FResE (B : Nat) (w : World) (v : Value) (n : Nat) (F : Nat → Nat) : Prop := ∃ rs, rs.length = n ∧ Eqs rs F ∧ FOwnE B w v rs
theorem FRes.toE {B : Nat} {w : World} {v : Value} {n : Nat} {F : Nat → Nat} (h : FRes B w v n F) : FResE B w v n F := by
  obtain ⟨rs, h1, h2, h3⟩ := h
  exact ⟨rs, h1, h2, h3.toE⟩

set_option maxHeartbeats 1000000 in
set_option maxRecDepth 100000 in
theorem markGE_any (B : Nat) (v : Value) (xs : List Nat) (s : Nat) (w : World) (h : FOwnE B w v xs) (hn : s + xs.length ≤ 4503599627370496) : Calls Try.prog 24 #[v, .int .i64 ((s : Int) + 1)] w fun e w' =>
    e = .returned (.int .i64 (((s + xs.length : Nat) : Int) + 1)) ∧ FOwnE B w' v (marksG s xs.length) ∧ w.grownBy w' v.ownBlock := by
  obtain ⟨et, h⟩ := h
  obtain ⟨a, cap, rfl, hf⟩ := fownE_form h
  have H := Lib.hid h
  clear h
  go_enter Try.func24, Try.ntmps24
  go_wp2
  go_loopw [1, 5] (fun m i wr => ∃ k : Nat, k ≤ xs.length ∧ m = .int .i64 (((s + k : Nat) : Int) + 1) ∧ i = .int .i64 (k : Int) ∧ wr.ownsRow B et 1 (.slice a xs.length cap) xs.length (((marksG s xs.length).map (Value.float .f32)).take k ++ (xs.map (Value.float .f32)).drop k) ∧ w.grownBy wr (Value.slice a xs.length cap).ownBlock) (fun _ i _ => xs.length - (intOf i).toNat)
  case atStart => exact ⟨0, Nat.zero_le _, rfl, rfl, by have h1 := H.out; simpa using h1, grown_refl _ _⟩
  case round =>
    obtain ⟨k, hk, rfl, rfl, hown, hbel⟩ := hrel
    by_cases hlt : k < xs.length
    · rcases hf with rfl | ⟨g, rfl, hg1, hg2⟩
      · simp at hlt
      obtain ⟨u, hu⟩ : ∃ u : Nat, (((marksG s xs.length).map (Value.float .f32)).take k ++ (xs.map (Value.float .f32)).drop k)[k]? = some (Value.float .f32 u) := ⟨xs.getD k 0, by
        rw [List.getElem?_append_right (by simp [marksG_len]; omega)]
        simp [marksG_len, List.getD, Nat.min_eq_left hk, hlt]⟩
      have hw0 := hown.cellAt k (by omega)
      rw [hu] at hw0
      have hfz := hown.frozenAt k
      have hy : ((marksG s xs.length).map (Value.float .f32))[k]? = some (.float .f32 (markF (s + k))) := by rw [List.getElem?_map, marksG_at s _ k hlt, Option.map_some]
      have hst := (hown.stored k (.float .f32 (markF (s + k)))).1
      rw [mix_set (by simp [marksG_len]) hy] at hst
      have hb2 := grown_trans hbel (hown.stored k (.float .f32 (markF (s + k)))).2
      unfold markF at hst hb2
      have ST := Lib.hid hst
      have SB := Lib.hid hb2
      clear hst hb2 hu hy hown hbel
      go_wp2
      go_roundw
      case rel => exact ⟨k + 1, by omega, by go_num, by go_num, ST.out, SB.out⟩
      case measure => simp [intOf]; omega
    · obtain rfl : k = xs.length := by omega
      have hall : ((marksG s xs.length).map (Value.float .f32)).take xs.length ++ (xs.map (Value.float .f32)).drop xs.length = (marksG s xs.length).map (Value.float .f32) := by
        rw [List.take_of_length_le (by simp [marksG_len]), List.drop_of_length_le (by simp), List.append_nil]
      rw [hall] at hown
      have OW := Lib.hid hown
      clear hall hown hlt
      go_wp2
      go_ret
      exact ⟨rfl, ⟨et, by rw [marksG_len]; exact OW.out⟩, hbel⟩

theorem markGE_at (B : Nat) (v : Value) (xs : List Nat) (s : Nat) (t : Int) (w : World) (h : FOwnE B w v xs) (hn : s + xs.length ≤ 4503599627370496) (ht : t = (s : Int) + 1) : Calls Try.prog 24 #[v, .int .i64 t] w fun e w' =>
    e = .returned (.int .i64 (((s + xs.length : Nat) : Int) + 1)) ∧ FOwnE B w' v (marksG s xs.length) ∧ w.grownBy w' v.ownBlock := by
  subst ht
  exact markGE_any B v xs s w h hn
end Go.Proofs.Ytpnmledanloboaa
