/-
  Hexadecimal texts: the program's text of a number.
-/
import Derived.Test.YtmalbjncjlhbaaaGreatDoorHex
import Derived.Test.YtmalbjncjlhbaaaGreatDoorFC
import Derived.Test.YtmalbjncjlhbaaaGreatDoorShelf
namespace Go.Proofs.YtmalbjncjlhbaaaGreatDoor
open Go.Fl Go.RowKit

/-- What the texts of numbers want of the library's tables. -/
def TzAt (w : World) : Prop := w.cell? ⟨6, 15, none⟩ = some (.int .u8 4)
theorem TzAt.on {w w' : World} (h : TzAt w) (hb : Below w.heap.size w w') : TzAt w' := by
  unfold TzAt at h ⊢
  rw [hb.cell (p := ⟨6, 15, none⟩) (block_lt_of_cell h)]; exact h

theorem fmtI (N : Nat) (w : World) (hN : N < 4294967296) (h : TzAt w) : Calls Tryz.prog 98 #[.int .i64 (N : Int), .int .i64 16] w fun e w' => e = .returned (.string ⟨(hexL N).toArray⟩) ∧ Below w.heap.size w w' := by
  have hw : IntKind.u64.wrap (N : Int) = (N : Int) := by rw [IntKind.wrap_u64]; omega
  have hd : decide ((N : Int) < 0) = false := decide_eq_false (by omega)
  have H := Lib.hid h
  clear h
  go_enter Tryz.func98, Tryz.ntmps98
  go_wp2_with (go_at_call 114; refine (fmt16 N _ hN H.out).mono ?_; rintro e w1 ⟨rfl, b1⟩)
  go_ret
  exact ⟨rfl, b1⟩

theorem fmtS (N : Nat) (w : World) (hN : N < 4294967296) (h : TzAt w) : Calls Tryz.prog 80 #[.int .i64 (N : Int), .int .i64 16] w fun e w' => e = .returned (.string ⟨(hexL N).toArray⟩) ∧ Below w.heap.size w w' := by
  have H := Lib.hid h
  clear h
  go_enter Tryz.func80, Tryz.ntmps80
  go_wp2_with (go_at_call 98; refine (fmtI N _ hN H.out).mono ?_; rintro e w1 ⟨rfl, b1⟩)
  go_ret
  exact ⟨rfl, b1⟩

/-- The last k digits. -/
def hexK (N : Nat) : Nat → List UInt8
  | 0 => []
  | k + 1 => hexB (N / 16 ^ k % 16) :: hexK N k
theorem hexK_len (N : Nat) : ∀ k, (hexK N k).length = k
  | 0 => rfl
  | k + 1 => by rw [hexK, List.length_cons, hexK_len]
theorem hexK_snoc (N : Nat) : ∀ k, hexK N (k + 1) = hexK (N / 16) k ++ [hexB (N % 16)]
  | 0 => by simp [hexK]
  | k + 1 => by
    rw [hexK, hexK_snoc N k, hexK, List.cons_append]
    congr 3
    rw [Nat.pow_succ, Nat.mul_comm, Nat.div_div_eq_div_mul]
theorem hexB_zero : hexB 0 = 48 := by decide
theorem hexK_zero : ∀ k, hexK 0 k = List.replicate k 48
  | 0 => rfl
  | k + 1 => by rw [hexK, hexK_zero k, Nat.zero_div, Nat.zero_mod, hexB_zero]; rfl
theorem hexK_pad : ∀ (k N : Nat), N < 16 ^ k → 1 ≤ k → (hexL N).length ≤ k ∧ List.replicate (k - (hexL N).length) 48 ++ hexL N = hexK N k
  | 0, _, _, h => by omega
  | k + 1, N, h, _ => by
    by_cases hN : N < 16
    · rw [hexL_small hN, hexK_snoc, show N / 16 = 0 by omega, hexK_zero, show N % 16 = N by omega]
      exact ⟨by simp, by simp⟩
    · have hk : 1 ≤ k := by
        rcases Nat.eq_zero_or_pos k with rfl | h'
        · simp at h; omega
        · exact h'
      have hlt : N / 16 < 16 ^ k := by rw [Nat.pow_succ] at h; omega
      obtain ⟨h1, h2⟩ := hexK_pad k (N / 16) hlt hk
      rw [hexL_step (by omega), hexK_snoc, ← h2]
      refine ⟨by simp; omega, ?_⟩
      rw [List.length_append, List.length_singleton, show k + 1 - ((hexL (N / 16)).length + 1) = k - (hexL (N / 16)).length by omega, List.append_assoc]
theorem hexL_ne (N : Nat) : 1 ≤ (hexL N).length := by rw [hexL]; split <;> simp

theorem bits_lt {x X : Nat} (ix : Is .f32 x X) : bits32 X < 4294967296 := by
  by_cases hn : nan .f32 X = true
  · unfold bits32; rw [if_pos hn]; decide
  · rw [bits_of ix (by simpa using hn)]; exact lt32 ix

/-- The text of a number. -/
def hexT (x : Nat) : List UInt8 := hexK (bits32 (cn .f32 x)) 8

theorem rep_list : ∀ c, Lib.repeatL [48] c = List.replicate c 48
  | 0 => rfl
  | c + 1 => by rw [Lib.repeatL, rep_list c]; rfl
theorem rep_any (c : Nat) (w : World) (hc : c ≤ 8) : Calls Tryz.prog 81 #[.string ⟨#[48]⟩, .int .i64 (c : Int)] w fun e w' => e = .returned (.string ⟨(List.replicate c 48).toArray⟩) ∧ Below w.heap.size w w' := by
  rcases Nat.lt_or_ge c 2 with h | h
  · rcases Nat.lt_or_ge c 1 with h1 | h1
    · obtain rfl : c = 0 := by omega
      exact (Tryz.strings_Repeat_zero ⟨#[48]⟩ w).mono fun e w' ⟨he, hw⟩ => ⟨he, by subst hw; exact Below.refl _ _⟩
    · obtain rfl : c = 1 := by omega
      exact (Tryz.strings_Repeat_one ⟨#[48]⟩ w).mono fun e w' ⟨he, hw⟩ => ⟨he, by subst hw; exact Below.refl _ _⟩
  · refine (Tryz.strings_Repeat_main ⟨#[48]⟩ c w h (by omega) (by show 1 * c ≤ _; omega) (by decide)).mono fun e w' ⟨he, hb⟩ => ⟨?_, hb⟩
    rw [he, show (⟨#[48]⟩ : ByteArray).data.toList = [48] from rfl, rep_list]

theorem str_add (a b : List UInt8) : (⟨a.toArray⟩ : ByteArray) ++ ⟨b.toArray⟩ = ⟨(a ++ b).toArray⟩ := by
  apply ByteArray.ext
  simp [ByteArray.data_append]

theorem iText_any (x : Nat) (w : World) (hx : x < 4294967296) (h : TzAt w) : Calls Tryz.prog 49 #[.float .f32 x] w fun e w' => e = .returned (.string ⟨(hexT x).toArray⟩) ∧ Below w.heap.size w w' := by
  have ix : Is .f32 x (cn .f32 x) := Is.of_lt hx
  have hb := bits_lt ix
  obtain ⟨N, hN⟩ : ∃ N, bits32 (cn .f32 x) = N := ⟨_, rfl⟩
  have HX := Lib.hid (show hexT x = hexK N 8 by unfold hexT; rw [hN])
  rw [hN] at hb
  obtain ⟨hl, hp⟩ := hexK_pad 8 N (by simpa using hb) (by decide)
  have HN := Lib.hid hN
  have HF := Lib.hid (fun w (hw : TzAt w) => fmtS N w hb hw)
  have HT := Lib.hid h
  clear hN h
  generalize hexL N = l at hl hp HF
  have HP := Lib.hid hp
  clear hp
  go_enter Tryz.func49, Tryz.ntmps49
  go_wp2_with (first | (go_at_call 8; refine (iBitsOf_any _ _ ix _).mono ?_; rw [HN.out]; rintro e w' ⟨rfl, rfl⟩) | (go_at_call 80; refine (HF.out _ HT.out).mono ?_; rintro e w1 ⟨rfl, b1⟩))
  rw [show (8 : Int) - (l.length : Int) = ((8 - l.length : Nat) : Int) by omega]
  refine (rep_any _ _ (by omega)).mono ?_; rintro e w2 ⟨rfl, b2⟩
  go_wp2
  go_ret
  exact ⟨by rw [HX.out, ← HP.out, ← str_add]; simp, b1.trans (b2.mono b1.size)⟩
end Go.Proofs.YtmalbjncjlhbaaaGreatDoor
