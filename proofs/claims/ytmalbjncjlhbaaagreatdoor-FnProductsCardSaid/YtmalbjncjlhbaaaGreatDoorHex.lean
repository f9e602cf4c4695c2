/-
  Hexadecimal texts: the library's function at base 16, for numbers below 2^32.
-/
import Derived.Test.YtmalbjncjlhbaaaGreatDoorChecked
import Derived.Lib.Slices
import Derived.Lib.Hide
import Derived.Laws.IdiomStrings
import Derived.OwnWalk
import Derived.WalkKit
import Derived.BigCall
import Derived.WalkLawsBesides
import Derived.Below
import Derived.Lib.VarintBits
namespace Go.Proofs.YtmalbjncjlhbaaaGreatDoor
open Go.RowKit

/-- The digit of a number below 16. -/
def hexB (d : Nat) : UInt8 := UInt8.ofNat (if d < 10 then 48 + d else 87 + d)
/-- The digits of a number, no more than needed. -/
def hexL (u : Nat) : List UInt8 := if _h : u < 16 then [hexB u] else hexL (u / 16) ++ [hexB (u % 16)]
termination_by u
decreasing_by omega

theorem hexL_small {u : Nat} (h : u < 16) : hexL u = [hexB u] := by rw [hexL, dif_pos h]
theorem hexL_step {u : Nat} (h : 16 ≤ u) : hexL u = hexL (u / 16) ++ [hexB (u % 16)] := by rw [hexL, dif_neg (by omega)]

theorem digs_size : (⟨#[48, 49, 50, 51, 52, 53, 54, 55, 56, 57, 97, 98, 99, 100, 101, 102, 103, 104, 105, 106, 107, 108, 109, 110, 111, 112, 113, 114, 115, 116, 117, 118, 119, 120, 121, 122]⟩ : ByteArray).size = 36 := rfl
theorem digit_at : ∀ v : Fin 16, ((⟨#[48, 49, 50, 51, 52, 53, 54, 55, 56, 57, 97, 98, 99, 100, 101, 102, 103, 104, 105, 106, 107, 108, 109, 110, 111, 112, 113, 114, 115, 116, 117, 118, 119, 120, 121, 122]⟩ : ByteArray)[v.val]'(by rw [digs_size]; omega)).toNat = (hexB v.val).toNat := by decide +kernel
theorem digit_val (v : Nat) (h : v < 16) (h' : v < (⟨#[48, 49, 50, 51, 52, 53, 54, 55, 56, 57, 97, 98, 99, 100, 101, 102, 103, 104, 105, 106, 107, 108, 109, 110, 111, 112, 113, 114, 115, 116, 117, 118, 119, 120, 121, 122]⟩ : ByteArray).size) : Value.int .u8 ((((⟨#[48, 49, 50, 51, 52, 53, 54, 55, 56, 57, 97, 98, 99, 100, 101, 102, 103, 104, 105, 106, 107, 108, 109, 110, 111, 112, 113, 114, 115, 116, 117, 118, 119, 120, 121, 122]⟩ : ByteArray)[v]'h').toNat : Nat) : Int) = Value.int .u8 ((hexB v).toNat : Int) := by
  rw [digit_at ⟨v, h⟩]

theorem row_set {l : Nat} {z y : Value} {bs : List Value} (hl : l < 65) : (List.replicate (65 - l) z ++ bs).set (65 - l - 1) y = List.replicate (65 - (l + 1)) z ++ y :: bs := by
  have e : List.replicate (65 - l) z = List.replicate (65 - (l + 1)) z ++ [z] := by
    rw [show 65 - l = (65 - (l + 1)) + 1 by omega, List.replicate_succ']
  rw [e, List.append_assoc, List.set_append_right _ _ (by simp; omega)]
  have : 65 - l - 1 - (List.replicate (65 - (l + 1)) z).length = 0 := by simp; omega
  rw [this]
  rfl

theorem row_bytes {B e b : Nat} {W : World} (l : List UInt8) (o n : Nat) (hl : o + l.length = 65) (hn : n = l.length) (h : W.ownsRow B e 1 (.slice (some ⟨b, 0, none⟩) 65 65) 65 (List.replicate (65 - l.length) (.int .u8 0) ++ Lib.byteCells l)) :
    (convert 22 9 (.slice (some ⟨b, o, none⟩) n n)).run Tryz.prog W = .ok (.string ⟨l.toArray⟩) W := by
  subst hn
  refine run_convert_bytes_back W 22 9 5 ⟨b, o, none⟩ l.length l Tryz.underlying22 Tryz.underlying5 Tryz.underlying9 ?_
  intro j hj
  have h1 := h.cellAt (o + j) (by omega)
  rw [List.getElem?_append_right (by simp; omega)] at h1
  have e : (⟨b, o, none⟩ : Addr).add j = ⟨b, o + j, none⟩ := by simp [Addr.add]
  rw [e, h1]
  have e2 : o + j - (List.replicate (65 - l.length) (Value.int .u8 0)).length = j := by simp; omega
  rw [e2]
  simp [Lib.byteCells, hj]

theorem pow2_any (w : World) : Calls Tryz.prog 131 #[.int .i64 16] w fun e w' => e = .returned (.bool true) ∧ w' = w := by
  go_enter Tryz.func131, Tryz.ntmps131
  go_wp2
  go_ret
  exact ⟨rfl, rfl⟩

theorem tz64 (w : World) (h : w.cell? ⟨6, 15, none⟩ = some (.int .u8 4)) : Calls Tryz.prog 142 #[.int .u64 16] w fun e w' => e = .returned (.int .i64 4) ∧ w' = w := by
  have e3 : IntKind.u64.wrap (bits BinOp.and IntKind.u64 16 (IntKind.u64.wrap (-16)) * 285870213051353865) / 288230376151711744 = 15 := by decide +kernel
  go_enter Tryz.func142, Tryz.ntmps142
  go_wp2
  go_ret
  exact ⟨rfl, rfl⟩

theorem tz (w : World) (h : w.cell? ⟨6, 15, none⟩ = some (.int .u8 4)) : Calls Tryz.prog 132 #[.int .u64 16] w fun e w' => e = .returned (.int .i64 4) ∧ w' = w := by
  go_enter Tryz.func132, Tryz.ntmps132
  go_wp2_with (go_at_call 142; refine (tz64 _ h).mono ?_; rintro e w' ⟨rfl, rfl⟩)
  go_ret
  exact ⟨rfl, rfl⟩

set_option maxHeartbeats 1000000 in
set_option maxRecDepth 100000 in
theorem fmt16 (N : Nat) (w : World) (hN : N < 4294967296) (h : w.cell? ⟨6, 15, none⟩ = some (.int .u8 4)) :
    Calls Tryz.prog 114 #[.slice none 0 0, .int .u64 (N : Int), .int .i64 16, .bool false, .bool false] w fun e w' => e = .returned (.tuple #[.slice none 0 0, .string ⟨(hexL N).toArray⟩]) ∧ Below w.heap.size w w' := by
  have hglt : 6 < w.heap.size := block_lt_of_cell h
  have h1 : ∀ o, (w.alloc o).cell? ⟨6, 15, none⟩ = some (.int .u8 4) := fun o => by
    rw [((Below.refl w.heap.size w).alloc (Nat.le_refl _) o).cell (p := ⟨6, 15, none⟩) hglt]; exact h
  have H1 := Lib.hid h1
  clear h1
  go_enter Tryz.func114, Tryz.ntmps114
  go_wp2_with (first | (go_at_call 131; refine (pow2_any _).mono ?_; rintro e w' ⟨rfl, rfl⟩) | (go_at_call 132; refine (tz _ (H1.out _)).mono ?_; rintro e w' ⟨rfl, rfl⟩))
  have hal : Tryz.prog.arrayLen 146 = 65 := by simp [Program.arrayLen, Tryz.underlying146]
  have hz : Tryz.zeroCells146 = (List.replicate 65 (Value.int .u8 0)).toArray := by kernel_rfl
  rw [hz]
  have hown0 : (w.alloc (.cells (List.replicate 65 (Value.int .u8 0)).toArray 146)).ownsRow w.heap.size 146 1 (.slice (some ⟨w.heap.size, 0, none⟩) 65 65) 65 (List.replicate 65 (Value.int .u8 0)) :=
    ⟨by simp, .inr ⟨w.heap.size, 65, _, rfl, Nat.le_refl _, heap_alloc_new w _, Nat.le_refl _, by unfold maxLen; decide, by simp, by simp⟩⟩
  have hbel0 := (Below.refl w.heap.size w).alloc (Nat.le_refl _) (.cells (List.replicate 65 (Value.int .u8 0)).toArray 146)
  generalize w.alloc (.cells (List.replicate 65 (Value.int .u8 0)).toArray 146) = w1 at hown0 hbel0 ⊢
  go_loopw [1, 13] (fun u i wr => ∃ (v : Nat) (ds : List UInt8), u = .int .u64 (v : Int) ∧ i = .int .i64 (65 - (ds.length : Int)) ∧ Hid (ds.length ≤ 7 ∧ v < 16 ^ (8 - ds.length) ∧ hexL v ++ ds = hexL N) ∧ wr.ownsRow w.heap.size 146 1 (.slice (some ⟨w.heap.size, 0, none⟩) 65 65) 65 (List.replicate (65 - ds.length) (.int .u8 0) ++ Lib.byteCells ds) ∧ Below w.heap.size w wr) (fun u _ _ => (intOf u).toNat)
  case atStart => exact ⟨N, [], rfl, by simp, Lib.hid ⟨Nat.zero_le _, by simpa using hN, by simp⟩, by simpa [Lib.byteCells] using hown0, hbel0⟩
  case round =>
    clear hown0 hbel0
    obtain ⟨v, ds, rfl, rfl, HD, hown, hbel⟩ := hrel
    have hd7 := HD.out.1
    by_cases hlt : v < 16
    · have hd : decide ((16 : Int) ≤ (v : Int)) = false := decide_eq_false (by omega)
      have hw0 := hown.cellAt (65 - ds.length - 1) (by omega)
      rw [List.getElem?_append_left (by simp; omega), List.getElem?_replicate, if_pos (by omega)] at hw0
      have hfz := hown.frozenAt (65 - ds.length - 1)
      have hst := (hown.stored (65 - ds.length - 1) (.int .u8 ((hexB v).toNat : Int))).1
      rw [row_set (by omega)] at hst
      rw [← digit_val v hlt (by rw [digs_size]; omega)] at hst
      have ST := Lib.hid hst
      have SB := Lib.hid (hbel.setCell (p := ⟨w.heap.size, 65 - ds.length - 1, none⟩) (Nat.le_refl _) (.int .u8 ((((⟨#[48, 49, 50, 51, 52, 53, 54, 55, 56, 57, 97, 98, 99, 100, 101, 102, 103, 104, 105, 106, 107, 108, 109, 110, 111, 112, 113, 114, 115, 116, 117, 118, 119, 120, 121, 122]⟩ : ByteArray)[v]'(by rw [digs_size]; omega)).toNat : Nat) : Int)))
      have hsl : ∀ W, (Instr.sliceAt 146 (.pointer (some ⟨w.heap.size, 0, none⟩)) (some (.int .i64 (65 - (ds.length : Int) - 1))) none none).run Tryz.prog W = .ok (.slice (some ⟨w.heap.size, 64 - ds.length, none⟩) (ds.length + 1) (ds.length + 1)) W := fun W => by
        rw [run_sliceAt_array_l W 146 ⟨w.heap.size, 0, none⟩ (by simp [Program.arrayLen, Program.elem, Tryz.underlying146]) .i64 (65 - (ds.length : Int) - 1) (by omega) (by rw [hal]; omega)]
        go_simp
        refine ⟨?_, by omega⟩
        rw [if_neg (by omega), show 65 - ds.length - 1 = 64 - ds.length by omega]
      have hcv := row_bytes (hexB v :: ds) (64 - ds.length) (ds.length + 1) (by simp; omega) rfl (show (wr.setCell ⟨w.heap.size, 65 - ds.length - 1, none⟩ (.int .u8 ((((⟨#[48, 49, 50, 51, 52, 53, 54, 55, 56, 57, 97, 98, 99, 100, 101, 102, 103, 104, 105, 106, 107, 108, 109, 110, 111, 112, 113, 114, 115, 116, 117, 118, 119, 120, 121, 122]⟩ : ByteArray)[v]'(by rw [digs_size]; omega)).toNat : Nat) : Int))).ownsRow w.heap.size 146 1 (.slice (some ⟨w.heap.size, 0, none⟩) 65 65) 65 (List.replicate (65 - (hexB v :: ds).length) (.int .u8 0) ++ Lib.byteCells (hexB v :: ds)) by
        have := ST.out
        rw [digit_val v hlt (by rw [digs_size]; omega)] at this ⊢
        exact this)
      have HE := Lib.hid (show hexB v :: ds = hexL N by rw [← HD.out.2.2, hexL_small hlt]; rfl)
      clear hst hown hbel
      go_wp2
      go_ret2
      exact ⟨by rw [← HE.out]; first | rfl | simp, SB.out⟩
    · have hd : decide ((16 : Int) ≤ (v : Int)) = true := decide_eq_true (by omega)
      have hv32 : v < 4294967296 := Nat.lt_of_lt_of_le HD.out.2.1 (Nat.pow_le_pow_right (n := 16) (by decide) (show 8 - ds.length ≤ 8 by omega))
      have hand : bits .and .u64 (v : Int) 15 = ((v % 16 : Nat) : Int) := by
        have := bits_mask .u64 64 (by decide) wraps_u64 4 (by decide) (v : Int) (by omega) (by omega)
        rw [show bits .and .u64 (v : Int) 15 = (v : Int) % 16 from this]; rfl
      have hw0 := hown.cellAt (65 - ds.length - 1) (by omega)
      rw [List.getElem?_append_left (by simp; omega), List.getElem?_replicate, if_pos (by omega)] at hw0
      have hfz := hown.frozenAt (65 - ds.length - 1)
      have hm16 : v % 16 < 16 := Nat.mod_lt _ (by decide)
      have hst := (hown.stored (65 - ds.length - 1) (.int .u8 ((hexB (v % 16)).toNat : Int))).1
      rw [row_set (by omega)] at hst
      rw [← digit_val (v % 16) hm16 (by rw [digs_size]; omega)] at hst
      have ST := Lib.hid hst
      have SB := Lib.hid (hbel.setCell (p := ⟨w.heap.size, 65 - ds.length - 1, none⟩) (Nat.le_refl _) (.int .u8 ((((⟨#[48, 49, 50, 51, 52, 53, 54, 55, 56, 57, 97, 98, 99, 100, 101, 102, 103, 104, 105, 106, 107, 108, 109, 110, 111, 112, 113, 114, 115, 116, 117, 118, 119, 120, 121, 122]⟩ : ByteArray)[v % 16]'(by rw [digs_size]; omega)).toNat : Nat) : Int)))
      clear hst hown hbel
      have HN := Lib.hid (show ds.length + 1 ≤ 7 ∧ v / 16 < 16 ^ (8 - (ds.length + 1)) ∧ hexL (v / 16) ++ hexB (v % 16) :: ds = hexL N by
        obtain ⟨_, h2, h3⟩ := HD.out
        have h4 : ds.length ≠ 7 := fun e => by rw [e] at h2; simp at h2; omega
        have h5 : 8 - ds.length = (8 - (ds.length + 1)) + 1 := by omega
        rw [h5, Nat.pow_succ] at h2
        refine ⟨by omega, Nat.div_lt_of_lt_mul (by rw [Nat.mul_comm]; exact h2), ?_⟩
        rw [← h3, hexL_step (u := v) (by omega), List.append_assoc]; rfl)
      go_wp2
      go_roundw
      case rel => exact ⟨v / 16, hexB (v % 16) :: ds, by go_num, by simp; omega, HN, by have := ST.out; rw [digit_val (v % 16) hm16 (by rw [digs_size]; omega)] at this ⊢; exact this, SB.out⟩
      case measure => simp [intOf]; omega
end Go.Proofs.YtmalbjncjlhbaaaGreatDoor
