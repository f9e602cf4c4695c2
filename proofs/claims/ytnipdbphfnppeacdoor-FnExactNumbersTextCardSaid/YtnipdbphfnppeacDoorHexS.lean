/-
  Hexadecimal texts: the model's text of a number.
-/
import Derived.Test.YtnipdbphfnppeacDoorHexF
import Derived.Test.YtnipdbphfnppeacDoorDec
namespace Go.Proofs.YtnipdbphfnppeacDoor
open Go.Fl Go.RowKit

theorem and15 (x : Nat) (h : x < 4294967296) : bits .and .i64 (x : Int) 15 = ((x % 16 : Nat) : Int) := by
  have h2 : (2 : Int) ^ 63 = 9223372036854775808 := by decide
  have h3 := bits_mask .i64 63 (by decide) (fun n h0 h1 => by rw [h2] at h1; rw [IntKind.wrap_i64]; omega) 4 (by decide) (x : Int) (by omega) (by rw [h2]; omega)
  have e : ((2 : Int) ^ 4 - 1) = 15 := by decide
  rw [e] at h3
  rw [h3]
  omega
theorem and15_shift (N j : Nat) (h : N < 4294967296) (hj : j < 8) : bits .and .i64 ((N : Int) / 2 ^ (28 - 4 * j)) 15 = ((N / 16 ^ (7 - j) % 16 : Nat) : Int) := by
  have e : (2 : Nat) ^ (28 - 4 * j) = 16 ^ (7 - j) := by
    rw [show (16 : Nat) = 2 ^ 4 by decide, ← Nat.pow_mul, show 4 * (7 - j) = 28 - 4 * j by omega]
  have e2 : (N : Int) / 2 ^ (28 - 4 * j) = ((N / 16 ^ (7 - j) : Nat) : Int) := by
    rw [← e]; simp
  rw [e2, and15 _ (Nat.lt_of_le_of_lt (Nat.div_le_self _ _) h)]

theorem digs6_size : (⟨#[48, 49, 50, 51, 52, 53, 54, 55, 56, 57, 97, 98, 99, 100, 101, 102]⟩ : ByteArray).size = 16 := rfl
theorem digit6_at : ∀ v : Fin 16, ((⟨#[48, 49, 50, 51, 52, 53, 54, 55, 56, 57, 97, 98, 99, 100, 101, 102]⟩ : ByteArray)[v.val]'(by rw [digs6_size]; omega)).toNat = (hexB v.val).toNat := by decide +kernel
theorem digit6_val (v : Nat) (h : v < 16) (h' : v < (⟨#[48, 49, 50, 51, 52, 53, 54, 55, 56, 57, 97, 98, 99, 100, 101, 102]⟩ : ByteArray).size) : Value.int .u8 ((((⟨#[48, 49, 50, 51, 52, 53, 54, 55, 56, 57, 97, 98, 99, 100, 101, 102]⟩ : ByteArray)[v]'h').toNat : Nat) : Int) = Value.int .u8 ((hexB v).toNat : Int) := by
  rw [digit6_at ⟨v, h⟩]

set_option maxHeartbeats 1000000 in
set_option maxRecDepth 100000 in
theorem sHex_any (x : Nat) (w : World) (hx : x < 4294967296) : Calls Tryd.prog 50 #[.float .f32 x] w fun e w' => e = .returned (.string ⟨(hexT x).toArray⟩) ∧ Below w.heap.size w w' := by
  obtain ⟨i0, hi, hz0, hz1, hz2⟩ := info_parts infoByte
  have ix : Is .f32 x (cn .f32 x) := Is.of_lt hx
  have hb := bits_lt ix
  obtain ⟨N, hN⟩ : ∃ N, bits32 (cn .f32 x) = N := ⟨_, rfl⟩
  have HX := Lib.hid (show hexT x = hexK N 8 by unfold hexT; rw [hN])
  rw [hN] at hb
  have HN := Lib.hid hN
  clear hN
  go_enter Tryd.func50, Tryd.ntmps50
  go_wp2_with (go_at_call 55; refine (sBits_any _ _ ix _).mono ?_; rw [HN.out]; rintro e w' ⟨rfl, rfl⟩)
  go_loopw [4, 5] (fun v i wr => ∃ (l : List UInt8), l.length ≤ 8 ∧ i = .int .i64 (28 - 4 * (l.length : Int)) ∧ Bytes w.heap.size wr v l ∧ Hid (l ++ hexK N (8 - l.length) = hexK N 8) ∧ Below w.heap.size w wr) (fun _ i _ => (intOf i + 4).toNat)
  case atStart => exact ⟨[], by simp, rfl, ⟨_, _, rfl, owned_none _ (Nat.le_refl _)⟩, Lib.hid rfl, (Below.refl _ _).alloc (Nat.le_refl _) _⟩
  case round =>
    obtain ⟨l, hj, rfl, ⟨g, cap, rfl, hown⟩, HD, hbel⟩ := hrel
    have hBs := hbel.size
    by_cases hlt : l.length < 8
    · have hd : decide ((0 : Int) ≤ 28 - 4 * (l.length : Int)) = true := decide_eq_true (by omega)
      have hand := and15_shift N l.length hb hlt
      obtain ⟨d, hdd⟩ : ∃ d, N / 16 ^ (7 - l.length) % 16 = d := ⟨_, rfl⟩
      have hd16 : d < 16 := by rw [← hdd]; exact Nat.mod_lt _ (by decide)
      rw [hdd] at hand
      have HD2 := Lib.hid (show (l ++ [hexB d]) ++ hexK N (8 - (l ++ [hexB d]).length) = hexK N 8 by
        rw [← HD.out, List.append_assoc, List.length_append, List.length_singleton, ← hdd]
        congr 1
        rw [show 8 - l.length = (7 - l.length) + 1 by omega, hexK, show 8 - (l.length + 1) = 7 - l.length by omega]
        rfl)
      clear hdd
      go_wp2_with (at_builtin; refine wpList_append_own _ rfl _ _ 59 rfl w.heap.size 5 i0 (.int .u8 0) 1 1 Tryd.underlying59 hi hz0 hz1 hz2 rfl (by decide) _ _ _ rfl (hown.alloc _) ⟨wr.heap.size, 0, none⟩ 1 1 [Value.int .u8 ((((⟨#[48, 49, 50, 51, 52, 53, 54, 55, 56, 57, 97, 98, 99, 100, 101, 102]⟩ : ByteArray)[d]'(by rw [digs6_size]; omega)).toNat : Nat) : Int)] rfl rfl (by intro j u' hj; match j, hj with | 0, hj => simp at hj; subst hj; simp [Addr.add]) (by intro u' hu'; simp at hu'; subst hu'; rfl) (by unfold maxLen; omega) (by omega) (by simp; omega) ?_)
      intro v' w' hown' hgrow hnil
      have hv : v' ≠ .slice none 0 0 := by simpa using hnil
      have hB' : Below w.heap.size w w' := (hbel.alloc hBs _).grown hgrow (by simp; omega) (fun k hk => (hown.lt k hk).1)
      obtain ⟨g', cap', hv', hown2⟩ := bytes_of hown' hv (l := l ++ [hexB d]) (by rw [digit6_val d hd16 (by rw [digs6_size]; omega)]; simp [Lib.byteCells])
      have hl2 : (l ++ [hexB d]).length = l.length + 1 := by simp
      generalize l ++ [hexB d] = l2 at hv' hown2 HD2 hl2
      subst hv'
      clear hown hown' hgrow hnil
      go_wp2
      go_roundw
      case rel => exact ⟨l2, by omega, congrArg (Value.int .i64) (by omega), ⟨_, _, rfl, hown2⟩, HD2, hB'⟩
      case measure => simp [intOf]; omega
    · have hd : decide ((0 : Int) ≤ 28 - 4 * (l.length : Int)) = false := decide_eq_false (by omega)
      have hcv := fun W' (hW : W' = wr) => run_convert_bytes_back (P := Tryd.prog) W' 59 9 5 ⟨g, 0, none⟩ cap l Tryd.underlying59 Tryd.underlying5 Tryd.underlying9 (fun j hj => by subst hW; exact hown.cells (g := g) rfl j _ (by simp [Lib.byteCells, hj]))
      have hcv' := hcv wr rfl
      have HE := Lib.hid (show l = hexK N 8 by rw [← HD.out, show 8 - l.length = 0 by omega]; simp [hexK])
      clear hcv
      go_wp2_with fail
      go_ret
      exact ⟨by rw [HX.out, ← HE.out]; rfl, hbel⟩
end Go.Proofs.YtnipdbphfnppeacDoor
