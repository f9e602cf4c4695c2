/-
  Hexadecimal texts: the model's text of a number.
-/
import Derived.Test.YtmalbjncjlhbaaaGreatDoorHexF
import Derived.Test.YtmalbjncjlhbaaaGreatDoorDec
namespace Go.Proofs.YtmalbjncjlhbaaaGreatDoor
open Go.Fl Go.RowKit

theorem and15 (x : Nat) (h : x < 4294967296) : bits .and .i64 (x : Int) 15 = ((x % 16 : Nat) : Int) := by
  have h2 : (2 : Int) ^ 63 = 9223372036854775808 := by decide
  have h3 := bits_mask .i64 63 (by decide) (fun n h0 h1 => by rw [h2] at h1; rw [IntKind.wrap_i64]; omega) 4 (by decide) (x : Int) (by omega) (by rw [h2]; omega)
  have e : ((2 : Int) ^ 4 - 1) = 15 := by decide
  rw [e] at h3
  rw [h3]
  omega
theorem and15_shift (N j : Nat) (h : N < 4294967296) (hj : j < 8) : bits .and .i64 ((N : Int) / 2 ^ (28 - 4 * j)) 15 = ((N / 16 ^ (7 - j) % 16 : Nat) : Int) := by
  have e : (2 : Nat) ^ (28 - 4 * j) = 16 ^ (7 - j) := by
    rw [show (16 : Nat) = 2 ^ 4 by decide, ← Nat.pow_mul, show 4 * (7 - j) = 28 - 4 * j by omega]
  have e2 : (N : Int) / 2 ^ (28 - 4 * j) = ((N / 16 ^ (7 - j) : Nat) : Int) := by
    rw [← e]; simp
  rw [e2, and15 _ (Nat.lt_of_le_of_lt (Nat.div_le_self _ _) h)]

theorem digs6_size : (⟨#[48, 49, 50, 51, 52, 53, 54, 55, 56, 57, 97, 98, 99, 100, 101, 102]⟩ : ByteArray).size = 16 := rfl
theorem digit6_at : ∀ v : Fin 16, ((⟨#[48, 49, 50, 51, 52, 53, 54, 55, 56, 57, 97, 98, 99, 100, 101, 102]⟩ : ByteArray)[v.val]'(by rw [digs6_size]; omega)).toNat = (hexB v.val).toNat := by decide +kernel
theorem digit6_val (v : Nat) (h : v < 16) (h' : v < (⟨#[48, 49, 50, 51, 52, 53, 54, 55, 56, 57, 97, 98, 99, 100, 101, 102]⟩ : ByteArray).size) : Value.int .u8 ((((⟨#[48, 49, 50, 51, 52, 53, 54, 55, 56, 57, 97, 98, 99, 100, 101, 102]⟩ : ByteArray)[v]'h').toNat : Nat) : Int) = Value.int .u8 ((hexB v).toNat : Int) := by
  rw [digit6_at ⟨v, h⟩]

end Go.Proofs.YtmalbjncjlhbaaaGreatDoor
