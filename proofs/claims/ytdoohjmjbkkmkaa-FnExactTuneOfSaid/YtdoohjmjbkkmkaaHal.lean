/-
  A half: by quotient and by product.
-/
import Derived.Test.YtdoohjmjbkkmkaaZer
namespace Go.Proofs.Ytdoohjmjbkkmkaa
open Go.Fl Go.RowKit Ieee
set_option linter.unusedSimpArgs false
set_option linter.unusedVariables false

theorem log2_shift {m : Nat} (h : m ≠ 0) (k : Nat) : (m * 2 ^ k).log2 = m.log2 + k := by
  have hp := Nat.two_pow_pos k
  have h0 : m * 2 ^ k ≠ 0 := fun e => by rcases Nat.mul_eq_zero.1 e with e | e <;> omega
  refine Nat.le_antisymm ?_ ?_
  · have : m * 2 ^ k < 2 ^ (m.log2 + k + 1) := by
      have h1 : m < 2 ^ (m.log2 + 1) := Nat.lt_log2_self
      calc m * 2 ^ k < 2 ^ (m.log2 + 1) * 2 ^ k := Nat.mul_lt_mul_of_pos_right h1 hp
        _ = _ := by rw [← Nat.pow_add]; congr 1; omega
    have := (Nat.log2_lt h0).2 this
    omega
  · refine (Nat.le_log2 h0).2 ?_
    rw [Nat.pow_add]
    exact Nat.mul_le_mul_right _ (Nat.log2_self_le h)
theorem cut_exact (s : Bool) (m : Nat) {k d : Nat} (h0 : m ≠ 0) (h : d ≤ k) : Toward.even.cut s (m * 2 ^ k) d = m * 2 ^ (k - d) := by
  unfold Toward.cut
  have e : min d ((m * 2 ^ k).log2 + 2) = d := by rw [log2_shift h0]; omega
  rw [e, Nat.shiftLeft_eq, Nat.one_mul]
  have hp := Nat.two_pow_pos d
  have e2 : m * 2 ^ k = (m * 2 ^ (k - d)) * 2 ^ d := by rw [Nat.mul_assoc, ← Nat.pow_add]; congr 2; omega
  rw [e2]
  dsimp only
  rw [Nat.mul_div_cancel _ hp, Nat.mul_mod_left]
  have h1 : decide (2 ^ d < 2 * 0) = false := decide_eq_false (by omega)
  have h2 : (2 ^ d == 2 * 0) = false := by rw [beq_eq_false_iff_ne]; omega
  simp [h1, h2]
theorem cut_scale (s : Bool) {m : Nat} (h0 : m ≠ 0) (k d : Nat) : Toward.even.cut s (m * 2 ^ k) (d + k) = Toward.even.cut s m d := by
  unfold Toward.cut
  have e : min (d + k) ((m * 2 ^ k).log2 + 2) = min d (m.log2 + 2) + k := by rw [log2_shift h0]; omega
  rw [e]
  generalize min d (m.log2 + 2) = g
  simp only [Nat.shiftLeft_eq, Nat.one_mul]
  have hp := Nat.two_pow_pos k
  have hg := Nat.two_pow_pos g
  rw [Nat.pow_add, Nat.mul_div_mul_right _ _ hp, Nat.mul_mod_mul_right]
  have e1 : (decide (2 ^ g * 2 ^ k < 2 * (m % 2 ^ g * 2 ^ k))) = decide (2 ^ g < 2 * (m % 2 ^ g)) := by
    apply decide_eq_decide.2
    rw [← Nat.mul_assoc]
    exact Nat.mul_lt_mul_right hp
  have e2 : ((2 ^ g * 2 ^ k == 2 * (m % 2 ^ g * 2 ^ k))) = (2 ^ g == 2 * (m % 2 ^ g)) := by
    rw [Bool.eq_iff_iff, beq_iff_eq, beq_iff_eq, ← Nat.mul_assoc]
    exact Nat.mul_right_cancel_iff hp
  rw [e1, e2]
theorem near_shift (f : Format) (s : Bool) (m k : Nat) (p : Int) : f.nearest s (m * 2 ^ k) p = f.nearest s m (p + k) := by
  by_cases h0 : m = 0
  · subst h0; rw [Nat.zero_mul]; unfold Format.nearest; rw [if_pos rfl, if_pos rfl]
  have hp := Nat.two_pow_pos k
  have h1 : m * 2 ^ k ≠ 0 := fun e => by rcases Nat.mul_eq_zero.1 e with e | e <;> omega
  unfold Format.nearest
  rw [if_neg h0, if_neg h1, log2_shift h0]
  have e1 : p + ((m.log2 + k : Nat) : Int) - (f.fractionBits : Int) = p + k + m.log2 - f.fractionBits := by omega
  rw [e1]
  dsimp only
  generalize max (p + (k : Int) + (m.log2 : Int) - (f.fractionBits : Int)) f.leastPlace = l
  congr 3
  by_cases c1 : l ≤ p
  · have a1 : (l - p).toNat = 0 := by omega
    have a2 : (l - (p + k)).toNat = 0 := by omega
    have a3 : (p + k - l).toNat = (p - l).toNat + k := by omega
    rw [a1, a2, a3, Nat.shiftLeft_eq, Nat.shiftLeft_eq, Nat.pow_add, Nat.mul_comm (2 ^ (p - l).toNat), Nat.mul_assoc]
  · have a0 : (p - l).toNat = 0 := by omega
    rw [a0, Nat.shiftLeft_eq, Nat.pow_zero, Nat.mul_one]
    by_cases c2 : l ≤ p + k
    · have a2 : (l - (p + k)).toNat = 0 := by omega
      have a3 : (p + k - l).toNat = k - (l - p).toNat := by omega
      rw [a2, a3, Nat.shiftLeft_eq, cut_exact s m h0 (by omega)]
      have := cut_exact s m (k := k - (l - p).toNat) (d := 0) h0 (Nat.zero_le _)
      rw [this, Nat.sub_zero]
    · have a2 : (p + k - l).toNat = 0 := by omega
      have a3 : (l - p).toNat = (l - (p + k)).toNat + k := by omega
      rw [a2, a3, Nat.shiftLeft_eq, Nat.pow_zero, Nat.mul_one, cut_scale s h0]
theorem read_two : FloatKind.f32.format.read 1073741824 = .number false 8388608 (-22) := by decide +kernel
theorem read_half : FloatKind.f32.format.read 1056964608 = .number false 8388608 (-24) := by decide +kernel
theorem mag_lt (r : Nat) : (mag FloatKind.f32.format r).log2 ≤ 23 := mag_log2 FloatKind.f32.format r
theorem half_eq (x : Nat) : fop .quo .f32 x 1073741824 = fop .mul .f32 1056964608 x := by
  cases hn : nan .f32 x with
  | true => unfold fop; rw [fb_nan_left .quo .f32 _ hn, fb_nan_right .mul .f32 _ hn]
  | false =>
    unfold fop floatBits Format.div Format.mul
    dsimp only
    rw [read_two, read_half]
    rcases fin_or_inf hn with h | h
    · rw [read_fin h]
      have hl := mag_lt (r32 x)
      generalize mag FloatKind.f32.format (r32 x) = m at hl
      generalize FloatKind.f32.format.leastPlace + (up FloatKind.f32.format (r32 x) : Int) = i
      generalize neg FloatKind.f32.format x = s
      unfold Datum.quotient Datum.product
      dsimp only
      rw [if_neg (by decide)]
      have e0 : (8388608 : Nat).log2 = 23 := by decide
      have e1 : FloatKind.f32.format.fractionBits = 23 := rfl
      rw [e0, e1, Option.map_some, Option.map_some]
      dsimp only
      unfold Format.write
      dsimp only
      obtain ⟨t, ht⟩ : ∃ t, 23 + 2 + 23 - m.log2 = t + 23 := ⟨25 - m.log2, by omega⟩
      rw [ht, Nat.shiftLeft_eq]
      have e2 : m * 2 ^ (t + 23) = (m * 2 ^ t) * 8388608 := by
        have h23 : (8388608 : Nat) = 2 ^ 23 := by decide
        rw [h23, Nat.pow_add, Nat.mul_assoc]
      rw [e2, Nat.mul_div_cancel _ (by decide), Nat.mul_mod_left]
      have e3 : 2 * (m * 2 ^ t) + ((0 : Nat) != 0).toNat = m * 2 ^ (t + 1) := by
        rw [show ((0 : Nat) != 0) = false from rfl, Nat.pow_succ]
        show 2 * (m * 2 ^ t) + 0 = _
        rw [Nat.add_zero, Nat.mul_comm 2, Nat.mul_assoc]
      have e4 : 8388608 * m = m * 2 ^ 23 := by
        have h23 : (8388608 : Nat) = 2 ^ 23 := by decide
        rw [h23, Nat.mul_comm]
      rw [e3, e4, near_shift, near_shift]
      have e5 : (s ^^ false) = (false ^^ s) := by cases s <;> rfl
      rw [e5]
      exact congrArg (fun p : Int => FloatKind.f32.format.nearest (false ^^ s) m p) (by omega)
    · rw [read_inf h]
      generalize neg FloatKind.f32.format x = s
      unfold Datum.quotient Datum.product
      dsimp only
      rw [if_neg (by decide)]
end Go.Proofs.Ytdoohjmjbkkmkaa
