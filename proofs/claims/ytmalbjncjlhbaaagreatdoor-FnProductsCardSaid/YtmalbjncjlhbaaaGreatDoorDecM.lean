/-
  Decimals read back: plain facts on lists of bytes.
-/
import Derived.Lib.ItoaLen
import Derived.Lib.ParseIntB
namespace Go.Dec
open Go.Lib

def stepD (a : Nat) (c : UInt8) : Nat := if 48 ≤ c.toNat ∧ c.toNat ≤ 57 then 10 * a + (c.toNat - 48) else a
def foldD (l : List UInt8) : Nat := l.foldl stepD 0
def valD (l : List UInt8) : Int := if l.head? = some 45 then -(foldD l : Int) else (foldD l : Int)
def readB (l : List UInt8) : Bool := decide (1 ≤ l.length) && decide (l.length ≤ 17) && decide (-1000000000000000 ≤ valD l) && decide (valD l ≤ 1000000000000000) && decide (itoa (valD l) = l)

theorem foldD_snoc (l : List UInt8) (c : UInt8) : foldD (l ++ [c]) = stepD (foldD l) c := by unfold foldD; rw [List.foldl_append]; rfl

theorem foldl_lt (l : List UInt8) : ∀ a, l.foldl stepD a + 1 ≤ (a + 1) * 10 ^ l.length := by
  induction l with
  | nil => intro a; simp
  | cons c l ih =>
    intro a
    refine Nat.le_trans (ih (stepD a c)) ?_
    have h1 : stepD a c + 1 ≤ (a + 1) * 10 := by unfold stepD; split <;> omega
    calc (stepD a c + 1) * 10 ^ l.length ≤ (a + 1) * 10 * 10 ^ l.length := Nat.mul_le_mul_right _ h1
      _ = (a + 1) * 10 ^ (c :: l).length := by rw [List.length_cons, Nat.pow_succ, Nat.mul_assoc, Nat.mul_comm 10]
theorem foldD_lt (l : List UInt8) : foldD l < 10 ^ l.length := by have := foldl_lt l 0; unfold foldD; omega
theorem foldD_take_le (l : List UInt8) (h : l.length ≤ 17) (k : Nat) : foldD (l.take k) < 100000000000000000 := by
  refine Nat.lt_of_lt_of_le (foldD_lt _) ?_
  have h1 : (l.take k).length ≤ 17 := Nat.le_trans (List.length_take_le' k l) h
  exact Nat.le_trans (Nat.pow_le_pow_right (by decide) h1) (by decide)

theorem digit_nat {u : Nat} (h : u < 10) : (UInt8.ofNat (48 + u)).toNat = 48 + u := by simp; omega

theorem foldD_dec : ∀ u, foldD (decDigits u) = u := by
  intro u
  induction u using Nat.strongRecOn with
  | ind u ih =>
    rw [decDigits]
    by_cases h : u < 10
    · rw [dif_pos h]
      unfold foldD stepD
      simp only [List.foldl_cons, List.foldl_nil, digit_nat h]
      rw [if_pos (by omega)]; omega
    · rw [dif_neg h, foldD_snoc, ih (u / 10) (by omega)]
      unfold stepD
      rw [digit_nat (by omega), if_pos (by omega)]; omega

theorem dec_head (u : Nat) : ∃ c r, decDigits u = c :: r ∧ 48 ≤ c.toNat ∧ c.toNat ≤ 57 := by
  induction u using Nat.strongRecOn with
  | ind u ih =>
    rw [decDigits]
    by_cases h : u < 10
    · rw [dif_pos h]
      exact ⟨_, [], rfl, by rw [digit_nat h]; omega⟩
    · rw [dif_neg h]
      obtain ⟨c, r, e, hc⟩ := ih (u / 10) (by omega)
      exact ⟨c, r ++ [UInt8.ofNat (48 + u % 10)], by rw [e]; rfl, hc⟩

theorem dec_len : ∀ (k u : Nat), u < 10 ^ (k + 1) → (decDigits u).length ≤ k + 1
  | 0, u, h => by rw [decDigits, dif_pos (by omega)]; simp
  | k + 1, u, h => by
    rw [decDigits]
    by_cases h1 : u < 10
    · rw [dif_pos h1]; simp
    · rw [dif_neg h1, List.length_append]
      have := dec_len k (u / 10) (by rw [Nat.pow_succ] at h; omega)
      simp; omega

theorem foldD_cons45 (l : List UInt8) : foldD (45 :: l) = foldD l := by
  unfold foldD
  rw [List.foldl_cons]
  have : stepD 0 45 = 0 := by decide
  rw [this]

theorem valD_itoa (n : Int) : valD (itoa n) = n := by
  unfold itoa valD
  by_cases h : n < 0
  · rw [if_pos h, if_pos (by rfl), foldD_cons45, foldD_dec]; omega
  · rw [if_neg h]
    obtain ⟨c, r, e, hc⟩ := dec_head n.toNat
    have h45 : (decDigits n.toNat).head? ≠ some 45 := by
      rw [e, List.head?_cons]
      intro h2
      cases h2
      exact absurd hc (by decide)
    rw [if_neg h45, foldD_dec]; omega

theorem itoa_len {n : Int} (h0 : -1000000000000000 ≤ n) (h1 : n ≤ 1000000000000000) : 1 ≤ (itoa n).length ∧ (itoa n).length ≤ 17 := by
  unfold itoa
  by_cases h : n < 0
  · rw [if_pos h, List.length_cons]
    have := dec_len 15 n.natAbs (Nat.lt_of_le_of_lt (show n.natAbs ≤ 1000000000000000 by omega) (by decide))
    omega
  · rw [if_neg h]
    have := dec_len 15 n.toNat (Nat.lt_of_le_of_lt (show n.toNat ≤ 1000000000000000 by omega) (by decide))
    obtain ⟨c, r, e, _⟩ := dec_head n.toNat
    refine ⟨?_, by omega⟩
    rw [e]; simp

theorem readB_itoa {n : Int} (h0 : -1000000000000000 ≤ n) (h1 : n ≤ 1000000000000000) : readB (itoa n) = true := by
  obtain ⟨h2, h3⟩ := itoa_len h0 h1
  unfold readB
  rw [valD_itoa]
  simp [h2, h3, h0, h1]

theorem readB_true {l : List UInt8} (h : readB l = true) : 1 ≤ l.length ∧ l.length ≤ 17 ∧ -1000000000000000 ≤ valD l ∧ valD l ≤ 1000000000000000 ∧ itoa (valD l) = l := by
  unfold readB at h
  simp only [Bool.and_eq_true, decide_eq_true_eq] at h
  exact ⟨h.1.1.1.1, h.1.1.1.2, h.1.1.2, h.1.2, h.2⟩

/-! ### the library's parser -/
theorem parse_append (M : Nat) : ∀ (a : List UInt8) (acc v : Nat) (b : List UInt8), parseUintM M acc a = .ok v → parseUintM M acc (a ++ b) = parseUintM M v b
  | [], acc, v, b, h => by simp only [parseUintM] at h; injection h with h; subst h; rfl
  | c :: r, acc, v, b, h => by
    simp only [parseUintM, List.cons_append] at h ⊢
    split at h
    · rename_i h1
      rw [if_pos h1]
      split at h
      · cases h
      · rename_i h2
        rw [if_neg h2]
        split at h
        · cases h
        · rename_i h3
          rw [if_neg h3]
          exact parse_append M r _ v b h
    · cases h

theorem parse_dec (M u : Nat) (h1 : u ≤ M) (h2 : u ≤ 1000000000000000) : parseUintM M 0 (decDigits u) = .ok u := by
  induction u using Nat.strongRecOn with
  | ind u ih =>
    rw [decDigits]
    by_cases h : u < 10
    · rw [dif_pos h]
      simp only [parseUintM, digit_nat h]
      rw [if_pos (by omega), if_neg (by omega), if_neg (by omega)]
      congr 1; omega
    · rw [dif_neg h, parse_append M _ _ _ _ (ih (u / 10) (by omega) (by omega) (by omega))]
      have hd : u % 10 < 10 := by omega
      simp only [parseUintM, digit_nat hd]
      rw [if_pos (by omega), if_neg (by omega), if_neg (by omega)]
      congr 1; omega

theorem parse_itoa {n : Int} (h0 : -1000000000000000 ≤ n) (h1 : n ≤ 1000000000000000) : parseIntB 64 (itoa n) = .ok n := by
  unfold itoa
  by_cases h : n < 0
  · rw [if_pos h]
    have hp := parse_dec (2 ^ 64 - 1) n.natAbs (by omega) (by omega)
    obtain ⟨c, r, e, hc⟩ := dec_head n.natAbs
    unfold parseIntB parseUintB
    dsimp only
    rw [if_pos (show UInt8.toNat 45 = 43 ∨ UInt8.toNat 45 = 45 by decide), if_neg (show ¬ decDigits n.natAbs = [] by rw [e]; simp), hp]
    dsimp only
    rw [if_neg (by intro h2; exact h2.1 (by decide)), if_neg (by omega), if_pos (by decide)]
    congr 1; omega
  · rw [if_neg h]
    have hp := parse_dec (2 ^ 64 - 1) n.toNat (by omega) (by omega)
    obtain ⟨c, r, e, hc⟩ := dec_head n.toNat
    rw [e] at hp ⊢
    unfold parseIntB parseUintB
    dsimp only
    rw [if_neg (show ¬ (c.toNat = 43 ∨ c.toNat = 45) by omega), if_neg (show ¬ (c :: r) = [] by simp), hp]
    dsimp only
    rw [if_neg (show ¬ (¬ c.toNat = 45 ∧ 2 ^ (64 - 1) ≤ n.toNat) by omega), if_neg (show ¬ (c.toNat = 45 ∧ 2 ^ (64 - 1) < n.toNat) by omega), if_neg (show ¬ c.toNat = 45 by omega)]
    congr 1; omega

/-- What the program reads: the parser's number, if it is small and its text is the one that was read. -/
theorem readB_iff (l : List UInt8) : readB l = true ↔ ∃ v, parseIntB 64 l = .ok v ∧ -1000000000000000 ≤ v ∧ v ≤ 1000000000000000 ∧ itoa v = l := by
  constructor
  · intro h
    obtain ⟨_, _, h3, h4, h5⟩ := readB_true h
    refine ⟨valD l, ?_, h3, h4, h5⟩
    have := parse_itoa h3 h4
    rwa [h5] at this
  · rintro ⟨v, _, h2, h3, rfl⟩
    exact readB_itoa h2 h3
end Go.Dec
