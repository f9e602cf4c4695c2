/-
  Texts cut at commas: plain facts on lists of bytes.
-/
import Derived.Lib.SplitLaws
import Derived.Test.YtmalbjncjlhbaaaGreatDoorDecM
namespace Go.Dec
open Go.Lib

/-- The parts of a text between commas. -/
def cutL : List UInt8 → List (List UInt8)
  | [] => [[]]
  | c :: l => if c = 44 then [] :: cutL l else match cutL l with | [] => [[c]] | p :: ps => (c :: p) :: ps

theorem cutL_ne (l : List UInt8) : cutL l ≠ [] := by
  cases l with
  | nil => simp [cutL]
  | cons c l => unfold cutL; split
                · simp
                · split <;> simp
theorem cutL_plain : ∀ a : List UInt8, 44 ∉ a → cutL a = [a]
  | [], _ => rfl
  | c :: l, h => by
    have h1 : ¬ c = 44 := fun e => h (by rw [e]; exact List.mem_cons_self ..)
    have ih := cutL_plain l (fun e => h (List.mem_cons_of_mem _ e))
    unfold cutL
    rw [if_neg h1, ih]
theorem cutL_at : ∀ (a b : List UInt8), 44 ∉ a → cutL (a ++ 44 :: b) = a :: cutL b
  | [], b, _ => by rw [List.nil_append, cutL, if_pos rfl]
  | c :: l, b, h => by
    have h1 : ¬ c = 44 := fun e => h (by rw [e]; exact List.mem_cons_self ..)
    have ih := cutL_at l b (fun e => h (List.mem_cons_of_mem _ e))
    rw [List.cons_append, cutL, if_neg h1, ih]

theorem idx_split : ∀ l : List UInt8, (index l [44] = -1 ∧ 44 ∉ l) ∨ ∃ i : Nat, index l [44] = i ∧ i < l.length ∧ l = l.take i ++ 44 :: l.drop (i + 1) ∧ 44 ∉ l.take i
  | [] => .inl ⟨by simp [index], by simp⟩
  | c :: l => by
    by_cases hc : c = 44
    · subst hc
      exact .inr ⟨0, by simp [index, List.isPrefixOf], by simp, by simp, by simp⟩
    · have hp : ([44] : List UInt8).isPrefixOf (c :: l) = false := by simp [List.isPrefixOf]; exact fun e => hc e.symm
      have hix : index (c :: l) [44] = if index l [44] == -1 then -1 else index l [44] + 1 := by rw [index, hp]; simp
      rcases idx_split l with ⟨h1, h2⟩ | ⟨i, h1, h2, h3, h4⟩
      · left
        exact ⟨by rw [hix, h1]; rfl, by simp [h2]; exact fun e => hc e.symm⟩
      · right
        refine ⟨i + 1, ?_, by simp; omega, ?_, ?_⟩
        · rw [hix, h1, if_neg (by simp)]; omega
        · rw [List.take_succ_cons, List.drop_succ_cons, List.cons_append]; exact congrArg (c :: ·) h3
        · rw [List.take_succ_cons]; simp [h4]; exact fun e => hc e.symm

theorem split_cut : ∀ (k : Nat) (l : List UInt8), count l [44] = k → splitK [44] 0 k l = cutL l
  | k, l, hk => by
    rcases idx_split l with ⟨h1, h2⟩ | ⟨i, h1, hi, h3, h4⟩
    · rw [count_miss h1] at hk
      subst hk
      rw [cutL_plain l h2]; rfl
    · have hc := count_hit (s := l) (sub := [44]) (by simp) h1
      simp only [List.length_cons, List.length_nil, Nat.zero_add] at hc
      obtain ⟨j, rfl⟩ : ∃ j, k = j + 1 := ⟨count (l.drop (i + 1)) [44], by omega⟩
      have ih := split_cut j (l.drop (i + 1)) (by omega)
      have e : cutL l = l.take i :: cutL (l.drop (i + 1)) := by
        have := cutL_at (l.take i) (l.drop (i + 1)) h4
        rwa [← h3] at this
      rw [e, splitK, if_neg (by rw [h1]; simp), h1]
      simp only [Int.toNat_natCast, Nat.add_zero, List.length_cons, List.length_nil, Nat.zero_add]
      rw [ih]
termination_by _ l => l.length
decreasing_by simp; omega

theorem cut_length (l : List UInt8) : (cutL l).length = l.count 44 + 1 := by
  induction l with
  | nil => rfl
  | cons c l ih =>
    unfold cutL
    by_cases h : c = 44
    · rw [if_pos h, List.length_cons, ih, h, List.count_cons_self]
    · rw [if_neg h, List.count_cons_of_ne (by simpa using h), ← ih]
      cases hcl : cutL l with
      | nil => exact absurd hcl (cutL_ne l)
      | cons p ps => rfl

/-- The program's cuts are the plain ones. -/
theorem splitB_cut (s : ByteArray) : (splitB ⟨#[44]⟩ 0 (countB s ⟨#[44]⟩) s).map (·.data.toList) = cutL s.data.toList := by
  rw [splitB_data]
  exact split_cut _ _ rfl

/-- What a text of a list reads as. -/
def readL (l : List UInt8) : Option (List Int) :=
  if l = [110, 111, 110, 101] then some []
  else if 64 < (cutL l).length then none
  else if (cutL l).all readB then some ((cutL l).map valD) else none
end Go.Dec
