/-
  Texts of numbers, as plain lists of bytes: what they read as.
-/
import Derived.Test.YtmalbjncjlhbaaaGreatDoorPu
import Derived.Test.YtmalbjncjlhbaaaGreatDoorHexF
import Derived.Test.YtmalbjncjlhbaaaGreatDoorCutM
namespace Go.Proofs.YtmalbjncjlhbaaaGreatDoor
open Go.Fl Go.RowKit Go.Pu16 Go.Dec

/-- A small hexadecimal digit. -/
def lowN (v : Nat) : Bool := decide ((48 ≤ v ∧ v ≤ 57) ∨ (97 ≤ v ∧ v ≤ 102))
def isLow (c : UInt8) : Bool := lowN c.toNat
def digV (v : Nat) : Nat := if v ≤ 57 then v - 48 else v - 87
def lowV (c : UInt8) : Nat := digV c.toNat
def foldW (a : Nat) (l : List UInt8) : Nat := l.foldl (fun a c => a * 16 + lowV c) a

theorem low_facts : ∀ v : Fin 256, lowN v.val = true → dg v.val = digV v.val ∧ digV v.val < 16 ∧ (hexB (digV v.val)).toNat = v.val := by decide +kernel
theorem hexB_facts : ∀ d : Fin 16, lowN (hexB d.val).toNat = true ∧ digV (hexB d.val).toNat = d.val := by decide +kernel
theorem low_at {c : UInt8} (h : isLow c = true) : dg c.toNat = lowV c ∧ lowV c < 16 ∧ hexB (lowV c) = c := by
  obtain ⟨h1, h2, h3⟩ := low_facts ⟨c.toNat, c.toNat_lt⟩ h
  exact ⟨h1, h2, UInt8.toNat_inj.1 h3⟩
theorem hexB_at {d : Nat} (h : d < 16) : isLow (hexB d) = true ∧ lowV (hexB d) = d := hexB_facts ⟨d, h⟩

theorem foldW_lt : ∀ (l : List UInt8) (a : Nat), l.all isLow = true → foldW a l < (a + 1) * 16 ^ l.length
  | [], a, _ => by simp [foldW]
  | c :: l, a, h => by
    rw [List.all_cons, Bool.and_eq_true] at h
    have h1 := (low_at h.1).2.1
    have h2 := foldW_lt l (a * 16 + lowV c) h.2
    have h3 : (a * 16 + lowV c + 1) * 16 ^ l.length ≤ ((a + 1) * 16) * 16 ^ l.length := Nat.mul_le_mul_right _ (by omega)
    have h4 : (a + 1) * 16 ^ (c :: l).length = ((a + 1) * 16) * 16 ^ l.length := by rw [List.length_cons, Nat.pow_succ, Nat.mul_comm (16 ^ l.length) 16, Nat.mul_assoc]
    rw [h4]
    exact Nat.lt_of_lt_of_le h2 h3

theorem puH_low : ∀ (l : List UInt8) (a : Nat), l.all isLow = true → (a + 1) * 16 ^ l.length ≤ 4294967296 → puH a l = some (foldW a l)
  | [], a, _, _ => rfl
  | c :: l, a, h, hb => by
    rw [List.all_cons, Bool.and_eq_true] at h
    obtain ⟨h1, h2, _⟩ := low_at h.1
    have h4 : (a + 1) * 16 ^ (c :: l).length = ((a + 1) * 16) * 16 ^ l.length := by rw [List.length_cons, Nat.pow_succ, Nat.mul_comm (16 ^ l.length) 16, Nat.mul_assoc]
    rw [h4] at hb
    have h3 : (a * 16 + lowV c + 1) * 16 ^ l.length ≤ ((a + 1) * 16) * 16 ^ l.length := Nat.mul_le_mul_right _ (by omega)
    have h5 : a * 16 + lowV c + 1 ≤ 4294967296 := by
      have : (a * 16 + lowV c + 1) * 1 ≤ (a * 16 + lowV c + 1) * 16 ^ l.length := Nat.mul_le_mul_left _ (Nat.pow_pos (n := l.length) (show 0 < 16 by decide))
      omega
    show (if 16 ≤ dg c.toNat then none else if 4294967295 < a * 16 + dg c.toNat then none else puH (a * 16 + dg c.toNat) l) = _
    rw [h1, if_neg (by omega), if_neg (by omega)]
    exact puH_low l _ h.2 (Nat.le_trans h3 hb)

theorem puH_lt : ∀ (l : List UInt8) (a u : Nat), a ≤ 4294967295 → puH a l = some u → u ≤ 4294967295
  | [], a, u, ha, h => by cases h; exact ha
  | c :: l, a, u, ha, h => by
    unfold puH at h
    split at h
    · cases h
    · split at h
      · cases h
      · exact puH_lt l _ u (by omega) h

theorem hexK_low (N : Nat) : ∀ k, (hexK N k).all isLow = true
  | 0 => rfl
  | k + 1 => by rw [hexK, List.all_cons, hexK_low N k, (hexB_at (Nat.mod_lt _ (by decide))).1]; rfl
theorem foldW_snoc (a : Nat) (l : List UInt8) (c : UInt8) : foldW a (l ++ [c]) = foldW a l * 16 + lowV c := by unfold foldW; rw [List.foldl_append]; rfl
theorem hexK_fold : ∀ (k N : Nat), N < 16 ^ k → foldW 0 (hexK N k) = N
  | 0, N, h => by simp at h; subst h; rfl
  | k + 1, N, h => by
    rw [hexK_snoc, foldW_snoc, hexK_fold k (N / 16) (by rw [Nat.pow_succ] at h; omega), (hexB_at (Nat.mod_lt _ (by decide))).2]
    omega
theorem fold_hexK : ∀ (k : Nat) (l : List UInt8), l.length = k → l.all isLow = true → hexK (foldW 0 l) k = l
  | 0, l, h, _ => by rw [List.length_eq_zero_iff.1 h]; rfl
  | k + 1, l, h, hl => by
    rcases List.eq_nil_or_concat l with rfl | ⟨l', c, rfl⟩
    · simp at h
    · rw [List.concat_eq_append] at h hl ⊢
      rw [List.all_append, Bool.and_eq_true] at hl
      have hc : isLow c = true := by simpa using hl.2
      obtain ⟨_, h2, h3⟩ := low_at hc
      have hk : l'.length = k := by simpa using h
      rw [foldW_snoc, hexK_snoc, show (foldW 0 l' * 16 + lowV c) / 16 = foldW 0 l' by omega, show (foldW 0 l' * 16 + lowV c) % 16 = lowV c by omega, fold_hexK k l' hk hl.1, h3]

/-- A word that is the text of a number. -/
def okW (l : List UInt8) : Bool := decide (l.length = 8) && l.all isLow && decide (bits32 (cn .f32 (foldW 0 l)) = foldW 0 l)
def valW (l : List UInt8) : Nat := foldW 0 l
theorem okW_facts {l : List UInt8} (h : okW l = true) : l.length = 8 ∧ l.all isLow = true ∧ bits32 (cn .f32 (valW l)) = valW l ∧ valW l < 4294967296 := by
  unfold okW at h
  rw [Bool.and_eq_true, Bool.and_eq_true] at h
  have h8 : l.length = 8 := of_decide_eq_true h.1.1
  have := foldW_lt l 0 h.1.2
  rw [h8] at this
  exact ⟨h8, h.1.2, of_decide_eq_true h.2, by simpa [valW] using this⟩
theorem read_yes {l : List UInt8} (h : okW l = true) : puH 0 l = some (valW l) ∧ hexT (valW l) = l := by
  obtain ⟨h1, h2, h3, _⟩ := okW_facts h
  refine ⟨puH_low l 0 h2 (by rw [h1]; decide), ?_⟩
  unfold hexT
  rw [h3]
  exact fold_hexK 8 l h1 h2
theorem read_back {l : List UInt8} {u : Nat} (hu : puH 0 l = some u) (ht : hexT u = l) : okW l = true := by
  have hlt : u ≤ 4294967295 := puH_lt l 0 u (by decide) hu
  have hb : bits32 (cn .f32 u) < 4294967296 := bits_lt (Is.of_lt (by rw [w32]; omega))
  unfold hexT at ht
  generalize hm : bits32 (cn .f32 u) = m at ht hb
  have h8 : l.length = 8 := by rw [← ht]; exact hexK_len _ 8
  have hl : l.all isLow = true := by rw [← ht]; exact hexK_low m 8
  have hf : foldW 0 l = m := by rw [← ht]; exact hexK_fold 8 m (by simpa using hb)
  have hp := puH_low l 0 hl (by rw [h8]; decide)
  rw [hp] at hu
  have hum : foldW 0 l = u := by simpa using hu
  unfold okW
  rw [decide_eq_true h8, hl, Bool.true_and, Bool.true_and]
  exact decide_eq_true (by rw [hum, hm, ← hf, hum])

/-- The numbers of a text. -/
def readN (l : List UInt8) : Option (List Nat) := if l = [110, 111, 110, 101] then some [] else if 256 < (cutL l).length then none else if (cutL l).all okW then some ((cutL l).map valW) else none
def okQ (p : ByteArray) : Bool := okW p.data.toList
def valQ (p : ByteArray) : Nat := valW p.data.toList
theorem readN_some {l : List UInt8} {ps : List ByteArray} (h0 : l ≠ [110, 111, 110, 101]) (h : ps.map (·.data.toList) = cutL l) (hn : ps.length ≤ 256) (ha : ps.all okQ = true) : readN l = some (ps.map valQ) := by
  unfold readN
  rw [if_neg h0, if_neg (by rw [← h, List.length_map]; omega), if_pos (by rw [← h, List.all_map]; exact ha), ← h, List.map_map]
  rfl
theorem readN_none {l : List UInt8} {ps : List ByteArray} (h0 : l ≠ [110, 111, 110, 101]) (h : ps.map (·.data.toList) = cutL l) (hc : 256 < ps.length ∨ ps.all okQ = false) : readN l = none := by
  unfold readN
  rw [if_neg h0]
  by_cases h1 : 256 < (cutL l).length
  · rw [if_pos h1]
  · rw [if_neg h1]
    rcases hc with hc | hc
    · rw [← h, List.length_map] at h1; omega
    · rw [if_neg (by rw [← h, List.all_map]; intro e; rw [show (okW ∘ fun x : ByteArray => x.data.toList) = okQ from rfl, hc] at e; cases e)]
theorem readN_empty : readN [110, 111, 110, 101] = some [] := by unfold readN; rw [if_pos rfl]
theorem okQ_take (ps : List ByteArray) (k : Nat) (p : ByteArray) (hk : ps[k]? = some p) (h1 : (ps.take k).all okQ = true) (h2 : okQ p = true) : (ps.take (k + 1)).all okQ = true := by
  obtain ⟨hlt, rfl⟩ := List.getElem?_eq_some_iff.1 hk
  rw [List.take_succ_eq_append_getElem hlt, List.all_append, h1]; simp [h2]
theorem okQ_not (ps : List ByteArray) (k : Nat) (p : ByteArray) (hk : ps[k]? = some p) (h2 : okQ p = false) : ps.all okQ = false := by
  obtain ⟨hlt, rfl⟩ := List.getElem?_eq_some_iff.1 hk
  rw [List.all_eq_false]; exact ⟨_, List.getElem_mem hlt, by simp [h2]⟩
theorem valQ_take (ps : List ByteArray) (k : Nat) (p : ByteArray) (hk : ps[k]? = some p) : (ps.take (k + 1)).map valQ = (ps.take k).map valQ ++ [valQ p] := by
  obtain ⟨hlt, rfl⟩ := List.getElem?_eq_some_iff.1 hk
  rw [List.take_succ_eq_append_getElem hlt, List.map_append]; rfl
theorem readN_ok (l : List UInt8) (xs : List Nat) (h : readN l = some xs) : xs.length ≤ 256 ∧ ∀ x ∈ xs, x < 2 ^ FloatKind.f32.format.width := by
  unfold readN at h
  split at h
  · cases h; simp
  · split at h
    · cases h
    · split at h
      · rename_i h1 h2
        cases h
        refine ⟨by simp; omega, fun x hx => ?_⟩
        obtain ⟨p, hp, rfl⟩ := List.mem_map.1 hx
        have := (okW_facts (List.all_eq_true.1 h2 p hp)).2.2.2
        rw [w32]; exact this
      · cases h
end Go.Proofs.YtmalbjncjlhbaaaGreatDoor
