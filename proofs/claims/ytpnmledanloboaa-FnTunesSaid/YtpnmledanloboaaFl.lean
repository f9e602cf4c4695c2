/-
  Floats: the order of words, rounding, conversions, and the walk's laws for floats, where all not-a-numbers are one.
  By an AI agent; no person has read it. Lean checks it.
-/
import Derived.WalkKit
import Derived.Laws.FloatArith
import Derived.Deep.Draws
namespace Go.Fl
open Ieee

theorem binade_pos (f : Format) : 0 < f.binade := Nat.two_pow_pos _
theorem signWeight_pos (f : Format) : 0 < f.signWeight := Nat.two_pow_pos _

def neg (f : Format) (x : Nat) : Bool := x / f.signWeight % 2 == 1
def rung (f : Format) (x : Nat) : Nat := x % f.signWeight
def mag (f : Format) (r : Nat) : Nat := if r < f.binade then r else f.binade + r % f.binade
def up (f : Format) (r : Nat) : Nat := r / f.binade - 1
/-- The magnitude of a rung, in units of the least place. -/
def V (f : Format) (r : Nat) : Nat := mag f r * 2 ^ up f r
def isNaN (f : Format) (x : Nat) : Bool := decide (f.infRung < rung f x)
def isFin (f : Format) (x : Nat) : Bool := decide (rung f x < f.infRung)
def key (f : Format) (x : Nat) : Int := if neg f x then -(rung f x : Int) else (rung f x : Int)
def sv (f : Format) (x : Nat) : Int := if neg f x then -(V f (rung f x) : Int) else (V f (rung f x) : Int)

theorem rung_lt (f : Format) (x : Nat) : rung f x < f.signWeight := Nat.mod_lt _ (signWeight_pos f)

theorem read_eq (f : Format) (hf : 1 ≤ f.exponentBits) (x : Nat) : f.read x =
    if rung f x < f.infRung then .number (neg f x) (mag f (rung f x)) (f.leastPlace + up f (rung f x))
    else if rung f x = f.infRung then .infinity (neg f x) else .nan (neg f x) (rung f x - f.infRung) := by
  have hB := binade_pos f
  have hi : f.binade ≤ f.infRung := by
    unfold Format.infRung
    have : 2 ^ 1 ≤ 2 ^ f.exponentBits := Nat.pow_le_pow_right (by decide) hf
    have h1 : 1 ≤ 2 ^ f.exponentBits - 1 := by omega
    calc f.binade = 1 * f.binade := by omega
      _ ≤ _ := Nat.mul_le_mul_right _ h1
  unfold Format.read
  dsimp only
  change (if rung f x < f.binade then _ else _) = _
  by_cases h : rung f x < f.binade
  · rw [if_pos h, if_pos (by omega)]
    have : up f (rung f x) = 0 := by unfold up; rw [Nat.div_eq_of_lt h]
    rw [this]
    unfold mag
    rw [if_pos h]
    simp [neg, rung]
  · rw [if_neg h]
    by_cases h2 : rung f x < f.infRung
    · rw [if_pos h2]
      have h2' : x % f.signWeight < f.infRung := h2
      rw [if_pos h2']
      unfold mag
      rw [if_neg h]
      rfl
    · rw [if_neg h2]
      have h2' : ¬ x % f.signWeight < f.infRung := h2
      rw [if_neg h2']
      rfl

theorem V_zero (f : Format) : V f 0 = 0 := by
  unfold V mag; rw [if_pos (binade_pos f)]; simp

theorem V_lt (f : Format) {r s : Nat} (h : r < s) : V f r < V f s := by
  have hB := binade_pos f
  unfold V
  have hr := Nat.div_add_mod r f.binade
  have hs := Nat.div_add_mod s f.binade
  have mr := Nat.mod_lt r hB
  have ms := Nat.mod_lt s hB
  have hq : r / f.binade ≤ s / f.binade := Nat.div_le_div_right (Nat.le_of_lt h)
  by_cases hs0 : s < f.binade
  · have : r < f.binade := by omega
    have e1 : up f r = 0 := by unfold up; rw [Nat.div_eq_of_lt this]
    have e2 : up f s = 0 := by unfold up; rw [Nat.div_eq_of_lt hs0]
    unfold mag
    rw [if_pos this, if_pos hs0, e1, e2]; simpa using h
  · have hs1 : 1 ≤ s / f.binade := (Nat.le_div_iff_mul_le hB).2 (by omega)
    by_cases hr0 : r < f.binade
    · have e1 : up f r = 0 := by unfold up; rw [Nat.div_eq_of_lt hr0]
      unfold mag
      rw [if_pos hr0, if_neg hs0, e1]
      have : 1 ≤ 2 ^ up f s := Nat.two_pow_pos _
      calc r * 2 ^ 0 < f.binade := by simpa using hr0
        _ ≤ (f.binade + s % f.binade) * 1 := by omega
        _ ≤ _ := Nat.mul_le_mul_left _ this
    · have hr1 : 1 ≤ r / f.binade := (Nat.le_div_iff_mul_le hB).2 (by omega)
      unfold mag
      rw [if_neg hr0, if_neg hs0]
      by_cases e : r / f.binade = s / f.binade
      · have : up f r = up f s := by unfold up; rw [e]
        rw [this]
        refine Nat.mul_lt_mul_of_pos_right ?_ (Nat.two_pow_pos _)
        rw [e] at hr
        omega
      · have hlt : up f r + 1 ≤ up f s := by unfold up; omega
        calc (f.binade + r % f.binade) * 2 ^ up f r < (2 * f.binade) * 2 ^ up f r := Nat.mul_lt_mul_of_pos_right (by omega) (Nat.two_pow_pos _)
          _ = f.binade * 2 ^ (up f r + 1) := by rw [Nat.pow_succ]; simp [Nat.mul_comm, Nat.mul_left_comm, Nat.mul_assoc]
          _ ≤ f.binade * 2 ^ up f s := Nat.mul_le_mul_left _ (Nat.pow_le_pow_right (by decide) hlt)
          _ ≤ _ := Nat.mul_le_mul_right _ (by omega)

theorem V_inj (f : Format) {r s : Nat} (h : V f r = V f s) : r = s := by
  rcases Nat.lt_trichotomy r s with h1 | h1 | h1
  · have := V_lt f h1; omega
  · exact h1
  · have := V_lt f h1; omega

theorem V_le (f : Format) {r s : Nat} (h : r ≤ s) : V f r ≤ V f s := by
  rcases Nat.lt_or_eq_of_le h with h1 | h1
  · exact Nat.le_of_lt (V_lt f h1)
  · rw [h1]; exact Nat.le_refl _

theorem V_le_iff (f : Format) {r s : Nat} : V f r ≤ V f s ↔ r ≤ s :=
  ⟨fun h => by
    by_cases h1 : r ≤ s
    · exact h1
    · have := V_lt f (show s < r by omega); omega, V_le f⟩

theorem V_lt_iff (f : Format) {r s : Nat} : V f r < V f s ↔ r < s :=
  ⟨fun h => by
    by_cases h1 : r < s
    · exact h1
    · have := V_le f (show s ≤ r by omega); omega, V_lt f⟩

theorem sv_lt_iff (f : Format) (x y : Nat) : sv f x < sv f y ↔ key f x < key f y := by
  have h0 := V_zero f
  have a := @V_lt_iff f (rung f x) (rung f y)
  have b := @V_lt_iff f (rung f y) (rung f x)
  have c := @V_lt_iff f 0 (rung f x)
  have d := @V_lt_iff f 0 (rung f y)
  unfold sv key
  cases neg f x <;> cases neg f y <;> simp <;> omega

theorem compare_int {a b c d : Int} (h1 : a < b ↔ c < d) (h2 : b < a ↔ d < c) : compare a b = compare c d := by
  rcases Int.lt_trichotomy a b with h | h | h
  · rw [Int.compare_eq_lt.2 h, Int.compare_eq_lt.2 (h1.1 h)]
  · have : c = d := by omega
    rw [Int.compare_eq_eq.2 h, Int.compare_eq_eq.2 this]
  · rw [Int.compare_eq_gt.2 h, Int.compare_eq_gt.2 (h2.1 h)]

theorem order_sv (f : Format) (x y : Nat) : compare (sv f x) (sv f y) = compare (key f x) (key f y) :=
  compare_int (sv_lt_iff f x y) (sv_lt_iff f y x)

theorem signed_up (s : Bool) (m a b : Nat) : signed s m (a + b) = signed s m a * 2 ^ b := by
  unfold signed
  cases s
  · simp [Nat.shiftLeft_eq, Nat.pow_add, Int.mul_assoc]
  · simp [Nat.shiftLeft_eq, Nat.pow_add, Int.mul_assoc, Int.neg_mul]

theorem sv_signed (f : Format) (x : Nat) : sv f x = signed (neg f x) (mag f (rung f x)) (up f (rung f x)) := by
  unfold sv signed V
  cases neg f x <;> simp [Nat.shiftLeft_eq]

theorem order_num (s t : Bool) (m n a b : Nat) (lp : Int) :
    Datum.order (.number s m (lp + a)) (.number t n (lp + b)) = some (compare (signed s m a) (signed t n b)) := by
  unfold Datum.order
  dsimp only
  congr 1
  have e1 : (lp + (a : Int) - min (lp + (a : Int)) (lp + (b : Int))).toNat = a - min a b := by omega
  have e2 : (lp + (b : Int) - min (lp + (a : Int)) (lp + (b : Int))).toNat = b - min a b := by omega
  rw [e1, e2]
  have f1 : signed s m a = signed s m (a - min a b) * 2 ^ (min a b) := by rw [← signed_up]; congr 1; omega
  have f2 : signed t n b = signed t n (b - min a b) * 2 ^ (min a b) := by rw [← signed_up]; congr 1; omega
  have hp : (0 : Int) < 2 ^ (min a b) := Int.pow_pos (by decide)
  rw [f1, f2]
  refine compare_int ?_ ?_ <;> exact (Int.mul_lt_mul_right hp).symm

theorem key_inf (f : Format) (x y : Nat) (hx : rung f x < f.infRung) (hy : rung f y = f.infRung) :
    compare (key f x) (key f y) = (if neg f y then .gt else .lt) ∧ compare (key f y) (key f x) = (if neg f y then .lt else .gt) := by
  unfold key
  cases neg f x <;> cases neg f y <;> simp [Int.compare_eq_lt, Int.compare_eq_gt] <;> omega

theorem order_eq (f : Format) (hf : 1 ≤ f.exponentBits) (x y : Nat) :
    f.order x y = if isNaN f x || isNaN f y then none else some (compare (key f x) (key f y)) := by
  unfold Format.order
  rw [read_eq f hf, read_eq f hf]
  unfold isNaN
  by_cases hx : rung f x < f.infRung
  · rw [if_pos hx]
    by_cases hy : rung f y < f.infRung
    · rw [if_pos hy, order_num, ← sv_signed, ← sv_signed, order_sv]
      have : ¬ f.infRung < rung f x := by omega
      have : ¬ f.infRung < rung f y := by omega
      simp [*]
    · rw [if_neg hy]
      by_cases hy2 : rung f y = f.infRung
      · rw [if_pos hy2]
        have : ¬ f.infRung < rung f x := by omega
        have : ¬ f.infRung < rung f y := by omega
        simp [*, Datum.order]
        rw [(key_inf f x y hx hy2).1]
      · rw [if_neg hy2]
        have : f.infRung < rung f y := by omega
        simp [*, Datum.order]
  · rw [if_neg hx]
    by_cases hx2 : rung f x = f.infRung
    · rw [if_pos hx2]
      by_cases hy : rung f y < f.infRung
      · rw [if_pos hy]
        have : ¬ f.infRung < rung f x := by omega
        have : ¬ f.infRung < rung f y := by omega
        simp [*, Datum.order]
        rw [(key_inf f y x hy hx2).2]
      · rw [if_neg hy]
        by_cases hy2 : rung f y = f.infRung
        · rw [if_pos hy2]
          have : ¬ f.infRung < rung f x := by omega
          have : ¬ f.infRung < rung f y := by omega
          have hp : 0 < f.infRung := by
            unfold Format.infRung
            have : 2 ^ 1 ≤ 2 ^ f.exponentBits := Nat.pow_le_pow_right (by decide) hf
            exact Nat.mul_pos (by omega) (binade_pos f)
          simp [*, Datum.order]
          unfold key
          rw [hx2, hy2]
          have c1 : compare (-(f.infRung : Int)) (f.infRung : Int) = .lt := Int.compare_eq_lt.2 (by omega)
          have c2 : compare (f.infRung : Int) (-(f.infRung : Int)) = .gt := Int.compare_eq_gt.2 (by omega)
          cases neg f x <;> cases neg f y <;> simp [c1, c2] <;> rfl
        · rw [if_neg hy2]
          have : f.infRung < rung f y := by omega
          simp [*, Datum.order]
    · rw [if_neg hx2]
      have : f.infRung < rung f x := by omega
      simp [*, Datum.order]

theorem cut_le (s : Bool) {n d m : Nat} (h : n ≤ m * 2 ^ d) : Toward.even.cut s n d ≤ m := by
  unfold Toward.cut
  dsimp only
  have hlog : n < 2 ^ (n.log2 + 1) := Nat.lt_log2_self
  have hgp : 0 < 2 ^ (min d (n.log2 + 2)) := Nat.two_pow_pos _
  rw [Nat.one_shiftLeft]
  by_cases hd : d ≤ n.log2 + 2
  · rw [Nat.min_eq_left hd] at hgp ⊢
    have hlow : n / 2 ^ d ≤ m := Nat.div_le_of_le_mul (by rw [Nat.mul_comm]; exact h)
    by_cases hlt : n / 2 ^ d < m
    · have : (decide (2 ^ d < 2 * (n % 2 ^ d)) || 2 ^ d == 2 * (n % 2 ^ d) && n / 2 ^ d % 2 == 1).toNat ≤ 1 := Bool.toNat_le _
      omega
    · have e : n / 2 ^ d = m := by omega
      have hr : n % 2 ^ d = 0 := by
        have := Nat.div_add_mod n (2 ^ d)
        rw [e, Nat.mul_comm] at this
        omega
      rw [hr, e]
      have e2 : ((2 ^ d == 2 * 0) : Bool) = false := by simp; 
      simp [e2]
  · have hmin : min d (n.log2 + 2) = n.log2 + 2 := Nat.min_eq_right (by omega)
    rw [hmin]
    have e : 2 ^ (n.log2 + 2) = 2 * 2 ^ (n.log2 + 1) := by rw [Nat.pow_succ 2 (n.log2 + 1), Nat.mul_comm]
    have hlow : n / 2 ^ (n.log2 + 2) = 0 := Nat.div_eq_of_lt (by omega)
    have hrest : n % 2 ^ (n.log2 + 2) = n := Nat.mod_eq_of_lt (by omega)
    rw [hlow, hrest]
    have e1 : decide (2 ^ (n.log2 + 2) < 2 * n) = false := by simp; omega
    have e2 : ((2 ^ (n.log2 + 2) == 2 * n) : Bool) = false := by simp; omega
    rw [e1, e2]
    simp

theorem le_cut (s : Bool) {n d m : Nat} (h : m * 2 ^ d ≤ n) : m ≤ Toward.even.cut s n d := by
  unfold Toward.cut
  dsimp only
  have hlog : n < 2 ^ (n.log2 + 1) := Nat.lt_log2_self
  rw [Nat.one_shiftLeft]
  by_cases hd : d ≤ n.log2 + 2
  · rw [Nat.min_eq_left hd]
    have hlow : m ≤ n / 2 ^ d := (Nat.le_div_iff_mul_le (Nat.two_pow_pos _)).2 h
    omega
  · have h1 : 2 ^ (n.log2 + 1) ≤ 2 ^ d := Nat.pow_le_pow_right (by decide) (by omega)
    rcases Nat.eq_zero_or_pos m with rfl | hm
    · exact Nat.zero_le _
    · have : 1 * 2 ^ d ≤ m * 2 ^ d := Nat.mul_le_mul_right _ hm
      omega

/-- The rung of the nearest number, before infinity bounds it. -/
def rnd (f : Format) (s : Bool) (mag : Nat) (place : Int) : Nat :=
  (max (place + mag.log2 - f.fractionBits) f.leastPlace - f.leastPlace).toNat * f.binade +
    Toward.even.cut s (mag <<< (place - max (place + mag.log2 - f.fractionBits) f.leastPlace).toNat) (max (place + mag.log2 - f.fractionBits) f.leastPlace - place).toNat

theorem nearest_eq (f : Format) (s : Bool) (mag : Nat) (place : Int) (h : mag ≠ 0) : f.nearest s mag place = f.word s (min (rnd f s mag place) f.infRung) := by
  unfold Format.nearest rnd
  rw [if_neg h]

theorem V_small (f : Format) {r : Nat} (h : r ≤ 2 * f.binade) : V f r = r := by
  have hB := binade_pos f
  unfold V mag
  by_cases h1 : r < f.binade
  · rw [if_pos h1]; unfold up; rw [Nat.div_eq_of_lt h1]; simp
  · rw [if_neg h1]
    by_cases h2 : r = 2 * f.binade
    · subst h2
      unfold up
      rw [Nat.mul_mod_left, Nat.mul_div_cancel _ hB]
      simp; omega
    · have hd : r / f.binade = 1 := by
        refine Nat.div_eq_of_lt_le ?_ ?_ <;> omega
      have hm : r % f.binade = r - f.binade := by
        have := Nat.div_add_mod r f.binade
        rw [hd] at this; omega
      unfold up
      rw [hd, hm]; simp; omega

theorem V_at (f : Format) (d k : Nat) (hk : f.binade ≤ k) (hk2 : k < 2 * f.binade) : V f (d * f.binade + k) = k * 2 ^ d := by
  have hB := binade_pos f
  have e : d * f.binade + k = (d + 1) * f.binade + (k - f.binade) := by rw [Nat.add_mul]; omega
  have hdiv : (d * f.binade + k) / f.binade = d + 1 := by
    rw [e, Nat.mul_comm, Nat.mul_add_div hB, Nat.div_eq_of_lt (by omega)]
  have hmod : (d * f.binade + k) % f.binade = k - f.binade := by
    rw [e, Nat.mul_comm, Nat.mul_add_mod, Nat.mod_eq_of_lt (by omega)]
  unfold V mag up
  rw [if_neg (by rw [e]; have : f.binade ≤ (d + 1) * f.binade := Nat.le_mul_of_pos_left _ (by omega)
                 omega), hdiv, hmod]
  congr 1; omega

theorem cancel {m n a b a' b' t : Nat} (h : m * 2 ^ a ≤ n * 2 ^ b) (ha : a = a' + t) (hb : b = b' + t) : m * 2 ^ a' ≤ n * 2 ^ b' := by
  subst ha hb
  rw [Nat.pow_add, Nat.pow_add, ← Nat.mul_assoc, ← Nat.mul_assoc] at h
  exact Nat.le_of_mul_le_mul_right h (Nat.two_pow_pos t)

theorem binade_eq (f : Format) : f.binade = 2 ^ f.fractionBits := rfl

theorem pow_split {a b : Nat} (h : a ≤ b) : 2 ^ b = 2 ^ a * 2 ^ (b - a) := by rw [← Nat.pow_add]; congr 1; omega

theorem rnd_le (f : Format) (s : Bool) {mag r : Nat} {place : Int} (h0 : mag ≠ 0)
    (h : mag * 2 ^ (place - f.leastPlace).toNat ≤ V f r * 2 ^ (f.leastPlace - place).toNat) : rnd f s mag place ≤ r := by
  have hB := binade_pos f
  have hlo : 2 ^ mag.log2 ≤ mag := Nat.log2_self_le h0
  have hhi : mag < 2 ^ (mag.log2 + 1) := Nat.lt_log2_self
  unfold rnd
  generalize hL : mag.log2 = L at *
  rw [Nat.shiftLeft_eq]
  by_cases hd : place + L - f.fractionBits ≤ f.leastPlace
  · rw [Int.max_eq_right hd]
    have e0 : (f.leastPlace - f.leastPlace).toNat = 0 := by omega
    rw [e0, Nat.zero_mul, Nat.zero_add]
    have k1 : Toward.even.cut s (mag * 2 ^ (place - f.leastPlace).toNat) (f.leastPlace - place).toNat ≤ 2 * f.binade := by
      refine cut_le s ?_
      refine Nat.le_trans (Nat.mul_le_mul_right _ (Nat.le_of_lt hhi)) ?_
      rw [binade_eq, Nat.mul_comm 2, ← Nat.pow_succ, ← Nat.pow_add, ← Nat.pow_add]
      exact Nat.pow_le_pow_right (by decide) (by omega)
    have k2 := cut_le s h
    by_cases hr : r ≤ 2 * f.binade
    · rw [V_small f hr] at k2; exact k2
    · omega
  · rw [Int.max_eq_left (by omega)]
    obtain ⟨d, hdd⟩ : ∃ d : Nat, place + L - f.fractionBits = f.leastPlace + d := ⟨(place + L - f.fractionBits - f.leastPlace).toNat, by omega⟩
    rw [hdd]
    have e0 : (f.leastPlace + (d : Int) - f.leastPlace).toNat = d := by omega
    rw [e0]
    -- the number is at least the first of its binade
    have hVr : V f ((d + 1) * f.binade) ≤ V f r := by
      have e : (d + 1) * f.binade = d * f.binade + f.binade := by rw [Nat.add_mul]; omega
      rw [e, V_at f d f.binade (Nat.le_refl _) (by omega), binade_eq]
      have h1 : 2 ^ L * 2 ^ (place - f.leastPlace).toNat ≤ V f r * 2 ^ (f.leastPlace - place).toNat := Nat.le_trans (Nat.mul_le_mul_right _ hlo) h
      rw [← Nat.pow_add]
      have e3 : L + (place - f.leastPlace).toNat = f.fractionBits + d + (f.leastPlace - place).toNat := by omega
      rw [← Nat.pow_add, e3, Nat.pow_add] at h1
      exact Nat.le_of_mul_le_mul_right h1 (Nat.two_pow_pos _)
    have hr1 : (d + 1) * f.binade ≤ r := (V_le_iff f).1 hVr
    have e4 : (d + 1) * f.binade = d * f.binade + f.binade := by rw [Nat.add_mul]; omega
    have k1 : Toward.even.cut s (mag * 2 ^ (place - (f.leastPlace + (d : Int))).toNat) (f.leastPlace + (d : Int) - place).toNat ≤ 2 * f.binade := by
      refine cut_le s ?_
      refine Nat.le_trans (Nat.mul_le_mul_right _ (Nat.le_of_lt hhi)) ?_
      rw [binade_eq, Nat.mul_comm 2, ← Nat.pow_succ, ← Nat.pow_add, ← Nat.pow_add]
      exact Nat.pow_le_pow_right (by decide) (by omega)
    by_cases hr2 : d * f.binade + 2 * f.binade ≤ r
    · omega
    · have hV : V f r = (r - d * f.binade) * 2 ^ d := by
        have := V_at f d (r - d * f.binade) (by omega) (by omega)
        rwa [show d * f.binade + (r - d * f.binade) = r from by omega] at this
      rw [hV, Nat.mul_assoc, ← Nat.pow_add] at h
      have k2 : Toward.even.cut s (mag * 2 ^ (place - (f.leastPlace + (d : Int))).toNat) (f.leastPlace + (d : Int) - place).toNat ≤ r - d * f.binade := by
        refine cut_le s ?_
        by_cases p1 : f.leastPlace ≤ place
        · by_cases p2 : f.leastPlace + d ≤ place
          · exact cancel (t := d) h (by omega) (by omega)
          · exact cancel (t := (place - f.leastPlace).toNat) h (by omega) (by omega)
        · exact cancel (t := 0) h (by omega) (by omega)
      omega

theorem le_rnd (f : Format) (s : Bool) {mag r : Nat} {place : Int} (h0 : mag ≠ 0)
    (h : V f r * 2 ^ (f.leastPlace - place).toNat ≤ mag * 2 ^ (place - f.leastPlace).toNat) : r ≤ rnd f s mag place := by
  have hB := binade_pos f
  have hlo : 2 ^ mag.log2 ≤ mag := Nat.log2_self_le h0
  have hhi : mag < 2 ^ (mag.log2 + 1) := Nat.lt_log2_self
  unfold rnd
  generalize hL : mag.log2 = L at *
  rw [Nat.shiftLeft_eq]
  by_cases hd : place + L - f.fractionBits ≤ f.leastPlace
  · rw [Int.max_eq_right hd]
    have e0 : (f.leastPlace - f.leastPlace).toNat = 0 := by omega
    rw [e0, Nat.zero_mul, Nat.zero_add]
    have k2 := le_cut s h
    by_cases hr : r ≤ 2 * f.binade
    · rw [V_small f hr] at k2; exact k2
    · -- V r would be too great
      have h2 : 2 * f.binade < V f r := by
        have := V_lt f (show 2 * f.binade < r by omega)
        rwa [V_small f (Nat.le_refl _)] at this
      have h3 : V f r * 2 ^ (f.leastPlace - place).toNat < 2 ^ (L + 1) * 2 ^ (place - f.leastPlace).toNat :=
        Nat.lt_of_le_of_lt h (Nat.mul_lt_mul_of_pos_right hhi (Nat.two_pow_pos _))
      have h4 : 2 * f.binade * 2 ^ (f.leastPlace - place).toNat < 2 ^ (L + 1) * 2 ^ (place - f.leastPlace).toNat :=
        Nat.lt_of_le_of_lt (Nat.mul_le_mul_right _ (Nat.le_of_lt h2)) h3
      rw [binade_eq, Nat.mul_comm 2, ← Nat.pow_succ, ← Nat.pow_add, ← Nat.pow_add] at h4
      have := Nat.pow_le_pow_right (show 0 < 2 by decide) (show L + 1 + (place - f.leastPlace).toNat ≤ f.fractionBits.succ + (f.leastPlace - place).toNat by omega)
      omega
  · rw [Int.max_eq_left (by omega)]
    obtain ⟨d, hdd⟩ : ∃ d : Nat, place + L - f.fractionBits = f.leastPlace + d := ⟨(place + L - f.fractionBits - f.leastPlace).toNat, by omega⟩
    rw [hdd]
    have e0 : (f.leastPlace + (d : Int) - f.leastPlace).toNat = d := by omega
    rw [e0]
    have k0 : f.binade ≤ Toward.even.cut s (mag * 2 ^ (place - (f.leastPlace + (d : Int))).toNat) (f.leastPlace + (d : Int) - place).toNat := by
      refine le_cut s ?_
      refine Nat.le_trans ?_ (Nat.mul_le_mul_right _ hlo)
      rw [binade_eq, ← Nat.pow_add, ← Nat.pow_add]
      exact Nat.pow_le_pow_right (by decide) (by omega)
    have hr2 : r < d * f.binade + 2 * f.binade := by
      have e : d * f.binade + 2 * f.binade = (d + 1) * f.binade + f.binade := by rw [Nat.add_mul]; omega
      rw [← V_lt_iff f, e, V_at f (d + 1) f.binade (Nat.le_refl _) (by omega), binade_eq]
      have h1 : V f r * 2 ^ (f.leastPlace - place).toNat < 2 ^ (L + 1) * 2 ^ (place - f.leastPlace).toNat :=
        Nat.lt_of_le_of_lt h (Nat.mul_lt_mul_of_pos_right hhi (Nat.two_pow_pos _))
      have e3 : L + 1 + (place - f.leastPlace).toNat = f.fractionBits + (d + 1) + (f.leastPlace - place).toNat := by omega
      rw [← Nat.pow_add, e3, Nat.pow_add] at h1
      rw [← Nat.pow_add]
      exact Nat.lt_of_mul_lt_mul_right h1
    by_cases hr1 : r < d * f.binade + f.binade
    · omega
    · have hV : V f r = (r - d * f.binade) * 2 ^ d := by
        have := V_at f d (r - d * f.binade) (by omega) (by omega)
        rwa [show d * f.binade + (r - d * f.binade) = r from by omega] at this
      rw [hV, Nat.mul_assoc, ← Nat.pow_add] at h
      have k2 : r - d * f.binade ≤ Toward.even.cut s (mag * 2 ^ (place - (f.leastPlace + (d : Int))).toNat) (f.leastPlace + (d : Int) - place).toNat := by
        refine le_cut s ?_
        by_cases p1 : f.leastPlace ≤ place
        · by_cases p2 : f.leastPlace + d ≤ place
          · exact cancel (t := d) h (by omega) (by omega)
          · exact cancel (t := (place - f.leastPlace).toNat) h (by omega) (by omega)
        · exact cancel (t := 0) h (by omega) (by omega)
      omega

/-- A number that the format has is written as it is. -/
theorem rnd_exact (f : Format) (s : Bool) {mag r : Nat} {place : Int} (h0 : mag ≠ 0)
    (h : V f r * 2 ^ (f.leastPlace - place).toNat = mag * 2 ^ (place - f.leastPlace).toNat) : rnd f s mag place = r :=
  Nat.le_antisymm (rnd_le f s h0 (by omega)) (le_rnd f s h0 (by omega))

theorem width_eq (f : Format) : 2 ^ f.width = 2 * f.signWeight := by
  unfold Format.width Format.signWeight
  rw [Nat.add_assoc, Nat.add_comm 1, Nat.pow_succ, Nat.mul_comm]

theorem rung_word (f : Format) (s : Bool) {r : Nat} (h : r < f.signWeight) : rung f (f.word s r) = r := by
  unfold rung Format.word
  cases s
  · simp [Nat.mod_eq_of_lt h]
  · simp [Nat.mod_eq_of_lt h]

theorem neg_word (f : Format) (s : Bool) {r : Nat} (h : r < f.signWeight) : neg f (f.word s r) = s := by
  unfold neg Format.word
  cases s
  · simp [Nat.div_eq_of_lt h]
  · have : (f.signWeight + r) / f.signWeight = 1 := by
      refine Nat.div_eq_of_lt_le ?_ ?_ <;> omega
    simp [this]

theorem word_of (f : Format) {x : Nat} (h : x < 2 ^ f.width) : f.word (neg f x) (rung f x) = x := by
  rw [width_eq] at h
  have hp := signWeight_pos f
  have hd := Nat.div_add_mod x f.signWeight
  unfold Format.word neg rung
  by_cases h1 : x < f.signWeight
  · rw [Nat.div_eq_of_lt h1, Nat.mod_eq_of_lt h1]; simp
  · have e : x / f.signWeight = 1 := by
      refine Nat.div_eq_of_lt_le ?_ ?_ <;> omega
    rw [e] at hd ⊢
    simp; omega

theorem ext_word (f : Format) {x y : Nat} (hx : x < 2 ^ f.width) (hy : y < 2 ^ f.width) (h1 : neg f x = neg f y) (h2 : rung f x = rung f y) : x = y := by
  rw [← word_of f hx, ← word_of f hy, h1, h2]

theorem infRung_lt (f : Format) : f.infRung < f.signWeight := by
  have h : 0 < 2 ^ f.exponentBits := Nat.two_pow_pos _
  have hB := binade_pos f
  have e : f.signWeight = 2 ^ f.exponentBits * f.binade := by unfold Format.signWeight; rw [Nat.pow_add]; rfl
  rw [e]
  exact Nat.mul_lt_mul_of_pos_right (by omega) hB

theorem nearest_neg (f : Format) (s : Bool) (m : Nat) (p : Int) : neg f (f.nearest s m p) = s := by
  have hi := infRung_lt f
  by_cases h : m = 0
  · unfold Format.nearest; rw [if_pos h]; exact neg_word f s (by omega)
  · rw [nearest_eq f s m p h]; exact neg_word f s (by omega)

theorem nearest_rung (f : Format) (s : Bool) (m : Nat) (p : Int) : rung f (f.nearest s m p) = if m = 0 then 0 else min (rnd f s m p) f.infRung := by
  have hi := infRung_lt f
  by_cases h : m = 0
  · unfold Format.nearest; rw [if_pos h, if_pos h]; exact rung_word f s (by omega)
  · rw [nearest_eq f s m p h, if_neg h]; exact rung_word f s (by omega)

theorem nearest_lt (f : Format) (s : Bool) (m : Nat) (p : Int) : f.nearest s m p < 2 ^ f.width := by
  have hi := infRung_lt f
  have hw := width_eq f
  have hw2 : ∀ r, r < f.signWeight → f.word s r < 2 ^ f.width := by
    intro r hr; rw [hw]; unfold Format.word; split <;> omega
  by_cases h : m = 0
  · unfold Format.nearest; rw [if_pos h]; exact hw2 _ (by omega)
  · rw [nearest_eq f s m p h]; exact hw2 _ (by omega)

/-- Few digits, a place that the format has: the number has a rung. -/
theorem exact_rung (f : Format) (m u : Nat) (h : m.log2 ≤ f.fractionBits) : ∃ r, V f r = m * 2 ^ u := by
  rcases Nat.eq_zero_or_pos m with rfl | hm
  · exact ⟨0, by rw [V_zero]; simp⟩
  have hlo : 2 ^ m.log2 ≤ m := Nat.log2_self_le (by omega)
  have hhi : m < 2 ^ (m.log2 + 1) := Nat.lt_log2_self
  by_cases hd : u + m.log2 ≤ f.fractionBits
  · refine ⟨m * 2 ^ u, V_small f ?_⟩
    refine Nat.le_trans (Nat.mul_le_mul_right _ (Nat.le_of_lt hhi)) ?_
    rw [binade_eq, Nat.mul_comm 2, ← Nat.pow_succ, ← Nat.pow_add]
    exact Nat.pow_le_pow_right (by decide) (by omega)
  · refine ⟨(u + m.log2 - f.fractionBits) * f.binade + m * 2 ^ (f.fractionBits - m.log2), ?_⟩
    rw [V_at]
    · rw [Nat.mul_assoc, ← Nat.pow_add]; congr 2; omega
    · calc f.binade = 2 ^ m.log2 * 2 ^ (f.fractionBits - m.log2) := pow_split h
        _ ≤ _ := Nat.mul_le_mul_right _ hlo
    · calc m * 2 ^ (f.fractionBits - m.log2) < 2 ^ (m.log2 + 1) * 2 ^ (f.fractionBits - m.log2) := Nat.mul_lt_mul_of_pos_right hhi (Nat.two_pow_pos _)
        _ = 2 * (2 ^ m.log2 * 2 ^ (f.fractionBits - m.log2)) := by rw [Nat.pow_succ, Nat.mul_comm (2 ^ m.log2) 2, Nat.mul_assoc]
        _ = 2 * f.binade := by rw [← pow_split h]; rfl

theorem mag_log2 (f : Format) (r : Nat) : (mag f r).log2 ≤ f.fractionBits := by
  have hB := binade_pos f
  have h2 : mag f r < 2 ^ (f.fractionBits + 1) := by
    have e : 2 ^ (f.fractionBits + 1) = 2 * f.binade := by rw [Nat.pow_succ, Nat.mul_comm]; rfl
    rw [e]
    unfold mag
    split
    · omega
    · have := Nat.mod_lt r hB; omega
  rcases Nat.eq_zero_or_pos (mag f r) with h0 | h0
  · rw [h0]; simp
  · have := (Nat.log2_lt (by omega : mag f r ≠ 0)).2 h2; omega

theorem rung_of_V (f : Format) (s : Bool) {m : Nat} {p : Int} {r : Nat} (h : V f r * 2 ^ (f.leastPlace - p).toNat = m * 2 ^ (p - f.leastPlace).toNat) (hr : r ≤ f.infRung) :
    rung f (f.nearest s m p) = r := by
  rw [nearest_rung]
  by_cases h0 : m = 0
  · rw [if_pos h0]
    subst h0
    have : V f r = 0 := by
      rw [Nat.zero_mul] at h
      rcases Nat.mul_eq_zero.1 h with h1 | h1
      · exact h1
      · have := Nat.two_pow_pos (f.leastPlace - p).toNat; omega
    exact V_inj f (by rw [V_zero, this])
  · rw [if_neg h0, rnd_exact f s h0 h, Nat.min_eq_left hr]

theorem write_read (f : Format) (hf : 1 ≤ f.exponentBits) {x : Nat} (h : x < 2 ^ f.width) (hn : isNaN f x = false) : f.write (f.read x) = x := by
  have hi := infRung_lt f
  rw [read_eq f hf]
  by_cases h1 : rung f x < f.infRung
  · rw [if_pos h1]
    unfold Format.write
    dsimp only
    refine ext_word f (nearest_lt ..) h (nearest_neg ..) ?_
    refine rung_of_V f _ ?_ (Nat.le_of_lt h1)
    have e1 : (f.leastPlace - (f.leastPlace + (up f (rung f x) : Int))).toNat = 0 := by omega
    have e2 : (f.leastPlace + (up f (rung f x) : Int) - f.leastPlace).toNat = up f (rung f x) := by omega
    rw [e1, e2]
    unfold V; simp
  · rw [if_neg h1]
    have h2 : rung f x = f.infRung := by
      unfold isNaN at hn
      have := of_decide_eq_false hn
      omega
    rw [if_pos h2]
    unfold Format.write
    dsimp only
    rw [← h2]
    exact word_of f h

/-- A power of two that is not evaluated. -/
def p2 (n : Nat) : Nat := 2 ^ n
theorem p2_pos (n : Nat) : 0 < p2 n := Nat.two_pow_pos n
theorem p2_eq (n : Nat) : p2 n = 2 ^ n := rfl

/-- From a format into a wider one: the sign stays, and the magnitude, in the wider one's units. -/
theorem widen (f g : Format) (hf : 1 ≤ f.exponentBits) (hfg : f.fractionBits ≤ g.fractionBits) (t : Nat) (ht : f.leastPlace = g.leastPlace + t)
    (hi : V f f.infRung * p2 t ≤ V g g.infRung) {x : Nat} (hx : rung f x < f.infRung) :
    neg g (g.write (f.read x)) = neg f x ∧ rung g (g.write (f.read x)) < g.infRung ∧ V g (rung g (g.write (f.read x))) = V f (rung f x) * p2 t := by
  rw [p2_eq] at hi ⊢
  rw [read_eq f hf, if_pos hx]
  unfold Format.write
  dsimp only
  obtain ⟨r, hr⟩ := exact_rung g (mag f (rung f x)) (up f (rung f x) + t) (Nat.le_trans (mag_log2 f _) hfg)
  have hV : V g r = V f (rung f x) * 2 ^ t := by rw [hr, Nat.pow_add, ← Nat.mul_assoc]; rfl
  have hlt : r < g.infRung := by
    rw [← V_lt_iff g, hV]
    exact Nat.lt_of_lt_of_le (Nat.mul_lt_mul_of_pos_right (V_lt f hx) (Nat.two_pow_pos _)) hi
  have hrung : rung g (g.nearest (neg f x) (mag f (rung f x)) (f.leastPlace + (up f (rung f x) : Int))) = r := by
    refine rung_of_V g _ ?_ (Nat.le_of_lt hlt)
    have e1 : (g.leastPlace - (f.leastPlace + (up f (rung f x) : Int))).toNat = 0 := by omega
    have e2 : (f.leastPlace + (up f (rung f x) : Int) - g.leastPlace).toNat = up f (rung f x) + t := by omega
    rw [e1, e2, hr]; simp
  exact ⟨nearest_neg .., by rw [hrung]; exact hlt, by rw [hrung]; exact hV⟩

theorem isNaN_infinity (f : Format) (s : Bool) : isNaN f (f.word s f.infRung) = false := by
  unfold isNaN; rw [rung_word f s (infRung_lt f)]; simp


theorem eb (k : FloatKind) : 1 ≤ k.format.exponentBits := by cases k <;> decide

def nan (k : FloatKind) (x : Nat) : Bool := isNaN k.format x
/-- The one not-a-number. -/
def qn (k : FloatKind) : Nat := k.format.infRung + 1
/-- All not-a-numbers are one. -/
def cn (k : FloatKind) (x : Nat) : Nat := if nan k x = true then qn k else x
def fop (op : BinOp) (k : FloatKind) (x y : Nat) : Nat := match floatBits op k x y with | some r => r | none => qn k
def isArith : BinOp → Bool | .add | .sub | .mul | .quo => true | _ => false

theorem nan_qn (k : FloatKind) : nan k (qn k) = true := by cases k <;> decide

theorem nan_cn (k : FloatKind) (x : Nat) : nan k (cn k x) = nan k x := by
  unfold cn; split
  · rename_i h; rw [nan_qn, h]
  · rfl

theorem cn_of (k : FloatKind) {x : Nat} (h : nan k x = false) : cn k x = x := by unfold cn; rw [h]; simp
theorem cn_nan (k : FloatKind) {x : Nat} (h : nan k x = true) : cn k x = qn k := by unfold cn; rw [if_pos h]
theorem cn_cn (k : FloatKind) (x : Nat) : cn k (cn k x) = cn k x := by
  by_cases h : nan k x = true
  · rw [cn_nan k h, cn_nan k (nan_qn k)]
  · have h' : nan k x = false := by simpa using h
    rw [cn_of k h', cn_of k h']

theorem read_nan (k : FloatKind) {x : Nat} (h : nan k x = true) : ∃ s t, k.format.read x = .nan s t := by
  unfold nan isNaN at h
  have h := of_decide_eq_true h
  rw [read_eq _ (eb k), if_neg (by omega), if_neg (by omega)]
  exact ⟨_, _, rfl⟩

theorem read_not_nan (k : FloatKind) {x : Nat} (h : nan k x = false) : ∀ s t, k.format.read x ≠ .nan s t := by
  unfold nan isNaN at h
  have h := of_decide_eq_false h
  rw [read_eq _ (eb k)]
  intro s t
  split
  · intro e; cases e
  · rename_i h1
    have : rung k.format x = k.format.infRung := by omega
    rw [if_pos this]; intro e; cases e

theorem nan_write (k : FloatKind) {d : Datum} (h : ∀ s t, d ≠ .nan s t) : nan k (k.format.write d) = false := by
  have hi := infRung_lt k.format
  unfold nan isNaN
  cases d with
  | number s m p =>
    unfold Format.write
    dsimp only
    rw [nearest_rung]
    refine decide_eq_false ?_
    split
    · omega
    · have := Nat.min_le_right (rnd k.format s m p) k.format.infRung; omega
  | infinity s =>
    unfold Format.write
    dsimp only
    rw [rung_word _ s hi]
    simp
  | nan s t => exact absurd rfl (h s t)

theorem some_not_nan (op : BinOp) (k : FloatKind) {x y r : Nat} (h : floatBits op k x y = some r) : nan k r = false := by
  have hd : ∃ d : Datum, r = k.format.write d ∧ ∀ s t, d ≠ .nan s t := by
    unfold floatBits at h
    split at h
    · unfold Format.add at h
      obtain ⟨d, hd, rfl⟩ := Option.map_eq_some_iff.1 h
      refine ⟨d, rfl, ?_⟩
      intro s t e; subst e
      unfold Datum.sum at hd
      split at hd <;> simp at hd
    · unfold Format.sub at h
      obtain ⟨d, hd, rfl⟩ := Option.map_eq_some_iff.1 h
      refine ⟨d, rfl, ?_⟩
      intro s t e; subst e
      unfold Datum.sum at hd
      split at hd <;> simp at hd
    · unfold Format.mul at h
      obtain ⟨d, hd, rfl⟩ := Option.map_eq_some_iff.1 h
      refine ⟨d, rfl, ?_⟩
      intro s t e; subst e
      unfold Datum.product at hd
      split at hd <;> (try split at hd) <;> simp at hd
    · unfold Format.div at h
      obtain ⟨d, hd, rfl⟩ := Option.map_eq_some_iff.1 h
      refine ⟨d, rfl, ?_⟩
      intro s t e; subst e
      unfold Datum.quotient at hd
      split at hd <;> (try split at hd) <;> (try split at hd) <;> simp at hd
    · cases h
  obtain ⟨d, rfl, hd⟩ := hd
  exact nan_write k hd

theorem nan_fop (op : BinOp) (k : FloatKind) (x y : Nat) : cn k (fop op k x y) = fop op k x y := by
  unfold fop
  split
  · rename_i r h; exact cn_of k (some_not_nan op k h)
  · exact cn_nan k (nan_qn k)

theorem fb_nan_left (op : BinOp) (k : FloatKind) {x : Nat} (y : Nat) (h : nan k x = true) : floatBits op k x y = none := by
  obtain ⟨s, t, e⟩ := read_nan k h
  cases op <;> simp [floatBits, Format.add, Format.sub, Format.mul, Format.div, e, Datum.sum, Datum.product, Datum.quotient]

theorem fb_nan_right (op : BinOp) (k : FloatKind) (x : Nat) {y : Nat} (h : nan k y = true) : floatBits op k x y = none := by
  obtain ⟨s, t, e⟩ := read_nan k h
  cases op <;> simp [floatBits, Format.add, Format.sub, Format.mul, Format.div, e, Datum.opposite] <;> cases k.format.read x <;> rfl

theorem fop_cn_left (op : BinOp) (k : FloatKind) (x y : Nat) : fop op k (cn k x) y = fop op k x y := by
  by_cases h : nan k x = true
  · unfold fop; rw [fb_nan_left op k y h, fb_nan_left op k y (by rw [nan_cn, h])]
  · rw [cn_of k (by simpa using h)]

theorem fop_cn_right (op : BinOp) (k : FloatKind) (x y : Nat) : fop op k x (cn k y) = fop op k x y := by
  by_cases h : nan k y = true
  · unfold fop; rw [fb_nan_right op k x h, fb_nan_right op k x (by rw [nan_cn, h])]
  · rw [cn_of k (by simpa using h)]

theorem fop_cn (op : BinOp) (k : FloatKind) (x y : Nat) : fop op k (cn k x) (cn k y) = fop op k x y := by rw [fop_cn_left, fop_cn_right]

theorem order_nan_left (k : FloatKind) {x : Nat} (y : Nat) (h : nan k x = true) : k.format.order x y = none := by
  rw [order_eq _ (eb k)]; unfold nan at h; rw [h]; simp
theorem order_nan_right (k : FloatKind) (x : Nat) {y : Nat} (h : nan k y = true) : k.format.order x y = none := by
  rw [order_eq _ (eb k)]; unfold nan at h; rw [h]; simp
theorem order_cn (k : FloatKind) (x y : Nat) : k.format.order (cn k x) (cn k y) = k.format.order x y := by
  by_cases h : nan k x = true
  · rw [order_nan_left k _ (by rw [nan_cn, h]), order_nan_left k _ h]
  · by_cases h2 : nan k y = true
    · rw [order_nan_right k _ (by rw [nan_cn, h2]), order_nan_right k _ h2]
    · rw [cn_of k (by simpa using h), cn_of k (by simpa using h2)]

theorem nan_of_cut (k : FloatKind) (t : Nat) : nan k ((t % 2) * k.format.signWeight + k.format.infRung + 1 + (t / 2) % (k.format.binade - 1)) = true := by
  unfold nan isNaN rung
  refine decide_eq_true ?_
  have hB : 1 < k.format.binade := by cases k <;> decide
  have h1 : k.format.infRung + k.format.binade = k.format.signWeight := Format.infRung_add_binade _
  have h2 : (t / 2) % (k.format.binade - 1) < k.format.binade - 1 := Nat.mod_lt _ (by omega)
  generalize (t / 2) % (k.format.binade - 1) = c at *
  rcases Nat.mod_two_eq_zero_or_one t with e | e
  · rw [e, Nat.zero_mul, Nat.mod_eq_of_lt (by omega)]; omega
  · rw [e, Nat.one_mul, Nat.add_assoc, Nat.add_assoc, Nat.add_mod_left, Nat.mod_eq_of_lt (by omega)]; omega

theorem nan_draw (k : FloatKind) (x y t : Nat) : nan k ((Question.nanBits k x y).cut t) = true := by
  cases k
  · exact nan_of_cut .f32 t
  · exact nan_of_cut .f64 t

theorem nan_draw_conv (k : FloatKind) (x t : Nat) : nan k ((Question.nanConv k x).cut t) = true := by
  cases k
  · exact nan_of_cut .f32 t
  · exact nan_of_cut .f64 t


theorem draw_lt (k : FloatKind) (t : Nat) : (t % 2) * k.format.signWeight + k.format.infRung + 1 + (t / 2) % (k.format.binade - 1) < 2 ^ k.format.width := by
  have hB : 1 < k.format.binade := by cases k <;> decide
  have h1 : k.format.infRung + k.format.binade = k.format.signWeight := Format.infRung_add_binade _
  have h2 : (t / 2) % (k.format.binade - 1) < k.format.binade - 1 := Nat.mod_lt _ (by omega)
  rw [width_eq]
  generalize (t / 2) % (k.format.binade - 1) = c at *
  rcases Nat.mod_two_eq_zero_or_one t with e | e <;> rw [e] <;> omega

theorem nanBits_lt (k : FloatKind) (x y t : Nat) : (Question.nanBits k x y).cut t < 2 ^ k.format.width := by
  cases k
  · exact draw_lt .f32 t
  · exact draw_lt .f64 t

theorem nanConv_lt (k : FloatKind) (x t : Nat) : (Question.nanConv k x).cut t < 2 ^ k.format.width := by
  cases k
  · exact draw_lt .f32 t
  · exact draw_lt .f64 t

/-- The word r is the number X, where all not-a-numbers are one. -/
structure Is (k : FloatKind) (r X : Nat) : Prop where
  eq : cn k r = X
  lt : r < 2 ^ k.format.width

theorem Is.of_lt {k : FloatKind} {r : Nat} (h : r < 2 ^ k.format.width) : Is k r (cn k r) := ⟨rfl, h⟩
theorem Is.canon {k : FloatKind} {r X : Nat} (h : Is k r X) : cn k X = X := by rw [← h.eq, cn_cn]
def isCanon (k : FloatKind) (c : Nat) : Bool := decide (c < 2 ^ k.format.width) && !nan k c
theorem Is.const {k : FloatKind} {c : Nat} (h : isCanon k c = true) : Is k c c := by
  unfold isCanon at h
  simp at h
  exact ⟨cn_of k h.2, h.1⟩
theorem Is.nan {k : FloatKind} {r X : Nat} (h : Is k r X) : nan k r = nan k X := by rw [← h.eq, nan_cn]
theorem qn_lt (k : FloatKind) : qn k < 2 ^ k.format.width := by cases k <;> decide
theorem Is.lt' {k : FloatKind} {r X : Nat} (h : Is k r X) : X < 2 ^ k.format.width := by
  rw [← h.eq]
  unfold cn
  split
  · exact qn_lt k
  · exact h.lt
/-- A number is its word. -/
theorem Is.same {k : FloatKind} {r X : Nat} (h : Is k r X) (hn : Fl.nan k X = false) : r = X := by
  have : Fl.nan k r = false := by rw [h.nan, hn]
  rw [← h.eq, cn_of k this]
theorem Is.fop {k : FloatKind} {op : BinOp} {x y X Y : Nat} (hx : Is k x X) (hy : Is k y Y) : fop op k x y = Fl.fop op k X Y := by
  rw [← hx.eq, ← hy.eq, fop_cn]
theorem Is.order {k : FloatKind} {x y X Y : Nat} (hx : Is k x X) (hy : Is k y Y) : k.format.order x y = k.format.order X Y := by
  rw [← hx.eq, ← hy.eq, order_cn]

/-- What a comparison answers. -/
def fcmp (op : BinOp) (k : FloatKind) (x y : Nat) : Bool :=
  match op with
  | .eql => k.format.order x y == some .eq
  | .neq => k.format.order x y != some .eq
  | .lss => k.format.order x y == some .lt
  | .leq => k.format.order x y == some .lt || k.format.order x y == some .eq
  | .gtr => k.format.order x y == some .gt
  | .geq => k.format.order x y == some .gt || k.format.order x y == some .eq
  | _ => false
def isCmp : BinOp → Bool | .eql | .neq | .lss | .leq | .gtr | .geq => true | _ => false

section
variable {P : Program} (w : World)

theorem run_farith (op : BinOp) (hop : isArith op = true) (t : TypeId) (k : FloatKind) (x y : Nat) :
    ∃ r n, (binOp op t (.float k x) (.float k y)).run P w = .ok (.float k r) (w.drewN n) ∧ Is k r (fop op k x y) := by
  cases h : floatBits op k x y with
  | some r =>
    have hwf := floatBits_wf h
    refine ⟨r, 0, ?_, ?_, ?_⟩
    · rw [World.drewN_zero]; exact run_float_arith w op t k x y r h
    · unfold fop; rw [h, cn_of k (some_not_nan op k h)]
    · cases k
      · have h1 : r < 4294967296 := by simpa [Lit.wf] using hwf
        exact h1
      · have h1 : r < 18446744073709551616 := by simpa [Lit.wf] using hwf
        exact h1
  | none =>
    refine ⟨(Question.nanBits k x y).cut (w.tape w.drawn (.nanBits k x y)), 1, ?_, ?_, nanBits_lt ..⟩
    · unfold floatBits at h
      cases op <;> (try (simp [isArith] at hop; done)) <;> simp only at h <;> simp [binOp, Op.floatArith, h, Question.forced, World.drew_is_drewN]
    · unfold fop; rw [h, cn_nan k (nan_draw k x y _)]

/-- An operation that is wanted. -/
theorem wpList_do {P : Program} {ops : Array Oper} {Q : Exit → Act → World → Prop} {a : Act} {w : World} {rest : List Oper} {o : Oper} (hw : Region.wanted o (yielded ops a.tmps) = true)
    (h : ∀ K : Act → World → Prop, (∀ a w, wpList P ops Q rest a w → K a w) → o.wp P a w K Q) : wpList P ops Q (o :: rest) a w :=
  wpList_step fun K hK => by rw [if_pos hw]; exact h K hK

section
variable {ops : Array Oper} {rest : List Oper} {a : Act} {Q : Exit → Act → World → Prop} {dst : Option Tmp} {xt yt ty sx dx : TypeId} {X Y : Operand} {pos : String} {after : Array Edge} {gd : Option (Nat × Bool)}
/-- The walk's law: + - * / on floats. -/
theorem wpList_farith (op : BinOp) (hw : Region.wanted ⟨dst, .binOp op xt X Y yt, ty, pos, after, gd⟩ (yielded ops a.tmps) = true) (hop : isArith op = true) (k : FloatKind) (x y : Nat) (hX : a.eval X = .float k x) (hY : a.eval Y = .float k y) {x' y' : Nat} (ix : Is k x x') (iy : Is k y y')
    (h : ∀ r n, Is k r (fop op k x' y') → wpList P ops Q rest (a.put dst (.float k r)) (w.drewN n)) :
    wpList P ops Q (⟨dst, .binOp op xt X Y yt, ty, pos, after, gd⟩ :: rest) a w := by
  refine wpList_do hw fun K hK => ?_
  obtain ⟨r, n, hrun, hr⟩ := run_farith (P := P) w op hop xt k x y
  have hg : ∀ u v : Value, eqGuard op xt X Y u v = pure () := by
    intro u v; cases op <;> first | rfl | (simp [isArith] at hop; done)
  unfold Oper.wp
  simp [execOp, hX, hY, hg, hrun, Result.andThen]
  rw [ix.fop iy] at hr
  exact hK _ _ (h r n hr)

/-- The walk's law: a comparison of floats. -/
theorem wpList_fcmp (op : BinOp) (hw : Region.wanted ⟨dst, .binOp op xt X Y yt, ty, pos, after, gd⟩ (yielded ops a.tmps) = true) (hop : isCmp op = true) (k : FloatKind) (x y : Nat) (hX : a.eval X = .float k x) (hY : a.eval Y = .float k y) {x' y' : Nat} (ix : Is k x x') (iy : Is k y y') {b : Bool} (hb : fcmp op k x' y' = b)
    (h : wpList P ops Q rest (a.put dst (.bool b)) w) :
    wpList P ops Q (⟨dst, .binOp op xt X Y yt, ty, pos, after, gd⟩ :: rest) a w := by
  refine wpList_do hw fun K hK => ?_
  subst hb
  have hrun : (binOp op xt (.float k x) (.float k y)).run P w = .ok (.bool (fcmp op k x' y')) w := by
    have e := ix.order iy
    cases op <;> first | (simp [isCmp] at hop; done) | simp [binOp, Op.floatCmp, fcmp, e]
  have hg : (eqGuard op xt X Y (.float k x) (.float k y)) = pure () := by
    cases op <;> first | rfl | (simp [isCmp] at hop; done)
  unfold Oper.wp
  simp [execOp, hX, hY, hg, hrun, Result.andThen]
  exact hK _ _ h
end
end

def fneg (k : FloatKind) (x : Nat) : Nat := if nan k x = true then qn k else Op.negFloat k x

/-- A 32-bit number as a 64-bit one. -/
def wid (b : Nat) : Nat := if nan .f32 b = true then qn .f64 else FloatKind.f64.format.write (FloatKind.f32.format.read b)
/-- A 64-bit number narrowed. -/
def nar (b : Nat) : Nat := if nan .f64 b = true then qn .f32 else FloatKind.f32.format.write (FloatKind.f64.format.read b)

theorem wid_fin {b : Nat} (h : rung FloatKind.f32.format b < FloatKind.f32.format.infRung) :
    neg FloatKind.f64.format (wid b) = neg FloatKind.f32.format b ∧ rung FloatKind.f64.format (wid b) < FloatKind.f64.format.infRung ∧
      V FloatKind.f64.format (rung FloatKind.f64.format (wid b)) = V FloatKind.f32.format (rung FloatKind.f32.format b) * p2 925 := by
  have hn : nan .f32 b = false := by unfold nan isNaN; exact decide_eq_false (by omega)
  unfold wid
  rw [hn]
  exact widen FloatKind.f32.format FloatKind.f64.format (eb _) (by decide) 925 (by decide +kernel) (by decide +kernel) h

theorem wid_inf {b : Nat} (h : rung FloatKind.f32.format b = FloatKind.f32.format.infRung) :
    neg FloatKind.f64.format (wid b) = neg FloatKind.f32.format b ∧ rung FloatKind.f64.format (wid b) = FloatKind.f64.format.infRung := by
  have hn : nan .f32 b = false := by unfold nan isNaN; exact decide_eq_false (by omega)
  unfold wid
  rw [hn, if_neg (by simp), read_eq _ (eb _), if_neg (by omega), if_pos h]
  have hi := infRung_lt FloatKind.f64.format
  exact ⟨neg_word _ _ hi, rung_word _ _ hi⟩

theorem nan_wid (b : Nat) : nan .f64 (wid b) = nan .f32 b := by
  by_cases h : nan .f32 b = true
  · unfold wid; rw [if_pos h, nan_qn, h]
  · have h' : nan .f32 b = false := by simpa using h
    rw [h']
    by_cases h1 : rung FloatKind.f32.format b < FloatKind.f32.format.infRung
    · have := (wid_fin h1).2.1
      unfold nan isNaN; exact decide_eq_false (by omega)
    · have h2 : rung FloatKind.f32.format b = FloatKind.f32.format.infRung := by
        unfold nan isNaN at h'
        have := of_decide_eq_false h'
        omega
      have := (wid_inf h2).2
      unfold nan isNaN; exact decide_eq_false (by omega)

theorem wid_cn (b : Nat) : wid (cn .f32 b) = wid b := by
  by_cases h : nan .f32 b = true
  · unfold wid; rw [if_pos h, if_pos (by rw [nan_cn, h])]
  · rw [cn_of _ (by simpa using h)]

theorem nar_cn (b : Nat) : nar (cn .f64 b) = nar b := by
  by_cases h : nan .f64 b = true
  · unfold nar; rw [if_pos h, if_pos (by rw [nan_cn, h])]
  · rw [cn_of _ (by simpa using h)]

theorem cn_nar (b : Nat) : cn .f32 (nar b) = nar b := by
  by_cases h : nan .f64 b = true
  · unfold nar; rw [if_pos h, cn_nan _ (nan_qn _)]
  · unfold nar; rw [if_neg h]
    exact cn_of _ (nan_write _ (read_not_nan _ (by simpa using h)))

theorem cn_wid (b : Nat) : cn .f64 (wid b) = wid b := by
  by_cases h : nan .f32 b = true
  · unfold wid; rw [if_pos h, cn_nan _ (nan_qn _)]
  · exact cn_of _ (by rw [nan_wid]; simpa using h)

/-- Narrowing reaches a 32-bit number (no infinity is made). -/
def fits (b : Nat) : Prop := nan .f64 b = true ∨ rung FloatKind.f64.format b = FloatKind.f64.format.infRung ∨ rung FloatKind.f32.format (nar b) < FloatKind.f32.format.infRung

theorem fits_cn (b : Nat) : fits (cn .f64 b) ↔ fits b := by
  unfold fits
  by_cases h : nan .f64 b = true
  · simp [nan_cn, h]
  · rw [cn_of _ (by simpa using h)]

theorem isInf_read (k : FloatKind) {x : Nat} (h : rung k.format x < k.format.infRung) : (k.format.read x).isInfinity = false := by
  rw [read_eq _ (eb k), if_pos h]; rfl


theorem wid_lt (b : Nat) : wid b < 2 ^ FloatKind.f64.format.width := by
  unfold wid; split
  · decide
  · exact Format.write_lt _ _
theorem nar_lt (b : Nat) : nar b < 2 ^ FloatKind.f32.format.width := by
  unfold nar; split
  · decide
  · exact Format.write_lt _ _

section
variable {P : Program} (w : World)
theorem run_wid (src dst : TypeId) (b : Nat) (hs : (P.underlying src).isSome = true) (hd : P.underlying dst = some (.float .f64)) :
    ∃ r n, (convert src dst (.float .f32 b)).run P w = .ok (.float .f64 r) (w.drewN n) ∧ Is .f64 r (wid b) := by
  obtain ⟨u, hs'⟩ := Option.isSome_iff_exists.1 hs
  have ne : ¬ (FloatKind.f32 = FloatKind.f64) := by decide
  by_cases h : nan .f32 b = true
  · obtain ⟨s, t, e⟩ := read_nan .f32 h
    have e' : FloatKind.f32.decode b = .nan s t := e
    refine ⟨(Question.nanConv .f64 b).cut (w.tape w.drawn (.nanConv .f64 b)), 1, ?_, ?_, nanConv_lt ..⟩
    · cases u <;> simp [convert, run_underlying hs', run_underlying hd, Conv.floatToFloat, e', Question.forced, World.drew_is_drewN]
    · unfold wid; rw [if_pos h, cn_nan _ (nan_draw_conv _ _ _)]
  · have h' : nan .f32 b = false := by simpa using h
    refine ⟨wid b, 0, ?_, by rw [cn_wid], wid_lt b⟩
    rw [World.drewN_zero]
    have hw : wid b = FloatKind.f64.encode (FloatKind.f32.decode b) := by unfold wid; rw [if_neg h]; rfl
    by_cases h1 : rung FloatKind.f32.format b < FloatKind.f32.format.infRung
    · have h3 := isInf_read .f64 (wid_fin h1).2.1
      rw [hw] at h3
      have e := read_eq FloatKind.f32.format (eb _) b
      rw [if_pos h1] at e
      have e' : FloatKind.f32.decode b = _ := e
      rw [hw]
      have h4 : (FloatKind.f64.decode (FloatKind.f64.encode (FloatKind.f32.decode b))).isInfinity = false := h3
      rw [e'] at h4 ⊢
      cases u <;> simp [convert, run_underlying hs', run_underlying hd, Conv.floatToFloat, e', h4]
    · have h2 : rung FloatKind.f32.format b = FloatKind.f32.format.infRung := by
        unfold nan isNaN at h'
        have := of_decide_eq_false h'
        omega
      have e := read_eq FloatKind.f32.format (eb _) b
      rw [if_neg h1, if_pos h2] at e
      have e' : FloatKind.f32.decode b = _ := e
      rw [hw, e']
      cases u <;> simp [convert, run_underlying hs', run_underlying hd, Conv.floatToFloat, e']

theorem run_nar (src dst : TypeId) (b : Nat) (hs : (P.underlying src).isSome = true) (hd : P.underlying dst = some (.float .f32)) (hf : fits b) :
    ∃ r n, (convert src dst (.float .f64 b)).run P w = .ok (.float .f32 r) (w.drewN n) ∧ Is .f32 r (nar b) := by
  obtain ⟨u, hs'⟩ := Option.isSome_iff_exists.1 hs
  have ne : ¬ (FloatKind.f64 = FloatKind.f32) := by decide
  by_cases h : nan .f64 b = true
  · obtain ⟨s, t, e⟩ := read_nan .f64 h
    have e' : FloatKind.f64.decode b = .nan s t := e
    refine ⟨(Question.nanConv .f32 b).cut (w.tape w.drawn (.nanConv .f32 b)), 1, ?_, ?_, nanConv_lt ..⟩
    · cases u <;> simp [convert, run_underlying hs', run_underlying hd, Conv.floatToFloat, e', Question.forced, World.drew_is_drewN]
    · unfold nar; rw [if_pos h, cn_nan _ (nan_draw_conv _ _ _)]
  · have h' : nan .f64 b = false := by simpa using h
    refine ⟨nar b, 0, ?_, by rw [cn_nar], nar_lt b⟩
    rw [World.drewN_zero]
    have hw : nar b = FloatKind.f32.encode (FloatKind.f64.decode b) := by unfold nar; rw [if_neg h]; rfl
    by_cases h1 : rung FloatKind.f64.format b < FloatKind.f64.format.infRung
    · have hfin : rung FloatKind.f32.format (nar b) < FloatKind.f32.format.infRung := by
        rcases hf with hf | hf | hf
        · exact absurd hf h
        · omega
        · exact hf
      have h3 := isInf_read .f32 hfin
      rw [hw] at h3
      have e := read_eq FloatKind.f64.format (eb _) b
      rw [if_pos h1] at e
      have e' : FloatKind.f64.decode b = _ := e
      rw [hw]
      have h4 : (FloatKind.f32.decode (FloatKind.f32.encode (FloatKind.f64.decode b))).isInfinity = false := h3
      rw [e'] at h4 ⊢
      cases u <;> simp [convert, run_underlying hs', run_underlying hd, Conv.floatToFloat, e', h4]
    · have h2 : rung FloatKind.f64.format b = FloatKind.f64.format.infRung := by
        unfold nan isNaN at h'
        have := of_decide_eq_false h'
        omega
      have e := read_eq FloatKind.f64.format (eb _) b
      rw [if_neg h1, if_pos h2] at e
      have e' : FloatKind.f64.decode b = _ := e
      rw [hw, e']
      cases u <;> simp [convert, run_underlying hs', run_underlying hd, Conv.floatToFloat, e']

section
variable {ops : Array Oper} {rest : List Oper} {a : Act} {Q : Exit → Act → World → Prop} {dst : Option Tmp} {sx dx ty : TypeId} {X : Operand} {pos : String} {after : Array Edge} {gd : Option (Nat × Bool)}
theorem wpList_wid (b : Nat) (hw : Region.wanted ⟨dst, .convert sx dx X, ty, pos, after, gd⟩ (yielded ops a.tmps) = true) (hX : a.eval X = .float .f32 b) {b' : Nat} (ib : Is .f32 b b') (hs : P.underlying sx = some (.float .f32)) (hd : P.underlying dx = some (.float .f64))
    (h : ∀ r n, Is .f64 r (wid b') → wpList P ops Q rest (a.put dst (.float .f64 r)) (w.drewN n)) :
    wpList P ops Q (⟨dst, .convert sx dx X, ty, pos, after, gd⟩ :: rest) a w := by
  refine wpList_do hw fun K hK => ?_
  obtain ⟨r, n, hrun, hr⟩ := run_wid (P := P) w sx dx b (by rw [hs]; rfl) hd
  rw [← wid_cn, ib.eq] at hr
  unfold Oper.wp
  simp [execOp, hX, hrun, Result.andThen]
  exact hK _ _ (h r n hr)

theorem wpList_nar (b : Nat) (hw : Region.wanted ⟨dst, .convert sx dx X, ty, pos, after, gd⟩ (yielded ops a.tmps) = true) (hX : a.eval X = .float .f64 b) {b' : Nat} (ib : Is .f64 b b') (hs : P.underlying sx = some (.float .f64)) (hd : P.underlying dx = some (.float .f32)) (hf : fits b')
    (h : ∀ r n, Is .f32 r (nar b') → wpList P ops Q rest (a.put dst (.float .f32 r)) (w.drewN n)) :
    wpList P ops Q (⟨dst, .convert sx dx X, ty, pos, after, gd⟩ :: rest) a w := by
  refine wpList_do hw fun K hK => ?_
  obtain ⟨r, n, hrun, hr⟩ := run_nar (P := P) w sx dx b (by rw [hs]; rfl) hd ((fits_cn b).1 (by rw [ib.eq]; exact hf))
  rw [← nar_cn, ib.eq] at hr
  unfold Oper.wp
  simp [execOp, hX, hrun, Result.andThen]
  exact hK _ _ (h r n hr)

/-- A 64-bit number as an integer, where the language fixes it. -/
theorem wpList_toInt (b : Nat) (hw : Region.wanted ⟨dst, .convert sx dx X, ty, pos, after, gd⟩ (yielded ops a.tmps) = true) (hX : a.eval X = .float .f64 b) {b' : Nat} (ib : Is .f64 b b') (hs : P.underlying sx = some (.float .f64)) (hd : P.underlying dx = some (.int .i64)) {n : Int} (hn : floatToIntVal .f64 b' .i64 = some n)
    (h : wpList P ops Q rest (a.put dst (.int .i64 n)) w) :
    wpList P ops Q (⟨dst, .convert sx dx X, ty, pos, after, gd⟩ :: rest) a w := by
  refine wpList_do hw fun K hK => ?_
  have e : b = b' := ib.same (by
    by_cases hx : nan .f64 b' = true
    · obtain ⟨s, t, he⟩ := read_nan .f64 hx
      have he' : FloatKind.f64.decode b' = .nan s t := he
      simp [floatToIntVal, he', Datum.toInt, Datum.integral] at hn
    · simpa using hx)
  have hrun := run_convert_float_int (P := P) w sx dx .f64 .i64 b n (by rw [hs]; rfl) hd (by rw [e]; exact hn)
  unfold Oper.wp
  simp [execOp, hX, hrun, Result.andThen]
  exact hK _ _ h

/-- The opposite of a float. -/
theorem wpList_fneg {xt : TypeId} (k : FloatKind) (b : Nat) (hw : Region.wanted ⟨dst, .unOp .neg xt X, ty, pos, after, gd⟩ (yielded ops a.tmps) = true) (hX : a.eval X = .float k b)
    (h : wpList P ops Q rest (a.put dst (.float k (Op.negFloat k b))) w) :
    wpList P ops Q (⟨dst, .unOp .neg xt X, ty, pos, after, gd⟩ :: rest) a w := by
  refine wpList_do hw fun K hK => ?_
  have hrun : (Op.unary .neg (.float k b)).run P w = .ok (.float k (Op.negFloat k b)) w := rfl
  unfold Oper.wp
  simp [execOp, hX, hrun, Result.andThen]
  exact hK _ _ h

/-- A conversion to the kind that it has. -/
theorem wpList_same (k : FloatKind) (b : Nat) (hw : Region.wanted ⟨dst, .convert sx dx X, ty, pos, after, gd⟩ (yielded ops a.tmps) = true) (hX : a.eval X = .float k b) (hs : P.underlying sx = some (.float k)) (hd : P.underlying dx = some (.float k))
    (h : wpList P ops Q rest (a.put dst (.float k b)) w) :
    wpList P ops Q (⟨dst, .convert sx dx X, ty, pos, after, gd⟩ :: rest) a w := by
  refine wpList_do hw fun K hK => ?_
  have hrun := run_convert_float_float (P := P) w sx dx k k b b (by rw [hs]; rfl) hd (by simp [floatToFloatBits])
  unfold Oper.wp
  simp [execOp, hX, hrun, Result.andThen]
  exact hK _ _ h
end
end

theorem order_sv' (k : FloatKind) {x y : Nat} (hx : nan k x = false) (hy : nan k y = false) : k.format.order x y = some (compare (sv k.format x) (sv k.format y)) := by
  rw [order_eq _ (eb k), order_sv]
  unfold nan at hx hy
  rw [hx, hy]; simp

@[simp] theorem run_unary_neg_float (P : Program) (w : World) (k : FloatKind) (b : Nat) : (Op.unary .neg (.float k b)).run P w = .ok (.float k (Op.negFloat k b)) w := rfl

end Go.Fl
