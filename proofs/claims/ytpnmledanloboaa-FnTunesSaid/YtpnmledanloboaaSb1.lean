/-
  What is less than halfway to the next number is rounded to no more than this one.
  The sine's series: its square, and that of the cosine's, are 1 together, nearly.
  The rounding of 64-bit operations whose results are less than 4: off by at most 1024's unit (2 to the power of -50).
  The sine's bound: numbers as fractions (units of 2 to the power of -1074), the operations within 2 to the power of -50, the series.
  The sine's bound: the magnitude of the sine of turns is at most 1 and a little, and narrowed at most 1.
  The sine of a 32-bit number of turns, narrowed: its magnitude is at most 1.
-/
import Derived.Test.YtpnmledanloboaaBd
import Derived.Test.YtpnmledanloboaaCirc
set_option linter.unusedSimpArgs false
set_option linter.unusedVariables false
namespace Go.Fl
open Ieee

theorem cut_mid (s : Bool) {n d m : Nat} (h : 2 * n < (2 * m + 1) * 2 ^ d) : Toward.even.cut s n d ≤ m := by
  unfold Toward.cut
  dsimp only
  have hlog : n < 2 ^ (n.log2 + 1) := Nat.lt_log2_self
  rw [Nat.one_shiftLeft]
  by_cases hd : d ≤ n.log2 + 2
  · rw [Nat.min_eq_left hd]
    have hp : 0 < 2 ^ d := Nat.two_pow_pos _
    have hdm := Nat.div_add_mod n (2 ^ d)
    generalize 2 ^ d = D at *
    generalize n / D = low at *
    generalize n % D = rest at *
    have e : (2 * m + 1) * D = 2 * (D * m) + D := by rw [Nat.add_mul, Nat.one_mul, Nat.mul_assoc, Nat.mul_comm m D]
    have hlow : low ≤ m := by
      refine Nat.le_of_not_lt fun hlt => ?_
      have : D * (m + 1) ≤ D * low := Nat.mul_le_mul_left D hlt
      rw [Nat.mul_add, Nat.mul_one] at this
      omega
    by_cases hlt : low < m
    · have : (decide (D < 2 * rest) || D == 2 * rest && low % 2 == 1).toNat ≤ 1 := Bool.toNat_le _
      omega
    · have e : low = m := by omega
      subst e
      have e1 : decide (D < 2 * rest) = false := by simp; omega
      have e2 : ((D == 2 * rest) : Bool) = false := by simp; omega
      rw [e1, e2]
      simp
  · have hmin : min d (n.log2 + 2) = n.log2 + 2 := Nat.min_eq_right (by omega)
    rw [hmin]
    have e : 2 ^ (n.log2 + 2) = 2 * 2 ^ (n.log2 + 1) := by rw [Nat.pow_succ 2 (n.log2 + 1), Nat.mul_comm]
    have hlow : n / 2 ^ (n.log2 + 2) = 0 := Nat.div_eq_of_lt (by omega)
    have hrest : n % 2 ^ (n.log2 + 2) = n := Nat.mod_eq_of_lt (by omega)
    rw [hlow, hrest]
    have e1 : decide (2 ^ (n.log2 + 2) < 2 * n) = false := by simp; omega
    have e2 : ((2 ^ (n.log2 + 2) == 2 * n) : Bool) = false := by simp; omega
    rw [e1, e2]
    simp

theorem cancel_lt {m n a b a' b' t : Nat} (h : m * 2 ^ a < n * 2 ^ b) (ha : a = a' + t) (hb : b = b' + t) : m * 2 ^ a' < n * 2 ^ b' := by
  subst ha hb
  rw [Nat.pow_add, Nat.pow_add, ← Nat.mul_assoc, ← Nat.mul_assoc] at h
  exact Nat.lt_of_mul_lt_mul_right h

theorem V_to (f : Format) (d k : Nat) (hk : f.binade ≤ k) (hk2 : k ≤ 2 * f.binade) : V f (d * f.binade + k) = k * 2 ^ d := by
  by_cases h : k < 2 * f.binade
  · exact V_at f d k hk h
  · have e : k = 2 * f.binade := by omega
    subst e
    have hB := binade_pos f
    rw [show d * f.binade + 2 * f.binade = (d + 1) * f.binade + f.binade by rw [Nat.add_mul]; omega, V_at f (d + 1) f.binade (Nat.le_refl _) (by omega), Nat.pow_succ, Nat.mul_comm 2, Nat.mul_assoc, Nat.mul_comm 2]

theorem rnd_mid (f : Format) (s : Bool) {mag r : Nat} {place : Int} (h0 : mag ≠ 0)
    (h : 2 * mag * 2 ^ (place - f.leastPlace).toNat < (V f r + V f (r + 1)) * 2 ^ (f.leastPlace - place).toNat) : rnd f s mag place ≤ r := by
  have hB := binade_pos f
  have hlo : 2 ^ mag.log2 ≤ mag := Nat.log2_self_le h0
  have hhi : mag < 2 ^ (mag.log2 + 1) := Nat.lt_log2_self
  unfold rnd
  generalize hL : mag.log2 = L at *
  rw [Nat.shiftLeft_eq]
  by_cases hd : place + L - f.fractionBits ≤ f.leastPlace
  · rw [Int.max_eq_right hd]
    have e0 : (f.leastPlace - f.leastPlace).toNat = 0 := by omega
    rw [e0, Nat.zero_mul, Nat.zero_add]
    have k1 : Toward.even.cut s (mag * 2 ^ (place - f.leastPlace).toNat) (f.leastPlace - place).toNat ≤ 2 * f.binade := by
      refine cut_le s ?_
      refine Nat.le_trans (Nat.mul_le_mul_right _ (Nat.le_of_lt hhi)) ?_
      rw [binade_eq, Nat.mul_comm 2, ← Nat.pow_succ, ← Nat.pow_add, ← Nat.pow_add]
      exact Nat.pow_le_pow_right (by decide) (by omega)
    by_cases hr : r + 1 ≤ 2 * f.binade
    · rw [V_small f (show r ≤ 2 * f.binade by omega), V_small f hr] at h
      refine cut_mid s ?_
      rw [← Nat.mul_assoc, show 2 * r + 1 = r + (r + 1) by omega]
      exact h
    · omega
  · rw [Int.max_eq_left (by omega)]
    obtain ⟨d, hdd⟩ : ∃ d : Nat, place + L - f.fractionBits = f.leastPlace + d := ⟨(place + L - f.fractionBits - f.leastPlace).toNat, by omega⟩
    rw [hdd]
    have e0 : (f.leastPlace + (d : Int) - f.leastPlace).toNat = d := by omega
    rw [e0]
    have e4 : (d + 1) * f.binade = d * f.binade + f.binade := by rw [Nat.add_mul]; omega
    -- the number is at least the first of its binade
    have hVr : V f ((d + 1) * f.binade) < V f (r + 1) := by
      rw [e4, V_at f d f.binade (Nat.le_refl _) (by omega), binade_eq]
      have h1 : 2 * 2 ^ L * 2 ^ (place - f.leastPlace).toNat < (V f r + V f (r + 1)) * 2 ^ (f.leastPlace - place).toNat := Nat.lt_of_le_of_lt (Nat.mul_le_mul_right _ (Nat.mul_le_mul_left 2 hlo)) h
      have h2 : V f r ≤ V f (r + 1) := V_le f (Nat.le_succ r)
      have h3 : 2 * (2 ^ L * 2 ^ (place - f.leastPlace).toNat) < 2 * (V f (r + 1) * 2 ^ (f.leastPlace - place).toNat) := by
        have h4 : (V f r + V f (r + 1)) * 2 ^ (f.leastPlace - place).toNat ≤ 2 * (V f (r + 1) * 2 ^ (f.leastPlace - place).toNat) := by
          rw [← Nat.mul_assoc]; exact Nat.mul_le_mul_right _ (by omega)
        rw [← Nat.mul_assoc]; omega
      have h5 : 2 ^ L * 2 ^ (place - f.leastPlace).toNat < V f (r + 1) * 2 ^ (f.leastPlace - place).toNat := by omega
      rw [← Nat.pow_add]
      have e3 : L + (place - f.leastPlace).toNat = f.fractionBits + d + (f.leastPlace - place).toNat := by omega
      rw [← Nat.pow_add, e3, Nat.pow_add] at h5
      exact Nat.lt_of_mul_lt_mul_right h5
    have hr1 : (d + 1) * f.binade < r + 1 := (V_lt_iff f).1 hVr
    have k1 : Toward.even.cut s (mag * 2 ^ (place - (f.leastPlace + (d : Int))).toNat) (f.leastPlace + (d : Int) - place).toNat ≤ 2 * f.binade := by
      refine cut_le s ?_
      refine Nat.le_trans (Nat.mul_le_mul_right _ (Nat.le_of_lt hhi)) ?_
      rw [binade_eq, Nat.mul_comm 2, ← Nat.pow_succ, ← Nat.pow_add, ← Nat.pow_add]
      exact Nat.pow_le_pow_right (by decide) (by omega)
    by_cases hr2 : d * f.binade + 2 * f.binade ≤ r
    · omega
    · have hV : V f r = (r - d * f.binade) * 2 ^ d := by
        have := V_to f d (r - d * f.binade) (by omega) (by omega)
        rwa [show d * f.binade + (r - d * f.binade) = r from by omega] at this
      have hV2 : V f (r + 1) = (r - d * f.binade + 1) * 2 ^ d := by
        have := V_to f d (r + 1 - d * f.binade) (by omega) (by omega)
        rwa [show d * f.binade + (r + 1 - d * f.binade) = r + 1 from by omega, show r + 1 - d * f.binade = r - d * f.binade + 1 by omega] at this
      rw [hV, hV2, ← Nat.add_mul, Nat.mul_assoc (r - d * f.binade + (r - d * f.binade + 1)), ← Nat.pow_add] at h
      have k2 : Toward.even.cut s (mag * 2 ^ (place - (f.leastPlace + (d : Int))).toNat) (f.leastPlace + (d : Int) - place).toNat ≤ r - d * f.binade := by
        refine cut_mid s ?_
        rw [← Nat.mul_assoc, show 2 * (r - d * f.binade) + 1 = r - d * f.binade + (r - d * f.binade + 1) by omega]
        by_cases p1 : f.leastPlace ≤ place
        · by_cases p2 : f.leastPlace + d ≤ place
          · exact cancel_lt (t := d) h (by omega) (by omega)
          · exact cancel_lt (t := (place - f.leastPlace).toNat) h (by omega) (by omega)
        · exact cancel_lt (t := 0) h (by omega) (by omega)
      omega
end Go.Fl
namespace Go.Sb
theorem pow_bd {u c : Rat} (h : 0 ≤ u) (h2 : u ≤ c) : ∀ n : Nat, 0 ≤ u ^ n ∧ u ^ n ≤ c ^ n
  | 0 => by rw [Rat.pow_zero, Rat.pow_zero]; grind
  | n + 1 => by
    have ih := pow_bd h h2 n
    rw [Rat.pow_succ, Rat.pow_succ]
    have h1 : u ^ n * u ≤ u ^ n * c := Rat.mul_le_mul_of_nonneg_left h2 ih.1
    have h3 : u ^ n * c ≤ c ^ n * c := Rat.mul_le_mul_of_nonneg_right ih.2 (by grind)
    have h4 : 0 ≤ u ^ n * u := Rat.mul_nonneg ih.1 h
    grind
def pol (u : Rat) : Rat := 1 - u / 6 * (1 - u / 20 * (1 - u / 42 * (1 - u / 72 * (1 - u / 110 * (1 - u / 156 * (1 - u / 210 * (1 - u / 272)))))))
def cpol (u : Rat) : Rat := 1 - u / 2 * (1 - u / 12 * (1 - u / 30 * (1 - u / 56 * (1 - u / 90 * (1 - u / 132 * (1 - u / 182 * (1 - u / 240 * (1 - u / 306))))))))
theorem pol_eq (u : Rat) : u * (pol u * pol u) + cpol u * cpol u = 1 + 1/64023737057280000 * u^10 -1/422556664578048000 * u^11 + 1/9219418136248320000 * u^12 -1/419483525199298560000 * u^13 + 1/32526107184684072960000 * u^14 -1/3833434061052051456000000 * u^15+ 1/637883427759061362278400000*u^16 -1/142327739818740566458368000000 *u^17 + 1/40990389067797283140009984000000 *u^18 := by
  unfold pol cpol
  grind
theorem sq_nonneg (a : Rat) : 0 ≤ a * a := by
  rcases (Rat.le_total : 0 ≤ a ∨ a ≤ 0) with h | h
  · exact Rat.mul_nonneg h h
  · have := Rat.mul_nonneg (show 0 ≤ -a by grind) (show 0 ≤ -a by grind)
    grind
theorem pol_le {u : Rat} (h : 0 ≤ u) (h2 : u ≤ 5/2) : u * (pol u * pol u) ≤ 1 + 1/1073741824 := by
  have e := pol_eq u
  have c := sq_nonneg (cpol u)
  have b10 := (pow_bd h h2 10).2; have b12 := (pow_bd h h2 12).2; have b14 := (pow_bd h h2 14).2; have b16 := (pow_bd h h2 16).2; have b18 := (pow_bd h h2 18).2
  have a11 := (pow_bd h h2 11).1; have a13 := (pow_bd h h2 13).1; have a15 := (pow_bd h h2 15).1; have a17 := (pow_bd h h2 17).1
  rw [show (5/2 : Rat)^10 = 9765625/1024 by decide +kernel] at b10
  rw [show (5/2 : Rat)^12 = 244140625/4096 by decide +kernel] at b12
  rw [show (5/2 : Rat)^14 = 6103515625/16384 by decide +kernel] at b14
  rw [show (5/2 : Rat)^16 = 152587890625/65536 by decide +kernel] at b16
  rw [show (5/2 : Rat)^18 = 3814697265625/262144 by decide +kernel] at b18
  generalize u * (pol u * pol u) = X at *
  generalize cpol u * cpol u = Y at *
  generalize u^10 = u10 at *
  generalize u^11 = u11 at *
  generalize u^12 = u12 at *
  generalize u^13 = u13 at *
  generalize u^14 = u14 at *
  generalize u^15 = u15 at *
  generalize u^16 = u16 at *
  generalize u^17 = u17 at *
  generalize u^18 = u18 at *
  grind
end Go.Sb
namespace Go.Fl
open Ieee

theorem near_err (s : Bool) {m : Nat} {p : Int} {A B : Nat} (hA : A = m * 2 ^ (p + 1074).toNat) (hB : B = 2 ^ (-1074 - p).toNat) (h : A < p2 1076 * B) :
    rung FloatKind.f64.format (FloatKind.f64.format.nearest s m p) < FloatKind.f64.format.infRung ∧
    V FloatKind.f64.format (rung FloatKind.f64.format (FloatKind.f64.format.nearest s m p)) * B ≤ A + p2 1024 * B ∧
    A ≤ V FloatKind.f64.format (rung FloatKind.f64.format (FloatKind.f64.format.nearest s m p)) * B + p2 1024 * B := by
  have hBp : 0 < B := by rw [hB]; exact Nat.two_pow_pos _
  have hGp : 0 < p2 1024 := p2_pos _
  rw [nearest_rung]
  by_cases h0 : m = 0
  · rw [if_pos h0, V_zero]
    subst h0
    exact ⟨by decide, by rw [Nat.zero_mul]; exact Nat.zero_le _, by rw [hA, Nat.zero_mul]; exact Nat.zero_le _⟩
  rw [if_neg h0]
  have e76 : p2 1076 = p2 52 * p2 1024 := by rw [← p2_add]
  have hGB : 0 < p2 1024 * B := Nat.mul_pos hGp hBp
  obtain ⟨q, hq⟩ : ∃ q, q = A / (p2 1024 * B) := ⟨_, rfl⟩
  have hq1 : q * (p2 1024 * B) ≤ A := by rw [hq]; exact Nat.div_mul_le_self _ _
  have hq2 : A < (q + 1) * (p2 1024 * B) := by rw [hq]; exact Nat.lt_mul_of_div_lt (Nat.lt_succ_self _) hGB
  have hqs : q < p2 52 := by
    rw [e76, Nat.mul_assoc] at h
    exact Nat.lt_of_mul_lt_mul_right (Nat.lt_of_le_of_lt hq1 h)
  have hlog : ∀ n, n ≤ p2 52 → n.log2 ≤ FloatKind.f64.format.fractionBits := by
    intro n hn
    rcases Nat.eq_zero_or_pos n with hz | hz
    · rw [hz]; decide
    · have := (Nat.log2_lt (k := 53) (by omega : n ≠ 0)).2 (Nat.lt_of_le_of_lt hn (p2_lt (by decide)))
      show _ ≤ 52
      omega
  obtain ⟨r1, e1⟩ := mul_rung FloatKind.f64.format q 1024 (hlog q (by omega))
  obtain ⟨r2, e2⟩ := mul_rung FloatKind.f64.format (q + 1) 1024 (hlog (q + 1) (by omega))
  have k1 : r1 ≤ rnd FloatKind.f64.format s m p := le_rnd _ s h0 (by
    rw [lp64, show p - (-1074) = p + 1074 by omega, ← hA, ← hB, e1, Nat.mul_assoc]
    exact hq1)
  have k2 : rnd FloatKind.f64.format s m p ≤ r2 := rnd_le _ s h0 (by
    rw [lp64, show p - (-1074) = p + 1074 by omega, ← hA, ← hB, e2, Nat.mul_assoc]
    exact Nat.le_of_lt hq2)
  have hr2 : r2 < FloatKind.f64.format.infRung := by
    rw [← V_lt_iff FloatKind.f64.format, ← top64, e2]
    refine Nat.lt_of_le_of_lt (Nat.mul_le_mul_right _ (show q + 1 ≤ p2 52 by omega)) ?_
    rw [← p2_add]; exact p2_lt (by decide)
  rw [Nat.min_eq_left (by omega)]
  have v1 := V_le FloatKind.f64.format k1
  have v2 := V_le FloatKind.f64.format k2
  rw [e1] at v1; rw [e2] at v2
  generalize V FloatKind.f64.format (rnd FloatKind.f64.format s m p) = W at *
  refine ⟨by omega, ?_, ?_⟩
  · have := Nat.mul_le_mul_right B v2
    rw [Nat.mul_assoc, Nat.add_mul, Nat.one_mul] at this
    omega
  · have := Nat.mul_le_mul_right B v1
    rw [Nat.mul_assoc] at this
    rw [Nat.add_mul, Nat.one_mul] at hq2
    omega

theorem sv_abs (f : Format) (x : Nat) : (sv f x).natAbs = V f (rung f x) := by
  unfold sv; split <;> simp

theorem read_any {x : Nat} (h : rung FloatKind.f64.format x < FloatKind.f64.format.infRung) : ∃ (m u : Nat), FloatKind.f64.format.read x = .number (neg FloatKind.f64.format x) m (-1074 + (u : Int)) ∧ m * 2 ^ u = V FloatKind.f64.format (rung FloatKind.f64.format x) := by
  have e := read_eq FloatKind.f64.format (eb _) x
  rw [if_pos h, lp64] at e
  exact ⟨_, _, e, rfl⟩

theorem scale_up {A B P T G W : Nat} (hB : 0 < B) (key : A * T = P * B) (n : W * B ≤ A + G * B) : W * T ≤ P + G * T := by
  refine Nat.le_of_mul_le_mul_right (c := B) ?_ hB
  have := Nat.mul_le_mul_right T n
  rw [Nat.add_mul, key] at this
  rw [Nat.add_mul, Nat.mul_right_comm W, Nat.mul_right_comm G]
  exact this
theorem scale_dn {A B P T G W : Nat} (hB : 0 < B) (key : A * T = P * B) (n : A ≤ W * B + G * B) : P ≤ W * T + G * T := by
  refine Nat.le_of_mul_le_mul_right (c := B) ?_ hB
  have := Nat.mul_le_mul_right T n
  rw [Nat.add_mul, key] at this
  rw [Nat.add_mul, Nat.mul_right_comm W, Nat.mul_right_comm G]
  exact this
theorem scale_lt {A B P T H : Nat} (hB : 0 < B) (key : A * T = P * B) (h : P < H * T) : A < H * B := by
  have h2 : P * B < H * T * B := Nat.mul_lt_mul_of_pos_right h hB
  rw [← key, Nat.mul_right_comm] at h2
  exact Nat.lt_of_mul_lt_mul_right h2
theorem sv_prod {a b : Bool} {W X Y T R : Nat} (m1 : W * T ≤ X * Y + R) (m2 : X * Y ≤ W * T + R) :
    ((if (a ^^ b) = true then -(W : Int) else (W : Int)) * (T : Nat) - (if a = true then -(X : Int) else (X : Int)) * (if b = true then -(Y : Int) else (Y : Int))).natAbs ≤ R := by
  have c1 : ((W * T : Nat) : Int) = (W : Int) * (T : Int) := Int.natCast_mul ..
  have c2 : ((X * Y : Nat) : Int) = (X : Int) * (Y : Int) := Int.natCast_mul ..
  generalize W * T = P at *
  generalize X * Y = Q at *
  cases a <;> cases b <;> simp only [Bool.xor_false, Bool.xor_true, Bool.not_true, Bool.not_false, if_true, if_false, Bool.false_eq_true, Int.neg_mul, Int.mul_neg, Int.neg_neg, ← c1, ← c2] <;> omega

theorem mul_err {x y : Nat} (hx : rung FloatKind.f64.format x < FloatKind.f64.format.infRung) (hy : rung FloatKind.f64.format y < FloatKind.f64.format.infRung)
    (h : (sv FloatKind.f64.format x * sv FloatKind.f64.format y).natAbs < p2 1076 * p2 1074) :
    rung FloatKind.f64.format (fop .mul .f64 x y) < FloatKind.f64.format.infRung ∧
    (sv FloatKind.f64.format (fop .mul .f64 x y) * (p2 1074 : Nat) - sv FloatKind.f64.format x * sv FloatKind.f64.format y).natAbs ≤ p2 1024 * p2 1074 ∧
    neg FloatKind.f64.format (fop .mul .f64 x y) = (neg FloatKind.f64.format x ^^ neg FloatKind.f64.format y) := by
  obtain ⟨m, u, e1, h1⟩ := read_any hx
  obtain ⟨n, v, e2, h2⟩ := read_any hy
  have hsx := sv_abs FloatKind.f64.format x
  have hsy := sv_abs FloatKind.f64.format y
  rw [Int.natAbs_mul, hsx, hsy, ← h1, ← h2] at h
  have er : fop .mul .f64 x y = FloatKind.f64.format.nearest (neg FloatKind.f64.format x ^^ neg FloatKind.f64.format y) (m * n) (-1074 + (u : Int) + (-1074 + (v : Int))) := by
    unfold fop floatBits Format.mul
    rw [e1, e2]
    rfl
  have hpow : m * 2 ^ u * (n * 2 ^ v) = m * n * 2 ^ (u + v) := by rw [Nat.pow_add]; simp [Nat.mul_left_comm, Nat.mul_assoc]
  obtain ⟨A, hA⟩ : ∃ A, A = m * n * 2 ^ (-1074 + (u : Int) + (-1074 + (v : Int)) + 1074).toNat := ⟨_, rfl⟩
  obtain ⟨B, hB⟩ : ∃ B, B = 2 ^ (-1074 - (-1074 + (u : Int) + (-1074 + (v : Int)))).toNat := ⟨_, rfl⟩
  have key : A * p2 1074 = m * 2 ^ u * (n * 2 ^ v) * B := by
    rw [hpow, hA, hB, Nat.mul_assoc (m * n), Nat.mul_assoc (m * n), ← p2_eq, ← p2_eq, ← p2_eq, ← p2_add, ← p2_add]
    exact congrArg (m * n * p2 ·) (by omega)
  have hBp : 0 < B := by rw [hB]; exact Nat.two_pow_pos _
  have hn := near_err (neg FloatKind.f64.format x ^^ neg FloatKind.f64.format y) hA hB (scale_lt hBp key h)
  have hneg := nearest_neg FloatKind.f64.format (neg FloatKind.f64.format x ^^ neg FloatKind.f64.format y) (m * n) (-1074 + (u : Int) + (-1074 + (v : Int)))
  rw [← er] at hn hneg
  refine ⟨hn.1, ?_, hneg⟩
  obtain ⟨_, n1, n2⟩ := hn
  unfold sv
  rw [hneg, ← h1, ← h2]
  exact sv_prod (scale_up hBp key n1) (scale_dn hBp key n2)

theorem sub_err {x y : Nat} (hx : rung FloatKind.f64.format x < FloatKind.f64.format.infRung) (hy : rung FloatKind.f64.format y < FloatKind.f64.format.infRung)
    (h : (sv FloatKind.f64.format x - sv FloatKind.f64.format y).natAbs < p2 1076) :
    rung FloatKind.f64.format (fop .sub .f64 x y) < FloatKind.f64.format.infRung ∧
    (sv FloatKind.f64.format (fop .sub .f64 x y) - (sv FloatKind.f64.format x - sv FloatKind.f64.format y)).natAbs ≤ p2 1024 := by
  obtain ⟨m, u, e1, h1⟩ := read_any hx
  obtain ⟨n, v, e2, h2⟩ := read_any hy
  have k1 : sv FloatKind.f64.format x = signed (neg FloatKind.f64.format x) m u := by unfold sv signed; rw [Nat.shiftLeft_eq, h1]
  have k2 : -sv FloatKind.f64.format y = signed (!neg FloatKind.f64.format y) n v := by
    unfold sv signed; rw [Nat.shiftLeft_eq, h2]
    cases neg FloatKind.f64.format y <;> simp
  rw [show sv FloatKind.f64.format x - sv FloatKind.f64.format y = sv FloatKind.f64.format x + -sv FloatKind.f64.format y from Int.sub_eq_add_neg .., k1, k2] at h ⊢
  have e3 : (min (-1074 + (u : Int)) (-1074 + (v : Int)) + 1074).toNat = min u v := by omega
  have e4 : (-1074 - min (-1074 + (u : Int)) (-1074 + (v : Int))).toNat = 0 := by omega
  have f1 : ((-1074 : Int) + (u : Int) - min (-1074 + (u : Int)) (-1074 + (v : Int))).toNat = u - min u v := by omega
  have f2 : ((-1074 : Int) + (v : Int) - min (-1074 + (u : Int)) (-1074 + (v : Int))).toNat = v - min u v := by omega
  generalize hq : signed (neg FloatKind.f64.format x) m (u - min u v) + signed (!neg FloatKind.f64.format y) n (v - min u v) = q
  have hqE : signed (neg FloatKind.f64.format x) m u + signed (!neg FloatKind.f64.format y) n v = q * 2 ^ (min u v) := by
    rw [← hq, Int.add_mul, ← signed_up, ← signed_up, show u - min u v + min u v = u by omega, show v - min u v + min u v = v by omega]
  rw [hqE] at h ⊢
  have er : fop .sub .f64 x y = FloatKind.f64.format.nearest (if q = 0 then neg FloatKind.f64.format x && !neg FloatKind.f64.format y else decide (q < 0)) q.natAbs (min (-1074 + (u : Int)) (-1074 + (v : Int))) := by
    unfold fop floatBits Format.sub
    rw [e1, e2]
    unfold Datum.opposite Datum.sum
    dsimp only
    rw [f1, f2, hq]
    rfl
  have g : q.natAbs * 2 ^ (min u v) = (q * 2 ^ (min u v)).natAbs := by rw [Int.natAbs_mul, Int.natAbs_pow]; rfl
  have hn := near_err (if q = 0 then neg FloatKind.f64.format x && !neg FloatKind.f64.format y else decide (q < 0)) (m := q.natAbs) (p := min (-1074 + (u : Int)) (-1074 + (v : Int))) (A := (q * 2 ^ (min u v)).natAbs) (B := 1) (by rw [e3, g]) (by rw [e4, Nat.pow_zero]) (by rw [Nat.mul_one]; exact h)
  have hneg := nearest_neg FloatKind.f64.format (if q = 0 then neg FloatKind.f64.format x && !neg FloatKind.f64.format y else decide (q < 0)) q.natAbs (min (-1074 + (u : Int)) (-1074 + (v : Int)))
  have hz : q = 0 → V FloatKind.f64.format (rung FloatKind.f64.format (fop .sub .f64 x y)) = 0 := by
    intro h0
    rw [er, nearest_rung, h0, if_pos (by rfl), V_zero]
  rw [← er] at hn hneg
  refine ⟨hn.1, ?_⟩
  obtain ⟨_, n1, n2⟩ := hn
  rw [Nat.mul_one, Nat.mul_one] at n1 n2
  unfold sv
  rw [hneg]
  generalize V FloatKind.f64.format (rung FloatKind.f64.format (fop .sub .f64 x y)) = W at *
  generalize p2 1024 = G at *
  have hp : (0 : Int) < 2 ^ (min u v) := Int.pow_pos (by omega)
  by_cases h0 : q = 0
  · rw [hz h0, h0]; simp
  rw [if_neg h0]
  by_cases hl : q < 0
  · rw [decide_eq_true hl]
    have : q * 2 ^ (min u v) < 0 := Int.mul_neg_of_neg_of_pos hl hp
    generalize q * 2 ^ (min u v) = Z at *
    simp only [if_true]
    omega
  · rw [decide_eq_false hl]
    have : 0 < q * 2 ^ (min u v) := Int.mul_pos (by omega) hp
    generalize q * 2 ^ (min u v) = Z at *
    simp only [Bool.false_eq_true, if_false]
    omega
theorem add_err {x y : Nat} (hx : rung FloatKind.f64.format x < FloatKind.f64.format.infRung) (hy : rung FloatKind.f64.format y < FloatKind.f64.format.infRung)
    (h : (sv FloatKind.f64.format x + sv FloatKind.f64.format y).natAbs < p2 1076) :
    rung FloatKind.f64.format (fop .add .f64 x y) < FloatKind.f64.format.infRung ∧
    (sv FloatKind.f64.format (fop .add .f64 x y) - (sv FloatKind.f64.format x + sv FloatKind.f64.format y)).natAbs ≤ p2 1024 := by
  obtain ⟨m, u, e1, h1⟩ := read_any hx
  obtain ⟨n, v, e2, h2⟩ := read_any hy
  have k1 : sv FloatKind.f64.format x = signed (neg FloatKind.f64.format x) m u := by unfold sv signed; rw [Nat.shiftLeft_eq, h1]
  have k2 : sv FloatKind.f64.format y = signed (neg FloatKind.f64.format y) n v := by unfold sv signed; rw [Nat.shiftLeft_eq, h2]
  rw [k1, k2] at h ⊢
  have e3 : (min (-1074 + (u : Int)) (-1074 + (v : Int)) + 1074).toNat = min u v := by omega
  have e4 : (-1074 - min (-1074 + (u : Int)) (-1074 + (v : Int))).toNat = 0 := by omega
  have f1 : ((-1074 : Int) + (u : Int) - min (-1074 + (u : Int)) (-1074 + (v : Int))).toNat = u - min u v := by omega
  have f2 : ((-1074 : Int) + (v : Int) - min (-1074 + (u : Int)) (-1074 + (v : Int))).toNat = v - min u v := by omega
  generalize hq : signed (neg FloatKind.f64.format x) m (u - min u v) + signed (neg FloatKind.f64.format y) n (v - min u v) = q
  have hqE : signed (neg FloatKind.f64.format x) m u + signed (neg FloatKind.f64.format y) n v = q * 2 ^ (min u v) := by
    rw [← hq, Int.add_mul, ← signed_up, ← signed_up, show u - min u v + min u v = u by omega, show v - min u v + min u v = v by omega]
  rw [hqE] at h ⊢
  have er : fop .add .f64 x y = FloatKind.f64.format.nearest (if q = 0 then neg FloatKind.f64.format x && neg FloatKind.f64.format y else decide (q < 0)) q.natAbs (min (-1074 + (u : Int)) (-1074 + (v : Int))) := by
    unfold fop floatBits Format.add
    rw [e1, e2]
    unfold Datum.sum
    dsimp only
    rw [f1, f2, hq]
    rfl
  have g : q.natAbs * 2 ^ (min u v) = (q * 2 ^ (min u v)).natAbs := by rw [Int.natAbs_mul, Int.natAbs_pow]; rfl
  have hn := near_err (if q = 0 then neg FloatKind.f64.format x && neg FloatKind.f64.format y else decide (q < 0)) (m := q.natAbs) (p := min (-1074 + (u : Int)) (-1074 + (v : Int))) (A := (q * 2 ^ (min u v)).natAbs) (B := 1) (by rw [e3, g]) (by rw [e4, Nat.pow_zero]) (by rw [Nat.mul_one]; exact h)
  have hneg := nearest_neg FloatKind.f64.format (if q = 0 then neg FloatKind.f64.format x && neg FloatKind.f64.format y else decide (q < 0)) q.natAbs (min (-1074 + (u : Int)) (-1074 + (v : Int)))
  have hz : q = 0 → V FloatKind.f64.format (rung FloatKind.f64.format (fop .add .f64 x y)) = 0 := by
    intro h0
    rw [er, nearest_rung, h0, if_pos (by rfl), V_zero]
  rw [← er] at hn hneg
  refine ⟨hn.1, ?_⟩
  obtain ⟨_, n1, n2⟩ := hn
  rw [Nat.mul_one, Nat.mul_one] at n1 n2
  unfold sv
  rw [hneg]
  generalize V FloatKind.f64.format (rung FloatKind.f64.format (fop .add .f64 x y)) = W at *
  generalize p2 1024 = G at *
  have hp : (0 : Int) < 2 ^ (min u v) := Int.pow_pos (by omega)
  by_cases h0 : q = 0
  · rw [hz h0, h0]; simp
  rw [if_neg h0]
  by_cases hl : q < 0
  · rw [decide_eq_true hl]
    have : q * 2 ^ (min u v) < 0 := Int.mul_neg_of_neg_of_pos hl hp
    generalize q * 2 ^ (min u v) = Z at *
    simp only [if_true]
    omega
  · rw [decide_eq_false hl]
    have : 0 < q * 2 ^ (min u v) := Int.mul_pos (by omega) hp
    generalize q * 2 ^ (min u v) = Z at *
    simp only [Bool.false_eq_true, if_false]
    omega
theorem floor_two {D n : Nat} (hn : 0 < n) : (2 * (D / n) + (D % n != 0).toNat) * n ≤ 2 * D + n ∧ 2 * D ≤ (2 * (D / n) + (D % n != 0).toNat) * n + n := by
  have h1 := Nat.div_add_mod D n
  have h2 := Nat.mod_lt D hn
  have h3 : 2 * (D / n) * n = 2 * (n * (D / n)) := by rw [Nat.mul_assoc, Nat.mul_comm n]
  rw [Nat.add_mul, h3]
  generalize n * (D / n) = w at *
  generalize D % n = r at *
  by_cases h0 : r = 0
  · subst h0; simp; omega
  · have : (r != 0) = true := by simpa using h0
    rw [this]; simp; omega

theorem quo_mid {A B a d n v T D X G q : Nat} (hT : 0 < T) (hA : A = q * 2 ^ a) (hd : n * 2 ^ v = d * T) (hX : X * B * T = 2 * D * (2 ^ a * 2 ^ v)) (ha : 2 ^ a ≤ G * B)
    (h1 : q * n ≤ 2 * D + n) (h2 : 2 * D ≤ q * n + n) : A * d ≤ X * B + G * B * d ∧ X * B ≤ A * d + G * B * d := by
  have e1 : A * d * T = q * n * (2 ^ a * 2 ^ v) := by
    rw [hA, Nat.mul_assoc, ← hd]; simp only [Nat.mul_assoc, Nat.mul_left_comm, Nat.mul_comm]
  have e2 : n * (2 ^ a * 2 ^ v) = 2 ^ a * d * T := by rw [Nat.mul_assoc, ← hd]; simp only [Nat.mul_assoc, Nat.mul_left_comm, Nat.mul_comm]
  have e3 : 2 ^ a * d ≤ G * B * d := Nat.mul_le_mul_right _ ha
  have k1 := Nat.mul_le_mul_right (2 ^ a * 2 ^ v) h1
  have k2 := Nat.mul_le_mul_right (2 ^ a * 2 ^ v) h2
  rw [Nat.add_mul, ← hX, ← e1, e2, ← Nat.add_mul] at k1 k2
  have m1 := Nat.le_of_mul_le_mul_right k1 hT
  have m2 := Nat.le_of_mul_le_mul_right k2 hT
  omega

theorem p2_inj_lt {a b : Nat} (h : p2 a < p2 b) : a < b := by
  refine Nat.lt_of_not_le fun hle => ?_
  have := p2_le hle
  omega
theorem p2_one : p2 1 = 2 := by decide

theorem quo_err {x d : Nat} (hx : rung FloatKind.f64.format x < FloatKind.f64.format.infRung) (h1' : 2 ≤ d) (h2 : d < 2 ^ 52) (h : V FloatKind.f64.format (rung FloatKind.f64.format x) < p2 1076) :
    rung FloatKind.f64.format (fop .quo .f64 x (floatOfInt .f64 d)) < FloatKind.f64.format.infRung ∧
    (sv FloatKind.f64.format (fop .quo .f64 x (floatOfInt .f64 d)) * (d : Int) - sv FloatKind.f64.format x).natAbs ≤ 2 * (p2 1024 * d) := by
  have h1 : 1 ≤ d := by omega
  have hlog : ((d : Int)).natAbs.log2 ≤ 52 := by
    have h3 : ((d : Int)).natAbs ≠ 0 := by omega
    have := (Nat.log2_lt (k := 53) h3).2 (by have : (2 : Nat) ^ 53 = 9007199254740992 := by decide
                                             have : (2 : Nat) ^ 52 = 4503599627370496 := by decide
                                             omega)
    omega
  obtain ⟨hr, hV⟩ := intWord_V d hlog
  have hN := intWord_neg (d : Int)
  rw [show decide ((d : Int) < 0) = false from decide_eq_false (by omega)] at hN
  rw [show ((d : Int)).natAbs = d by omega] at hV
  obtain ⟨m, u, e1, g1⟩ := read_any hx
  obtain ⟨n, v, e2, g2⟩ := read_any hr
  rw [hN] at e2
  rw [hV] at g2
  clear hlog hV hN hr
  have hT : 0 < p2 1074 := p2_pos _
  have hn0 : 0 < n := Nat.pos_of_ne_zero fun hz => by
    rw [hz, Nat.zero_mul] at g2
    have := Nat.mul_pos (show 0 < d by omega) hT
    omega
  have er : fop .quo .f64 x (floatOfInt .f64 d) = FloatKind.f64.format.nearest (neg FloatKind.f64.format x ^^ false) (2 * ((m <<< (FloatKind.f64.format.fractionBits + 2 + n.log2 - m.log2)) / n) + ((m <<< (FloatKind.f64.format.fractionBits + 2 + n.log2 - m.log2)) % n != 0).toNat)
      (-1074 + (u : Int) - (-1074 + (v : Int)) - ((FloatKind.f64.format.fractionBits + 2 + n.log2 - m.log2 : Nat) : Int) - 1) := by
    unfold fop floatBits Format.div
    rw [e1, e2]
    unfold Datum.quotient
    dsimp only
    rw [if_neg (by omega)]
    rfl
  rw [Bool.xor_false] at er
  have hneg := nearest_neg FloatKind.f64.format (neg FloatKind.f64.format x) (2 * ((m <<< (FloatKind.f64.format.fractionBits + 2 + n.log2 - m.log2)) / n) + ((m <<< (FloatKind.f64.format.fractionBits + 2 + n.log2 - m.log2)) % n != 0).toNat)
      (-1074 + (u : Int) - (-1074 + (v : Int)) - ((FloatKind.f64.format.fractionBits + 2 + n.log2 - m.log2 : Nat) : Int) - 1)
  rw [← er] at hneg
  rw [← g1] at h
  by_cases hm : m = 0
  · have hz : rung FloatKind.f64.format (fop .quo .f64 x (floatOfInt .f64 d)) = 0 := by
      rw [er, nearest_rung, hm, Nat.zero_shiftLeft, Nat.zero_div, Nat.zero_mod]; rfl
    have hzx : V FloatKind.f64.format (rung FloatKind.f64.format x) = 0 := by rw [← g1, hm, Nat.zero_mul]
    refine ⟨by rw [hz]; decide, ?_⟩
    unfold sv
    rw [hz, hzx, V_zero]
    simp
  have hf := floor_two (D := m <<< (FloatKind.f64.format.fractionBits + 2 + n.log2 - m.log2)) hn0
  have hmore : 54 + n.log2 ≤ FloatKind.f64.format.fractionBits + 2 + n.log2 - m.log2 + m.log2 := by
    have : FloatKind.f64.format.fractionBits = 52 := rfl
    omega
  generalize FloatKind.f64.format.fractionBits + 2 + n.log2 - m.log2 = more at *
  rw [Nat.shiftLeft_eq] at hf er
  generalize 2 * (m * 2 ^ more / n) + (m * 2 ^ more % n != 0).toNat = q at *
  have l1 : m.log2 + u < 1076 := by
    have k : p2 (m.log2 + u) < p2 1076 := Nat.lt_of_le_of_lt (by rw [p2_add, ← p2_eq]; exact Nat.mul_le_mul_right _ (Nat.log2_self_le hm)) h
    exact p2_inj_lt k
  have l2 : 1074 < n.log2 + 1 + v := by
    have k : p2 1074 < p2 (n.log2 + 1 + v) := Nat.lt_of_le_of_lt (Nat.le_mul_of_pos_left _ h1) (by
      rw [← g2, p2_add, p2_eq v]; exact Nat.mul_lt_mul_of_pos_right Nat.lt_log2_self (Nat.two_pow_pos _))
    exact p2_inj_lt k
  obtain ⟨a, ha⟩ : ∃ a, a = (-1074 + (u : Int) - (-1074 + (v : Int)) - (more : Int) - 1 + 1074).toNat := ⟨_, rfl⟩
  obtain ⟨b, hb⟩ : ∃ b, b = (-1074 - (-1074 + (u : Int) - (-1074 + (v : Int)) - (more : Int) - 1)).toNat := ⟨_, rfl⟩
  have hab : a + v + more + 1 = b + u + 1074 := by omega
  have hab2 : a ≤ 1024 + b := by omega
  have hX : m * 2 ^ u * 2 ^ b * p2 1074 = 2 * (m * 2 ^ more) * (2 ^ a * 2 ^ v) := by
    have e : p2 (u + b + 1074) = p2 (1 + more + a + v) := congrArg p2 (by omega)
    rw [p2_add, p2_add, p2_add, p2_add, p2_add] at e
    rw [← p2_eq, ← p2_eq, ← p2_eq, ← p2_eq, ← p2_eq, show (2 : Nat) = p2 1 from rfl]
    generalize p2 1074 = T at *
    generalize p2 1 = O at *
    calc m * p2 u * p2 b * T = m * (p2 u * p2 b * T) := by simp only [Nat.mul_assoc]
      _ = m * (O * p2 more * p2 a * p2 v) := by rw [e]
      _ = O * (m * p2 more) * (p2 a * p2 v) := by simp only [Nat.mul_assoc, Nat.mul_left_comm, Nat.mul_comm]
  have hGB : 2 ^ a ≤ p2 1024 * 2 ^ b := by rw [← p2_eq b, ← p2_add, ← p2_eq]; exact p2_le hab2
  obtain ⟨A, hA⟩ : ∃ A, A = q * 2 ^ a := ⟨_, rfl⟩
  obtain ⟨B, hB⟩ : ∃ B, B = 2 ^ b := ⟨_, rfl⟩
  have hBp : 0 < B := by rw [hB]; exact Nat.two_pow_pos _
  rw [← hB] at hX hGB
  obtain ⟨k1, k2⟩ := quo_mid hT hA g2 hX hGB hf.1 hf.2
  have l24 : 2 * p2 1024 ≤ p2 1076 := by
    have := p2_le (show 1 + 1024 ≤ 1076 by decide)
    rwa [p2_add, p2_one] at this
  have hlt : A < p2 1076 * B := by
    refine Nat.lt_of_mul_lt_mul_right (a := d) ?_
    have j1 : m * 2 ^ u * B < p2 1076 * B := Nat.mul_lt_mul_of_pos_right h hBp
    have j2 : p2 1076 * B * 2 ≤ p2 1076 * B * d := Nat.mul_le_mul_left _ h1'
    have j3 : 2 * p2 1024 * B * d ≤ p2 1076 * B * d := Nat.mul_le_mul_right _ (Nat.mul_le_mul_right _ l24)
    rw [Nat.mul_assoc 2, Nat.mul_assoc 2] at j3
    omega
  have hn := near_err (neg FloatKind.f64.format x) (m := q) (p := -1074 + (u : Int) - (-1074 + (v : Int)) - (more : Int) - 1) (by rw [← ha]; exact hA) (by rw [← hb]; exact hB) hlt
  rw [← er] at hn
  refine ⟨hn.1, ?_⟩
  obtain ⟨_, n1, n2⟩ := hn
  unfold sv
  rw [hneg]
  rw [← g1]
  generalize V FloatKind.f64.format (rung FloatKind.f64.format (fop .quo .f64 x (floatOfInt .f64 d))) = W at *
  have w1 : W * d ≤ m * 2 ^ u + 2 * (p2 1024 * d) := by
    refine Nat.le_of_mul_le_mul_right (c := B) ?_ hBp
    have j := Nat.mul_le_mul_right d n1
    rw [Nat.add_mul] at j
    have : (m * 2 ^ u + 2 * (p2 1024 * d)) * B = m * 2 ^ u * B + 2 * (p2 1024 * B * d) := by rw [Nat.add_mul, Nat.mul_assoc 2, Nat.mul_right_comm (p2 1024)]
    rw [this, Nat.mul_right_comm]
    omega
  have w2 : m * 2 ^ u ≤ W * d + 2 * (p2 1024 * d) := by
    refine Nat.le_of_mul_le_mul_right (c := B) ?_ hBp
    have j := Nat.mul_le_mul_right d n2
    rw [Nat.add_mul] at j
    have : (W * d + 2 * (p2 1024 * d)) * B = W * B * d + 2 * (p2 1024 * B * d) := by rw [Nat.add_mul, Nat.mul_assoc 2, Nat.mul_right_comm (p2 1024), Nat.mul_right_comm W]
    rw [this]
    omega
  have c1 : ((W * d : Nat) : Int) = (W : Int) * (d : Int) := Int.natCast_mul ..
  generalize m * 2 ^ u = X at *
  generalize p2 1024 * d = R at *
  generalize W * d = P at *
  cases neg FloatKind.f64.format x <;> simp only [if_true, if_false, Bool.false_eq_true, Int.neg_mul, ← c1] <;> omega
end Go.Fl
namespace Go.Fl
open Ieee

theorem int_of_rat {z : Int} {n : Nat} (h1 : (z:Rat) < ((n : Int) : Rat)) (h2 : -((n : Int):Rat) < z) : z.natAbs < n := by
  rw [← Rat.intCast_neg] at h2
  have h3 := Rat.intCast_lt_intCast.1 h1
  have h4 := Rat.intCast_lt_intCast.1 h2
  omega
theorem rat_of_int {z : Int} {n : Nat} (h : z.natAbs ≤ n) : (z : Rat) ≤ ((n : Int) : Rat) ∧ -((n : Int):Rat) ≤ z := by
  rw [← Rat.intCast_neg]
  exact ⟨Rat.intCast_le_intCast.2 (by omega), Rat.intCast_le_intCast.2 (by omega)⟩
theorem mul_cancel {x y T : Rat} (hT : 0 < T) (h : x * T ≤ y * T) : x ≤ y := Rat.le_of_mul_le_mul_right h hT
theorem mul_grow {x y T : Rat} (hT : 0 < T) (h : x < y) : x * T < y * T := Rat.mul_lt_mul_of_pos_right h hT

/-- A finite number is a times 1. -/
def Rv (x : Nat) (a : Rat) : Prop := rung FloatKind.f64.format x < FloatKind.f64.format.infRung ∧ ((sv FloatKind.f64.format x : Int) : Rat) = a * (((p2 1074 : Nat) : Int) : Rat)

theorem T_pos : (0 : Rat) < (((p2 1074 : Nat) : Int) : Rat) := by
  have h : (0 : Int) < ((p2 1074 : Nat) : Int) := by have := p2_pos 1074; omega
  exact Rat.intCast_lt_intCast.2 h
theorem G_eq : (((p2 1074 : Nat) : Int) : Rat) = (((p2 1024 : Nat) : Int) : Rat) * 1125899906842624 := by
  have h : p2 1074 = p2 1024 * 1125899906842624 := by rw [show (1074 : Nat) = 1024 + 50 from rfl, p2_add, show p2 50 = 1125899906842624 by decide]
  rw [h, Int.natCast_mul, Rat.intCast_mul]
  rfl
theorem F_eq : p2 1076 = 4 * p2 1074 := by rw [show (1076 : Nat) = 2 + 1074 from rfl, p2_add, show p2 2 = 4 by decide]

theorem Rv.ex {x : Nat} (h : rung FloatKind.f64.format x < FloatKind.f64.format.infRung) : ∃ a, Rv x a := by
  have hT := T_pos
  exact ⟨((sv FloatKind.f64.format x : Int) : Rat) / (((p2 1074 : Nat) : Int) : Rat), h, by rw [Rat.div_mul_cancel]; intro h0; rw [h0] at hT; exact absurd hT (by decide)⟩

theorem Rv.mul {x y : Nat} {a b : Rat} (hx : Rv x a) (hy : Rv y b) (h1 : -4 < a * b) (h2 : a * b < 4) :
    ∃ c, Rv (fop .mul .f64 x y) c ∧ c ≤ a * b + 1/1125899906842624 ∧ a * b ≤ c + 1/1125899906842624 := by
  have hT := T_pos
  have hG := G_eq
  have hTT := Rat.mul_pos hT hT
  have hF : (((p2 1076 * p2 1074 : Nat) : Int) : Rat) = 4 * ((((p2 1074 : Nat) : Int) : Rat) * (((p2 1074 : Nat) : Int) : Rat)) := by
    rw [F_eq, Int.natCast_mul, Int.natCast_mul, Rat.intCast_mul, Rat.intCast_mul, Rat.mul_assoc]; rfl
  have hm := mul_err hx.1 hy.1 (int_of_rat (by
      rw [hF, Rat.intCast_mul, hx.2, hy.2]
      have := mul_grow hTT h2
      generalize (((p2 1074 : Nat) : Int) : Rat) = T at *
      grind) (by
      rw [hF, Rat.intCast_mul, hx.2, hy.2]
      have := mul_grow hTT h1
      generalize (((p2 1074 : Nat) : Int) : Rat) = T at *
      grind))
  obtain ⟨c, hc⟩ := Rv.ex hm.1
  refine ⟨c, hc, ?_⟩
  have hb := rat_of_int hm.2.1
  rw [Rat.intCast_sub, Rat.intCast_mul, Rat.intCast_mul, hc.2, hx.2, hy.2, Int.natCast_mul, Rat.intCast_mul] at hb
  clear hm hc hF hx hy
  generalize (((p2 1074 : Nat) : Int) : Rat) = T at *
  generalize (((p2 1024 : Nat) : Int) : Rat) = G at *
  subst hG
  refine ⟨mul_cancel hTT ?_, mul_cancel hTT ?_⟩ <;> grind

theorem Rv.sub {x y : Nat} {a b : Rat} (hx : Rv x a) (hy : Rv y b) (h1 : -4 < a - b) (h2 : a - b < 4) :
    ∃ c, Rv (fop .sub .f64 x y) c ∧ c ≤ a - b + 1/1125899906842624 ∧ a - b ≤ c + 1/1125899906842624 := by
  have hT := T_pos
  have hG := G_eq
  have hF : (((p2 1076 : Nat) : Int) : Rat) = 4 * (((p2 1074 : Nat) : Int) : Rat) := by
    rw [F_eq, Int.natCast_mul, Rat.intCast_mul]; rfl
  have hm := sub_err hx.1 hy.1 (int_of_rat (by
      rw [hF, Rat.intCast_sub, hx.2, hy.2]
      have := mul_grow hT h2
      generalize (((p2 1074 : Nat) : Int) : Rat) = T at *
      grind) (by
      rw [hF, Rat.intCast_sub, hx.2, hy.2]
      have := mul_grow hT h1
      generalize (((p2 1074 : Nat) : Int) : Rat) = T at *
      grind))
  obtain ⟨c, hc⟩ := Rv.ex hm.1
  refine ⟨c, hc, ?_⟩
  have hb := rat_of_int hm.2
  rw [Rat.intCast_sub, Rat.intCast_sub, hc.2, hx.2, hy.2] at hb
  clear hm hc hF hx hy
  generalize (((p2 1074 : Nat) : Int) : Rat) = T at *
  generalize (((p2 1024 : Nat) : Int) : Rat) = G at *
  subst hG
  refine ⟨mul_cancel hT ?_, mul_cancel hT ?_⟩ <;> grind

theorem Rv.add {x y : Nat} {a b : Rat} (hx : Rv x a) (hy : Rv y b) (h1 : -4 < a + b) (h2 : a + b < 4) :
    ∃ c, Rv (fop .add .f64 x y) c ∧ c ≤ a + b + 1/1125899906842624 ∧ a + b ≤ c + 1/1125899906842624 := by
  have hT := T_pos
  have hG := G_eq
  have hF : (((p2 1076 : Nat) : Int) : Rat) = 4 * (((p2 1074 : Nat) : Int) : Rat) := by
    rw [F_eq, Int.natCast_mul, Rat.intCast_mul]; rfl
  have hm := add_err hx.1 hy.1 (int_of_rat (by
      rw [hF, Rat.intCast_add, hx.2, hy.2]
      have := mul_grow hT h2
      generalize (((p2 1074 : Nat) : Int) : Rat) = T at *
      grind) (by
      rw [hF, Rat.intCast_add, hx.2, hy.2]
      have := mul_grow hT h1
      generalize (((p2 1074 : Nat) : Int) : Rat) = T at *
      grind))
  obtain ⟨c, hc⟩ := Rv.ex hm.1
  refine ⟨c, hc, ?_⟩
  have hb := rat_of_int hm.2
  rw [Rat.intCast_sub, Rat.intCast_add, hc.2, hx.2, hy.2] at hb
  clear hm hc hF hx hy
  generalize (((p2 1074 : Nat) : Int) : Rat) = T at *
  generalize (((p2 1024 : Nat) : Int) : Rat) = G at *
  subst hG
  refine ⟨mul_cancel hT ?_, mul_cancel hT ?_⟩ <;> grind

theorem Rv.quo {x d : Nat} {a : Rat} (hx : Rv x a) (hd : 2 ≤ d) (hd2 : d < 2 ^ 52) (h1 : -4 < a) (h2 : a < 4) :
    ∃ c, Rv (fop .quo .f64 x (floatOfInt .f64 d)) c ∧ c * ((d : Int) : Rat) ≤ a + 2/1125899906842624 * ((d : Int) : Rat) ∧ a ≤ c * ((d : Int) : Rat) + 2/1125899906842624 * ((d : Int) : Rat) := by
  have hT := T_pos
  have hG := G_eq
  have hF : (((p2 1076 : Nat) : Int) : Rat) = 4 * (((p2 1074 : Nat) : Int) : Rat) := by
    rw [F_eq, Int.natCast_mul, Rat.intCast_mul]; rfl
  have hm := quo_err hx.1 hd hd2 (by
    rw [← sv_abs]
    exact int_of_rat (by
      rw [hF, hx.2]
      have := mul_grow hT h2
      generalize (((p2 1074 : Nat) : Int) : Rat) = T at *
      grind) (by
      rw [hF, hx.2]
      have := mul_grow hT h1
      generalize (((p2 1074 : Nat) : Int) : Rat) = T at *
      grind))
  obtain ⟨c, hc⟩ := Rv.ex hm.1
  refine ⟨c, hc, ?_⟩
  have hb := rat_of_int hm.2
  rw [Rat.intCast_sub, Rat.intCast_mul, hc.2, hx.2, Int.natCast_mul, Int.natCast_mul, Rat.intCast_mul, Rat.intCast_mul] at hb
  rw [show (((2 : Nat) : Int) : Rat) = 2 from rfl] at hb
  clear hm hc hF hx
  generalize (((p2 1074 : Nat) : Int) : Rat) = T at *
  generalize (((p2 1024 : Nat) : Int) : Rat) = G at *
  generalize ((d : Int) : Rat) = D at *
  subst hG
  refine ⟨mul_cancel hT ?_, mul_cancel hT ?_⟩ <;> grind

theorem Rv.const {x : Nat} {k : Int} (h1 : rung FloatKind.f64.format x < FloatKind.f64.format.infRung) (h2 : sv FloatKind.f64.format x = k * ((p2 1024 : Nat) : Int)) : Rv x ((k : Rat) / 1125899906842624) := by
  refine ⟨h1, ?_⟩
  rw [h2, Rat.intCast_mul, G_eq]
  generalize (((p2 1024 : Nat) : Int) : Rat) = G
  generalize (k : Rat) = K
  grind
theorem Rv.one : Rv ONE 1 := by
  have h := Rv.const (x := ONE) (k := 1125899906842624) (by decide) (by decide +kernel)
  rwa [show ((1125899906842624 : Int) : Rat) / 1125899906842624 = 1 by decide +kernel] at h
theorem Rv.half : Rv HALF (1/2) := by
  have h := Rv.const (x := HALF) (k := 562949953421312) (by decide) (by decide +kernel)
  rwa [show ((562949953421312 : Int) : Rat) / 1125899906842624 = 1/2 by decide +kernel] at h
theorem Rv.quart : Rv QUART (1/4) := by
  have h := Rv.const (x := QUART) (k := 281474976710656) (by decide) (by decide +kernel)
  rwa [show ((281474976710656 : Int) : Rat) / 1125899906842624 = 1/4 by decide +kernel] at h
theorem Rv.zero : Rv 0 0 := by
  have h := Rv.const (x := 0) (k := 0) (by decide) (by decide +kernel)
  rwa [show ((0 : Int) : Rat) / 1125899906842624 = 0 by decide +kernel] at h
theorem Rv.tau : Rv TAU (7074237752028440/1125899906842624) :=
  Rv.const (x := TAU) (k := 7074237752028440) (by decide) (by decide +kernel)
theorem Rv.nan {x : Nat} {a : Rat} (h : Rv x a) : Fl.nan .f64 x = false := by unfold Fl.nan isNaN; exact decide_eq_false (by have := h.1; omega)
theorem Rv.lt {x y : Nat} {a b : Rat} (hx : Rv x a) (hy : Rv y b) : key FloatKind.f64.format x < key FloatKind.f64.format y ↔ a < b := by
  rw [← sv_lt_iff, ← Rat.intCast_lt_intCast, hx.2, hy.2]
  constructor
  · intro h
    refine Rat.not_le.1 fun hle => ?_
    have := Rat.mul_le_mul_of_nonneg_right hle (Rat.le_of_lt T_pos)
    exact absurd h (Rat.not_lt.2 this)
  · exact mul_grow T_pos
theorem Rv.lss {x y : Nat} {a b : Rat} (hx : Rv x a) (hy : Rv y b) : fcmp .lss .f64 x y = true ↔ a < b := by
  rw [fcmp_lss .f64 hx.nan hy.nan, decide_eq_true_eq]; exact hx.lt hy
theorem Rv.gtr {x y : Nat} {a b : Rat} (hx : Rv x a) (hy : Rv y b) : fcmp .gtr .f64 x y = true ↔ b < a := by
  rw [fcmp_gtr .f64 hx.nan hy.nan, decide_eq_true_eq]; exact hy.lt hx
theorem Rv.geq {x y : Nat} {a b : Rat} (hx : Rv x a) (hy : Rv y b) : fcmp .geq .f64 x y = true ↔ b ≤ a := by
  rw [fcmp_geq .f64 hx.nan hy.nan, decide_eq_true_eq, ← Rat.not_lt, ← hx.lt hy]
  omega
theorem Rv.sq {x : Nat} {a : Rat} (hx : Rv x a) (h : a * a < 4) : ∃ c, Rv (fop .mul .f64 x x) c ∧ 0 ≤ c ∧ c ≤ a * a + 1/1125899906842624 ∧ a * a ≤ c + 1/1125899906842624 := by
  have hp := Sb.sq_nonneg a
  obtain ⟨c, hc, h1, h2⟩ := hx.mul hx (by grind) h
  refine ⟨c, hc, ?_, h1, h2⟩
  have hn : neg FloatKind.f64.format (fop .mul .f64 x x) = false := by
    have hT := T_pos
    have hTT := Rat.mul_pos hT hT
    have hF : (((p2 1076 * p2 1074 : Nat) : Int) : Rat) = 4 * ((((p2 1074 : Nat) : Int) : Rat) * (((p2 1074 : Nat) : Int) : Rat)) := by
      rw [F_eq, Int.natCast_mul, Int.natCast_mul, Rat.intCast_mul, Rat.intCast_mul, Rat.mul_assoc]; rfl
    have hm := mul_err hx.1 hx.1 (int_of_rat (by
      rw [hF, Rat.intCast_mul, hx.2]
      have := mul_grow hTT h
      generalize (((p2 1074 : Nat) : Int) : Rat) = T at *
      grind) (by
      rw [hF, Rat.intCast_mul, hx.2]
      have := Rat.mul_nonneg hp (Rat.le_of_lt hTT)
      generalize (((p2 1074 : Nat) : Int) : Rat) = T at *
      grind))
    rw [hm.2.2]; simp
  have h3 := hc.2
  unfold sv at h3
  rw [hn] at h3
  simp only [Bool.false_eq_true, if_false] at h3
  have h4 : (0 : Rat) ≤ (((V FloatKind.f64.format (rung FloatKind.f64.format (fop .mul .f64 x x)) : Nat) : Int) : Rat) := Rat.intCast_le_intCast.2 (Int.natCast_nonneg _)
  rw [h3] at h4
  exact mul_cancel T_pos (by rw [Rat.zero_mul]; exact h4)

/-- One round of the series: s is near P, then what comes of it is near 1 - U P / D. -/
theorem step {u s d : Nat} {U p P Q : Rat} (hu : Rv u U) (hs : Rv s p) (hU : 0 ≤ U) (hU2 : U ≤ 5/2) (hd : 6 ≤ d) (hd2 : d < 2 ^ 52) (hP : 0 ≤ P) (hP1 : P ≤ 1)
    (h1 : p ≤ P + 8/1125899906842624) (h2 : P ≤ p + 8/1125899906842624) (hQ : Q * ((d : Int) : Rat) = ((d : Int) : Rat) - U * P) :
    (∃ q, Rv (fop .sub .f64 ONE (fop .quo .f64 (fop .mul .f64 u s) (floatOfInt .f64 d))) q ∧ q ≤ Q + 8/1125899906842624 ∧ Q ≤ q + 8/1125899906842624) ∧ 0 ≤ Q ∧ Q ≤ 1 := by
  have hD : (6 : Rat) ≤ ((d : Int) : Rat) := Rat.intCast_le_intCast.2 (show (6 : Int) ≤ (d : Int) by omega)
  have a1 : 0 ≤ U * P := Rat.mul_nonneg hU hP
  have a2 : U * P ≤ 5/2 * P := Rat.mul_le_mul_of_nonneg_right hU2 hP
  have a3 : U * p ≤ U * (P + 8/1125899906842624) := Rat.mul_le_mul_of_nonneg_left h1 hU
  have a4 : U * P ≤ U * (p + 8/1125899906842624) := Rat.mul_le_mul_of_nonneg_left h2 hU
  obtain ⟨m, hm, m1, m2⟩ := hu.mul hs (by grind) (by grind)
  obtain ⟨t, ht, t1, t2⟩ := hm.quo (show 2 ≤ d by omega) hd2 (by grind) (by grind)
  have hDp : (0 : Rat) < ((d : Int) : Rat) := by grind
  generalize ((d : Int) : Rat) = D at *
  have q0 : 0 ≤ Q := mul_cancel hDp (by grind)
  have q1 : Q ≤ 1 := mul_cancel hDp (by grind)
  have s1 : t ≤ 1 - Q + 7/1125899906842624 := mul_cancel hDp (by grind)
  have s2 : 1 - Q ≤ t + 7/1125899906842624 := mul_cancel hDp (by grind)
  obtain ⟨q, hq, r1, r2⟩ := Rv.one.sub ht (by grind) (by grind)
  exact ⟨⟨q, hq, by grind, by grind⟩, q0, q1⟩
end Go.Fl
namespace Go.Fl
open Ieee

theorem ser_near {u : Nat} {U : Rat} (hu : Rv u U) (hU : 0 ≤ U) (hU2 : U ≤ 5/2) : ∃ p, Rv (ser u 8) p ∧ p ≤ Sb.pol U + 8/1125899906842624 ∧ Sb.pol U ≤ p + 8/1125899906842624 ∧ 0 ≤ Sb.pol U ∧ Sb.pol U ≤ 1 := by
  obtain ⟨P1, hP1⟩ : ∃ P, P = 1 - U / 272 * 1 := ⟨_, rfl⟩
  obtain ⟨⟨q1, k1, x1, y1⟩, z1, o1⟩ := step (d := 272) (P := 1) (Q := P1) hu Rv.one hU hU2 (by decide) (by decide) (by grind) (by grind) (by grind) (by grind) (by rw [hP1, show (((272 : Nat) : Int) : Rat) = 272 from rfl]; grind)
  obtain ⟨P2, hP2⟩ : ∃ P, P = 1 - U / 210 * P1 := ⟨_, rfl⟩
  obtain ⟨⟨q2, k2, x2, y2⟩, z2, o2⟩ := step (d := 210) (P := P1) (Q := P2) hu k1 hU hU2 (by decide) (by decide) z1 o1 x1 y1 (by rw [hP2, show (((210 : Nat) : Int) : Rat) = 210 from rfl]; grind)
  obtain ⟨P3, hP3⟩ : ∃ P, P = 1 - U / 156 * P2 := ⟨_, rfl⟩
  obtain ⟨⟨q3, k3, x3, y3⟩, z3, o3⟩ := step (d := 156) (P := P2) (Q := P3) hu k2 hU hU2 (by decide) (by decide) z2 o2 x2 y2 (by rw [hP3, show (((156 : Nat) : Int) : Rat) = 156 from rfl]; grind)
  obtain ⟨P4, hP4⟩ : ∃ P, P = 1 - U / 110 * P3 := ⟨_, rfl⟩
  obtain ⟨⟨q4, k4, x4, y4⟩, z4, o4⟩ := step (d := 110) (P := P3) (Q := P4) hu k3 hU hU2 (by decide) (by decide) z3 o3 x3 y3 (by rw [hP4, show (((110 : Nat) : Int) : Rat) = 110 from rfl]; grind)
  obtain ⟨P5, hP5⟩ : ∃ P, P = 1 - U / 72 * P4 := ⟨_, rfl⟩
  obtain ⟨⟨q5, k5, x5, y5⟩, z5, o5⟩ := step (d := 72) (P := P4) (Q := P5) hu k4 hU hU2 (by decide) (by decide) z4 o4 x4 y4 (by rw [hP5, show (((72 : Nat) : Int) : Rat) = 72 from rfl]; grind)
  obtain ⟨P6, hP6⟩ : ∃ P, P = 1 - U / 42 * P5 := ⟨_, rfl⟩
  obtain ⟨⟨q6, k6, x6, y6⟩, z6, o6⟩ := step (d := 42) (P := P5) (Q := P6) hu k5 hU hU2 (by decide) (by decide) z5 o5 x5 y5 (by rw [hP6, show (((42 : Nat) : Int) : Rat) = 42 from rfl]; grind)
  obtain ⟨P7, hP7⟩ : ∃ P, P = 1 - U / 20 * P6 := ⟨_, rfl⟩
  obtain ⟨⟨q7, k7, x7, y7⟩, z7, o7⟩ := step (d := 20) (P := P6) (Q := P7) hu k6 hU hU2 (by decide) (by decide) z6 o6 x6 y6 (by rw [hP7, show (((20 : Nat) : Int) : Rat) = 20 from rfl]; grind)
  obtain ⟨P8, hP8⟩ : ∃ P, P = 1 - U / 6 * P7 := ⟨_, rfl⟩
  obtain ⟨⟨q8, k8, x8, y8⟩, z8, o8⟩ := step (d := 6) (P := P7) (Q := P8) hu k7 hU hU2 (by decide) (by decide) z7 o7 x7 y7 (by rw [hP8, show (((6 : Nat) : Int) : Rat) = 6 from rfl]; grind)
  have e : Sb.pol U = P8 := by rw [hP8, hP7, hP6, hP5, hP4, hP3, hP2, hP1]; unfold Sb.pol; grind
  refine ⟨q8, ?_, by rw [e]; exact x8, by rw [e]; exact y8, by rw [e]; exact z8, by rw [e]; exact o8⟩
  have e0 : (2 * (8 - ((0 : Nat) : Int)) * (2 * (8 - ((0 : Nat) : Int)) + 1)) = ((272 : Nat) : Int) := by decide
  have e1 : (2 * (8 - ((1 : Nat) : Int)) * (2 * (8 - ((1 : Nat) : Int)) + 1)) = ((210 : Nat) : Int) := by decide
  have e2 : (2 * (8 - ((2 : Nat) : Int)) * (2 * (8 - ((2 : Nat) : Int)) + 1)) = ((156 : Nat) : Int) := by decide
  have e3 : (2 * (8 - ((3 : Nat) : Int)) * (2 * (8 - ((3 : Nat) : Int)) + 1)) = ((110 : Nat) : Int) := by decide
  have e4 : (2 * (8 - ((4 : Nat) : Int)) * (2 * (8 - ((4 : Nat) : Int)) + 1)) = ((72 : Nat) : Int) := by decide
  have e5 : (2 * (8 - ((5 : Nat) : Int)) * (2 * (8 - ((5 : Nat) : Int)) + 1)) = ((42 : Nat) : Int) := by decide
  have e6 : (2 * (8 - ((6 : Nat) : Int)) * (2 * (8 - ((6 : Nat) : Int)) + 1)) = ((20 : Nat) : Int) := by decide
  have e7 : (2 * (8 - ((7 : Nat) : Int)) * (2 * (8 - ((7 : Nat) : Int)) + 1)) = ((6 : Nat) : Int) := by decide
  rw [ser, e7, ser, e6, ser, e5, ser, e4, ser, e3, ser, e2, ser, e1, ser, e0, ser]
  exact k8

theorem sq_le_one {X d : Rat} (h : X * X ≤ 1 + d) (hd : 0 ≤ d) : X ≤ 1 + d ∧ -(1 + d) ≤ X := by
  constructor
  · refine Rat.not_lt.1 fun hlt => ?_
    have h1 : (1 + d) * (1 + d) ≤ X * (1 + d) := Rat.mul_le_mul_of_nonneg_right (Rat.le_of_lt hlt) (by grind)
    have h2 : X * (1 + d) < X * X := Rat.mul_lt_mul_of_pos_left hlt (by grind)
    have h3 := Rat.mul_nonneg hd hd
    grind
  · refine Rat.not_lt.1 fun hlt => ?_
    have hlt2 : 1 + d < -X := by grind
    have h1 : (1 + d) * (1 + d) ≤ -X * (1 + d) := Rat.mul_le_mul_of_nonneg_right (Rat.le_of_lt hlt2) (by grind)
    have h2 : -X * (1 + d) < -X * -X := Rat.mul_lt_mul_of_pos_left hlt2 (by grind)
    have h3 := Rat.mul_nonneg hd hd
    grind

theorem fold1_rv {F : Nat} {f : Rat} (hF : Rv F f) (h0 : -(1/1125899906842624) ≤ f) (h1 : f ≤ 1 + 1/1125899906842624) : ∃ g, Rv (fold1 F) g ∧ -(1/1125899906842624) ≤ g ∧ g ≤ 1/2 + 2/1125899906842624 := by
  unfold fold1
  split
  · rename_i h
    rw [hF.geq Rv.half] at h
    obtain ⟨c, hc, c1, c2⟩ := hF.sub Rv.half (by grind) (by grind)
    exact ⟨c, hc, by grind, by grind⟩
  · rename_i h
    rw [hF.geq Rv.half] at h
    exact ⟨f, hF, h0, by grind⟩
theorem fold2_rv {F : Nat} {f : Rat} (hF : Rv F f) (h0 : -(1/1125899906842624) ≤ f) (h1 : f ≤ 1/2 + 2/1125899906842624) : ∃ g, Rv (fold2 F) g ∧ -(3/1125899906842624) ≤ g ∧ g ≤ 1/4 + 1/1125899906842624 := by
  unfold fold2
  split
  · rename_i h
    rw [hF.gtr Rv.quart] at h
    obtain ⟨c, hc, c1, c2⟩ := Rv.half.sub hF (by grind) (by grind)
    exact ⟨c, hc, by grind, by grind⟩
  · rename_i h
    rw [hF.gtr Rv.quart] at h
    exact ⟨f, hF, by grind, by grind⟩
theorem sineZ_rv {F : Nat} {f : Rat} (hF : Rv F f) (h0 : -(1/1125899906842624) ≤ f) (h1 : f ≤ 1 + 1/1125899906842624) : ∃ z, Rv (sineZ F) z ∧ -(30/1125899906842624) ≤ z ∧ z ≤ 15708/10000 := by
  obtain ⟨g, hg, g1, g2⟩ := fold1_rv hF h0 h1
  obtain ⟨k, hk, k1, k2⟩ := fold2_rv hg g1 g2
  obtain ⟨c, hc, c1, c2⟩ := hk.mul Rv.tau (by grind) (by grind)
  exact ⟨c, hc, by grind, by grind⟩
theorem sineV_rv {F : Nat} {f : Rat} (hF : Rv F f) (h0 : -(1/1125899906842624) ≤ f) (h1 : f ≤ 1 + 1/1125899906842624) : ∃ s, Rv (sineV F) s ∧ -(1 + 1/536870912) ≤ s ∧ s ≤ 1 + 1/536870912 := by
  obtain ⟨z, hz, z1, z2⟩ := sineZ_rv hF h0 h1
  have zz : z * z ≤ 24675/10000 := by
    by_cases h : 0 ≤ z
    · have a1 : z * z ≤ z * (15708/10000) := Rat.mul_le_mul_of_nonneg_left z2 h
      grind
    · have a1 : -z * -z ≤ -z * (30/1125899906842624) := Rat.mul_le_mul_of_nonneg_left (by grind) (by grind)
      grind
  obtain ⟨U, hU, u0, u1, u2⟩ := hz.sq (by grind)
  obtain ⟨p, hp, p1, p2, p3, p4⟩ := ser_near hU u0 (by grind)
  have hpl := Sb.pol_le u0 (show U ≤ 5/2 by grind)
  unfold sineV
  generalize Sb.pol U = P at *
  have zP : z * P * (z * P) ≤ 1 + 1/1073741824 + 1/1125899906842624 := by
    have a1 : z * z * (P * P) ≤ (U + 1/1125899906842624) * (P * P) := Rat.mul_le_mul_of_nonneg_right u2 (Sb.sq_nonneg P)
    have a2 : P * P ≤ P * 1 := Rat.mul_le_mul_of_nonneg_left p4 p3
    grind
  obtain ⟨b1, b2⟩ := sq_le_one (X := z * P) (d := 1/1073741824 + 1/1125899906842624) (by grind) (by grind)
  have dz : z * p - z * P ≤ 16/1125899906842624 ∧ z * P - z * p ≤ 16/1125899906842624 := by
    by_cases h : 0 ≤ z
    · have a1 : z * p ≤ z * (P + 8/1125899906842624) := Rat.mul_le_mul_of_nonneg_left p1 h
      have a2 : z * P ≤ z * (p + 8/1125899906842624) := Rat.mul_le_mul_of_nonneg_left p2 h
      constructor <;> grind
    · have a1 : -z * p ≤ -z * (P + 8/1125899906842624) := Rat.mul_le_mul_of_nonneg_left p1 (by grind)
      have a2 : -z * P ≤ -z * (p + 8/1125899906842624) := Rat.mul_le_mul_of_nonneg_left p2 (by grind)
      constructor <;> grind
  obtain ⟨c, hc, c1, c2⟩ := hz.mul hp (by grind) (by grind)
  exact ⟨c, hc, by grind, by grind⟩
theorem part0_rv {Y : Nat} (h : short Y) : ∃ a, Rv (part0 Y) a ∧ -1 ≤ a ∧ a ≤ 1 := by
  have hb := part0_bd h
  obtain ⟨a, ha⟩ := Rv.ex hb.1
  have hv := hb.2
  rw [← sv_abs] at hv
  have hr := rat_of_int hv
  rw [ha.2] at hr
  have hT := T_pos
  refine ⟨a, ha, mul_cancel hT ?_, mul_cancel hT ?_⟩
  · have := hr.2; generalize (((Fl.p2 1074 : Nat) : Int) : Rat) = T at *; grind
  · have := hr.1; generalize (((Fl.p2 1074 : Nat) : Int) : Rat) = T at *; grind
theorem partT_rv {Y : Nat} (h : short Y) : ∃ a, Rv (partT Y) a ∧ -(1/1125899906842624) ≤ a ∧ a ≤ 1 + 1/1125899906842624 := by
  obtain ⟨a, ha, a1, a2⟩ := part0_rv h
  unfold partT
  split
  · rename_i hc
    rw [ha.lss Rv.zero] at hc
    obtain ⟨c, hc', c1, c2⟩ := ha.add Rv.one (by grind) (by grind)
    exact ⟨c, hc', by grind, by grind⟩
  · rename_i hc
    rw [ha.lss Rv.zero] at hc
    exact ⟨a, ha, by grind, by grind⟩
end Go.Fl
namespace Go.Fl
open Ieee

theorem sineF_v {F : Nat} {s : Rat} (hs : Rv (sineV F) s) (h1 : -(1 + 1/536870912) ≤ s) (h2 : s ≤ 1 + 1/536870912) : rung FloatKind.f64.format (sineF F) < FloatKind.f64.format.infRung ∧ V FloatKind.f64.format (rung FloatKind.f64.format (sineF F)) * 536870912 ≤ 536870913 * p2 1074 := by
  have hv : V FloatKind.f64.format (rung FloatKind.f64.format (sineV F)) * 536870912 ≤ 536870913 * p2 1074 := by
    have a1 := Rat.mul_le_mul_of_nonneg_right h1 (Rat.le_of_lt T_pos)
    have a2 := Rat.mul_le_mul_of_nonneg_right h2 (Rat.le_of_lt T_pos)
    rw [← hs.2] at a1 a2
    have b1 : ((sv FloatKind.f64.format (sineV F) * 536870912 : Int) : Rat) ≤ ((536870913 * ((p2 1074 : Nat) : Int) : Int) : Rat) := by
      rw [Rat.intCast_mul, Rat.intCast_mul, show ((536870912 : Int) : Rat) = 536870912 from rfl, show ((536870913 : Int) : Rat) = 536870913 from rfl]
      generalize (((p2 1074 : Nat) : Int) : Rat) = T at *
      generalize ((sv FloatKind.f64.format (sineV F) : Int) : Rat) = X at *
      grind
    have b2 : ((-(536870913 * ((p2 1074 : Nat) : Int)) : Int) : Rat) ≤ ((sv FloatKind.f64.format (sineV F) * 536870912 : Int) : Rat) := by
      rw [Rat.intCast_neg, Rat.intCast_mul, Rat.intCast_mul, show ((536870912 : Int) : Rat) = 536870912 from rfl, show ((536870913 : Int) : Rat) = 536870913 from rfl]
      generalize (((p2 1074 : Nat) : Int) : Rat) = T at *
      generalize ((sv FloatKind.f64.format (sineV F) : Int) : Rat) = X at *
      grind
    have c1 := Rat.intCast_le_intCast.1 b1
    have c2 := Rat.intCast_le_intCast.1 b2
    rw [← sv_abs]
    generalize sv FloatKind.f64.format (sineV F) = Z at *
    generalize p2 1074 = T at *
    omega
  unfold sineF
  split
  · unfold fneg; rw [hs.nan]
    simp only [Bool.false_eq_true, if_false]
    have e := (neg_rung (show sineV F < 2 ^ FloatKind.f64.format.width from fop_lt ..)).1
    exact ⟨by rw [e]; exact hs.1, by rw [e]; exact hv⟩
  · exact ⟨hs.1, hv⟩

theorem V32_one : V FloatKind.f32.format 1065353216 = p2 149 := by decide +kernel
theorem V32_next : V FloatKind.f32.format (1065353216 + 1) = p2 149 + p2 126 := by decide +kernel

theorem nar_small {x : Nat} (hx : rung FloatKind.f64.format x < FloatKind.f64.format.infRung) (h : V FloatKind.f64.format (rung FloatKind.f64.format x) * 536870912 ≤ 536870913 * p2 1074) : rung FloatKind.f32.format (nar x) ≤ 1065353216 := by
  have hn : nan .f64 x = false := by unfold Fl.nan isNaN; exact decide_eq_false (by omega)
  obtain ⟨m, u, e1, h1⟩ := read_any hx
  unfold nar
  rw [if_neg (by rw [hn]; simp), e1]
  unfold Format.write
  dsimp only
  rw [nearest_rung]
  split
  · exact Nat.zero_le _
  · rename_i h0
    refine Nat.le_trans (Nat.min_le_left _ _) (rnd_mid FloatKind.f32.format _ h0 ?_)
    rw [lp32, V32_one, V32_next]
    rw [← h1, ← p2_eq] at h
    have key : 2 * (m * p2 u) < (p2 149 + (p2 149 + p2 126)) * p2 925 := by
      have k1 : p2 1074 = 8388608 * (p2 126 * p2 925) := by rw [← p2_add, show (1074 : Nat) = 23 + (126 + 925) from rfl, p2_add, show p2 23 = 8388608 by decide]
      have k2 : p2 149 = 8388608 * p2 126 := by rw [show (149 : Nat) = 23 + 126 from rfl, p2_add, show p2 23 = 8388608 by decide]
      rw [k2, Nat.add_mul, Nat.add_mul, Nat.mul_assoc]
      rw [k1] at h
      have hp : 0 < p2 126 * p2 925 := Nat.mul_pos (p2_pos _) (p2_pos _)
      generalize p2 126 * p2 925 = K at *
      generalize m * p2 u = M at *
      omega
    generalize p2 149 + (p2 149 + p2 126) = R at *
    by_cases h4 : u ≤ 925
    · have e3 : (-1074 + (u : Int) - (-149)).toNat = 0 := by omega
      have e4 : (-149 - (-1074 + (u : Int))).toNat = 925 - u := by omega
      rw [e3, e4, Nat.pow_zero, Nat.mul_one, ← p2_eq]
      have hs : p2 925 = p2 (925 - u) * p2 u := by rw [← p2_add]; exact congrArg p2 (by omega)
      rw [hs, ← Nat.mul_assoc, ← Nat.mul_assoc] at key
      exact Nat.lt_of_mul_lt_mul_right key
    · have e3 : (-1074 + (u : Int) - (-149)).toNat = u - 925 := by omega
      have e4 : (-149 - (-1074 + (u : Int))).toNat = 0 := by omega
      rw [e3, e4, Nat.pow_zero, Nat.mul_one, ← p2_eq]
      have hs : p2 u = p2 (u - 925) * p2 925 := by rw [← p2_add]; exact congrArg p2 (by omega)
      rw [hs, ← Nat.mul_assoc, ← Nat.mul_assoc] at key
      exact Nat.lt_of_mul_lt_mul_right key

theorem sineW_small {Y : Nat} (h : short Y) : rung FloatKind.f32.format (nar (sineW Y)) ≤ 1065353216 := by
  obtain ⟨f, hf, f0, f1⟩ := partT_rv h
  obtain ⟨s, hs, s1, s2⟩ := sineV_rv hf f0 f1
  have hv := sineF_v hs s1 s2
  exact nar_small hv.1 hv.2

/-- The magnitude of the sine of a finite number of turns is at most 1. -/
theorem sineT_small {X : Nat} (h : fin .f64 (wid X) = true) : rung FloatKind.f32.format (sineT X) ≤ 1065353216 := by
  unfold sineT
  rw [if_pos h]
  split
  · decide
  · rename_i hl
    exact sineW_small (short_of h (by simpa using hl))
end Go.Fl
