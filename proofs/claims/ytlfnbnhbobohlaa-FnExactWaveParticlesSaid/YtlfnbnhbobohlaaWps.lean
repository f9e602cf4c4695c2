/-
  The numbers of particles in a wave: finite, since the magnitude of the sine is at most 1.
  Particles in a wave: the program.
  Particles in a wave: the model.
-/
import Derived.Test.YtlfnbnhbobohlaaSb1
import Derived.Test.YtlfnbnhbobohlaaPw
import Derived.Test.YtlfnbnhbobohlaaWvf
namespace Go.Proofs.Ytlfnbnhbobohlaa
open Go.Fl Go.RowKit Ieee
set_option linter.unusedSimpArgs false
set_option linter.unusedVariables false

theorem read_any32 {x : Nat} (h : rung FloatKind.f32.format x < FloatKind.f32.format.infRung) : ∃ (m u : Nat), FloatKind.f32.format.read x = .number (neg FloatKind.f32.format x) m (-149 + (u : Int)) ∧ m * 2 ^ u = V FloatKind.f32.format (rung FloatKind.f32.format x) := by
  have e := read_eq FloatKind.f32.format (eb _) x
  rw [if_pos h, lp32] at e
  exact ⟨_, _, e, rfl⟩

theorem mul32_le {x y r : Nat} (hx : rung FloatKind.f32.format x < FloatKind.f32.format.infRung) (hy : rung FloatKind.f32.format y < FloatKind.f32.format.infRung)
    (h : V FloatKind.f32.format (rung FloatKind.f32.format x) * V FloatKind.f32.format (rung FloatKind.f32.format y) ≤ V FloatKind.f32.format r * p2 149) : rung FloatKind.f32.format (fop .mul .f32 x y) ≤ r := by
  obtain ⟨m, u, e1, h1⟩ := read_any32 hx
  obtain ⟨n, v, e2, h2⟩ := read_any32 hy
  rw [← h1, ← h2] at h
  have er : fop .mul .f32 x y = FloatKind.f32.format.nearest (neg FloatKind.f32.format x ^^ neg FloatKind.f32.format y) (m * n) (-149 + (u : Int) + (-149 + (v : Int))) := by
    unfold fop floatBits Format.mul
    rw [e1, e2]
    rfl
  rw [er, nearest_rung]
  split
  · exact Nat.zero_le _
  rename_i h0
  refine Nat.le_trans (Nat.min_le_left _ _) (rnd_le FloatKind.f32.format _ h0 ?_)
  rw [lp32]
  have hpow : m * 2 ^ u * (n * 2 ^ v) = m * n * p2 (u + v) := by rw [p2_add, ← p2_eq, ← p2_eq]; simp only [Nat.mul_left_comm, Nat.mul_assoc]
  rw [hpow] at h
  by_cases h4 : u + v ≤ 149
  · have e3 : (-149 + (u : Int) + (-149 + (v : Int)) - (-149)).toNat = 0 := by omega
    have e4 : (-149 - (-149 + (u : Int) + (-149 + (v : Int)))).toNat = 149 - (u + v) := by omega
    rw [e3, e4, Nat.pow_zero, Nat.mul_one, ← p2_eq]
    have hs : p2 149 = p2 (149 - (u + v)) * p2 (u + v) := by rw [← p2_add]; exact congrArg p2 (by omega)
    rw [hs, ← Nat.mul_assoc] at h
    exact Nat.le_of_mul_le_mul_right h (p2_pos _)
  · have e3 : (-149 + (u : Int) + (-149 + (v : Int)) - (-149)).toNat = u + v - 149 := by omega
    have e4 : (-149 - (-149 + (u : Int) + (-149 + (v : Int)))).toNat = 0 := by omega
    rw [e3, e4, Nat.pow_zero, Nat.mul_one, ← p2_eq]
    have hs : p2 (u + v) = p2 (u + v - 149) * p2 149 := by rw [← p2_add]; exact congrArg p2 (by omega)
    rw [hs, ← Nat.mul_assoc] at h
    exact Nat.le_of_mul_le_mul_right h (p2_pos _)

theorem V32_max : V FloatKind.f32.format (FloatKind.f32.format.infRung - 1) = p2 277 - p2 253 := by decide +kernel
theorem V32_inf : V FloatKind.f32.format (FloatKind.f32.format.infRung - 1 + 1) = p2 277 := by decide +kernel
theorem V32_16 : V FloatKind.f32.format 1098907648 = p2 153 := by decide +kernel

theorem add32_fin {x y : Nat} (hx : rung FloatKind.f32.format x < FloatKind.f32.format.infRung) (hy : rung FloatKind.f32.format y < FloatKind.f32.format.infRung) (hx2 : rung FloatKind.f32.format x ≤ 1098907648) : rung FloatKind.f32.format (fop .add .f32 x y) < FloatKind.f32.format.infRung := by
  have vx := V_le FloatKind.f32.format hx2
  rw [V32_16] at vx
  have vy := V_le FloatKind.f32.format (show rung FloatKind.f32.format y ≤ FloatKind.f32.format.infRung - 1 by omega)
  rw [V32_max] at vy
  obtain ⟨m, u, e1, h1⟩ := read_any32 hx
  obtain ⟨n, v, e2, h2⟩ := read_any32 hy
  rw [← h1] at vx
  rw [← h2] at vy
  have e3 : (min (-149 + (u : Int)) (-149 + (v : Int)) - (-149)).toNat = min u v := by omega
  have e4 : (-149 - min (-149 + (u : Int)) (-149 + (v : Int))).toNat = 0 := by omega
  have f1 : ((-149 : Int) + (u : Int) - min (-149 + (u : Int)) (-149 + (v : Int))).toNat = u - min u v := by omega
  have f2 : ((-149 : Int) + (v : Int) - min (-149 + (u : Int)) (-149 + (v : Int))).toNat = v - min u v := by omega
  generalize hq : signed (neg FloatKind.f32.format x) m (u - min u v) + signed (neg FloatKind.f32.format y) n (v - min u v) = q
  have hqE : signed (neg FloatKind.f32.format x) m u + signed (neg FloatKind.f32.format y) n v = q * 2 ^ (min u v) := by
    rw [← hq, Int.add_mul, ← signed_up, ← signed_up, show u - min u v + min u v = u by omega, show v - min u v + min u v = v by omega]
  have er : fop .add .f32 x y = FloatKind.f32.format.nearest (if q = 0 then neg FloatKind.f32.format x && neg FloatKind.f32.format y else decide (q < 0)) q.natAbs (min (-149 + (u : Int)) (-149 + (v : Int))) := by
    unfold fop floatBits Format.add
    rw [e1, e2]
    unfold Datum.sum
    dsimp only
    rw [f1, f2, hq]
    rfl
  have hab : q.natAbs * 2 ^ (min u v) ≤ m * 2 ^ u + n * 2 ^ v := by
    have g : q.natAbs * 2 ^ (min u v) = (q * 2 ^ (min u v)).natAbs := by rw [Int.natAbs_mul, Int.natAbs_pow]; rfl
    rw [g, ← hqE]
    have := Int.natAbs_add_le (signed (neg FloatKind.f32.format x) m u) (signed (neg FloatKind.f32.format y) n v)
    rwa [signed_abs, signed_abs] at this
  rw [er, nearest_rung]
  split
  · decide
  rename_i h0
  have hm := rnd_mid FloatKind.f32.format (if q = 0 then neg FloatKind.f32.format x && neg FloatKind.f32.format y else decide (q < 0)) (r := FloatKind.f32.format.infRung - 1) (place := min (-149 + (u : Int)) (-149 + (v : Int))) h0 (by
    rw [lp32, e3, e4, Nat.pow_zero, Nat.mul_one, V32_max, V32_inf, Nat.mul_assoc]
    have k1 : p2 277 = 16777216 * p2 253 := by rw [show (277 : Nat) = 24 + 253 from rfl, p2_add, show p2 24 = 16777216 by decide]
    have k2 : 4 * p2 153 < p2 253 := by
      have := p2_lt (show 2 + 153 < 253 by decide)
      rwa [p2_add, show p2 2 = 4 by decide] at this
    generalize p2 277 = P at *
    generalize p2 253 = Q at *
    generalize p2 153 = R at *
    generalize q.natAbs * 2 ^ (min u v) = Z at *
    omega)
  have h9 : 0 < FloatKind.f32.format.infRung := by decide
  exact Nat.lt_of_le_of_lt (Nat.min_le_left _ _) (Nat.lt_of_le_of_lt hm (Nat.sub_lt h9 (by decide)))

def wq (k n : Int) : Nat := fop .quo .f32 (fop .add .f32 (floatOfInt .f32 k) 1056964608) (floatOfInt .f32 n)
def wx (a m n : Int) (X : Nat) (k : Int) : Nat := fop .add .f32 (fop .mul .f32 (floatOfInt .f32 a) (wq k n)) (fop .mul .f32 X (sineT (fop .mul .f32 (floatOfInt .f32 m) (wq k n))))
def wy (b : Int) : Nat := fop .quo .f32 (floatOfInt .f32 b) 1073741824
def KWv (a b m n : Int) (X S : Nat) (j : Nat) : Pb := ⟨wx a m n X (j : Int), wy b, S, 0⟩

theorem wq_all : ∀ n : Fin 65, ∀ k : Fin 64, k.val < n.val → rung FloatKind.f32.format (wq (k.val : Int) (n.val : Int)) ≤ 1065353216 := by decide +kernel
theorem int_all : ∀ a : Fin 17, rung FloatKind.f32.format (floatOfInt .f32 (a.val : Int)) ≤ 1098907648 := by decide +kernel
theorem wy_all : ∀ b : Fin 17, fin .f32 (wy (b.val : Int)) = true := by decide +kernel

theorem wx_fin {a m n : Int} {X : Nat} {k : Int} (ha : 0 ≤ a ∧ a ≤ 16) (hm : 0 ≤ m ∧ m ≤ 16) (hn : n ≤ 64) (hk : 0 ≤ k ∧ k < n) (hX : fin .f32 X = true) : fin .f32 (wx a m n X k) = true := by
  have one_lt : 1065353216 < FloatKind.f32.format.infRung := by decide
  have x16_lt : 1098907648 < FloatKind.f32.format.infRung := by decide
  obtain ⟨a', rfl⟩ := Int.eq_ofNat_of_zero_le ha.1
  obtain ⟨m', rfl⟩ := Int.eq_ofNat_of_zero_le hm.1
  obtain ⟨k', rfl⟩ := Int.eq_ofNat_of_zero_le hk.1
  obtain ⟨n', rfl⟩ := Int.eq_ofNat_of_zero_le (show 0 ≤ n by omega)
  have hq := wq_all ⟨n', by omega⟩ ⟨k', by omega⟩ (by show k' < n'; omega)
  have ia := int_all ⟨a', by omega⟩
  have im := int_all ⟨m', by omega⟩
  dsimp only at hq ia im
  unfold wx
  generalize wq (k' : Int) (n' : Int) = Q at *
  generalize floatOfInt .f32 (a' : Int) = A at *
  generalize floatOfInt .f32 (m' : Int) = M at *
  have vq := V_le FloatKind.f32.format hq
  rw [V32_one] at vq
  have hA := mul32_le (x := A) (y := Q) (r := 1098907648) (Nat.lt_of_le_of_lt ia x16_lt) (Nat.lt_of_le_of_lt hq one_lt) (Nat.mul_le_mul (V_le _ ia) vq)
  have hM := mul32_le (x := M) (y := Q) (r := 1098907648) (Nat.lt_of_le_of_lt im x16_lt) (Nat.lt_of_le_of_lt hq one_lt) (Nat.mul_le_mul (V_le _ im) vq)
  have hM2 : fin .f32 (fop .mul .f32 M Q) = true := decide_eq_true (Nat.lt_of_le_of_lt hM x16_lt)
  have hs := sineT_small (X := fop .mul .f32 M Q) (by rw [fin_wid]; exact hM2)
  generalize sineT (fop .mul .f32 M Q) = S at *
  have vs := V_le FloatKind.f32.format hs
  rw [V32_one] at vs
  have hX2 : rung FloatKind.f32.format X < FloatKind.f32.format.infRung := of_decide_eq_true hX
  have hP := mul32_le (x := X) (y := S) (r := rung FloatKind.f32.format X) hX2 (Nat.lt_of_le_of_lt hs one_lt) (Nat.mul_le_mul (Nat.le_refl _) vs)
  exact decide_eq_true (add32_fin (Nat.lt_of_le_of_lt hA x16_lt) (Nat.lt_of_le_of_lt hP hX2) hA)

theorem kw_ok {a b m n : Int} {X S j : Nat} (ha : 0 ≤ a ∧ a ≤ 16) (hb : 0 ≤ b ∧ b ≤ 16) (hm : 0 ≤ m ∧ m ≤ 16) (hn : n ≤ 64) (hj : (j : Int) < n) (hX : fin .f32 X = true) (hS : fin .f32 S = true) : okPb (KWv a b m n X S j) = true := by
  obtain ⟨b', rfl⟩ := Int.eq_ofNat_of_zero_le hb.1
  have h1 := wx_fin (k := (j : Int)) ha hm hn ⟨by omega, hj⟩ hX
  have h2 := wy_all ⟨b', by omega⟩
  have h3 : fin .f32 0 = true := by decide +kernel
  unfold okPb KWv
  dsimp only at h2 ⊢
  rw [h1, h2, hS, h3]
  rfl
end Go.Proofs.Ytlfnbnhbobohlaa
namespace Go.Proofs.Ytlfnbnhbobohlaa
open Go.Fl Go.RowKit
open Go.Joins (ownsRow_le)
set_option linter.unusedSimpArgs false
set_option linter.unusedVariables false

def okWP (a b c m : Int) (X S : Nat) : Bool := gridOk a b && (decide (1 ≤ c ∧ c ≤ 64) && (decide (0 ≤ m ∧ m ≤ a) && (fin .f32 X && fin .f32 S)))
theorem okWP_yes {a b c m : Int} {X S : Nat} (h1 : gridOk a b = true) (h0 : decide (1 ≤ c ∧ c ≤ 64) = true) (h2 : decide (0 ≤ m ∧ m ≤ a) = true) (h3 : fin .f32 X = true) (h4 : fin .f32 S = true) : okWP a b c m X S = true := by unfold okWP; rw [h1, h0, h2, h3, h4]; rfl
theorem okWP_no {a b c m : Int} {X S : Nat} (h : gridOk a b = false ∨ decide (1 ≤ c ∧ c ≤ 64) = false ∨ decide (0 ≤ m ∧ m ≤ a) = false ∨ fin .f32 X = false ∨ fin .f32 S = false) : okWP a b c m X S = false := by
  unfold okWP; rcases h with h | h | h | h | h <;> rw [h] <;> simp
def WPRes (a b c m : Int) (X S B : Nat) (e : Ending) (w' : World) : Prop := ∃ (v : Value) (ts : List Pb), (okWP a b c m X S = true → (ts.length : Int) = c) ∧ (okWP a b c m X S = false → ts = []) ∧ BOwn B w' v ts ∧ EqP ts (KWv a b m c X S) ∧ e = .returned (.tuple #[v, .bool (okWP a b c m X S)])
theorem wp_none {a b c m : Int} {X S B : Nat} {w' : World} (h : okWP a b c m X S = false) : WPRes a b c m X S B (.returned (.tuple #[.slice none 0 0, .bool false])) w' := by
  unfold WPRes
  rw [h]
  exact ⟨_, [], fun h2 => (by cases h2), fun _ => rfl, World.ownsRow_nil _ _ _ _, EqP.nil _, rfl⟩

theorem half_any (x X : Nat) (ix : Is .f32 x X) (w : World) : Calls Try.prog 86 #[.float .f32 x] w fun e w' => (∃ r, e = .returned (.float .f32 r) ∧ Is .f32 r (fop .quo .f32 X 1073741824)) ∧ ∃ n, w' = w.drewN n := by
  have i2 : Is .f32 1073741824 1073741824 := Is.const (by decide)
  go_enter Try.func86, Try.ntmps86
  go_wp2_with (apply wpList_farith; rfl; rfl; rfl; rfl; (first | with_reducible assumption | exact Is.const rfl); (first | with_reducible assumption | exact Is.const rfl); intro r n hr)
  go_ret
  exact ⟨⟨_, rfl, by assumption⟩, _, rfl⟩

set_option maxHeartbeats 4000000 in
set_option maxRecDepth 100000 in
theorem iWaveP_any (a b c m : Int) (x X y S : Nat) (w : World) (hc : -9223372036854775808 ≤ c ∧ c ≤ 9223372036854775807) (hm : -9223372036854775808 ≤ m ∧ m ≤ 9223372036854775807) (ix : Is .f32 x X) (iy : Is .f32 y S) :
    Calls Try.prog 35 #[GV a b, .int .i64 c, .int .i64 m, .float .f32 x, .float .f32 y] w fun e w' => WPRes a b c m X S w.heap.size e w' ∧ Below w.heap.size w w' := by
  have HCR := Lib.hid hc; have HM := Lib.hid hm; have IX := Lib.hid ix; have IY := Lib.hid iy
  clear hc hm ix iy
  have HG := Lib.hid (gp_new w a b 27)
  have HB := Lib.hid ((Below.refl w.heap.size w).alloc (Nat.le_refl _) (.cells #[.int .i64 a, .int .i64 b] 27))
  have HGN := Lib.hid (show (w.alloc (.cells #[.int .i64 a, .int .i64 b] 27)).heap[w.heap.size]? = some (.cells #[.int .i64 a, .int .i64 b] 27) from heap_alloc_new w _)
  have HLT := Lib.hid (show w.heap.size < (w.alloc (.cells #[.int .i64 a, .int .i64 b] 27)).heap.size by simp)
  obtain ⟨c0, c1⟩ := HG.out.cells
  go_enter Try.func35, Try.ntmps35
  go_wp2_with fail
  clear c0 c1
  generalize w.alloc (.cells #[.int .i64 a, .int .i64 b] 27) = w1 at HB HG HGN HLT ⊢
  have HC := Lib.hid (show ∀ w', Below w1.heap.size w1 w' → w'.cell? ⟨w.heap.size, 0, none⟩ = some (.int .i64 a) ∧ w'.cell? ⟨w.heap.size, 1, none⟩ = some (.int .i64 b) from fun w' hb => HG.out.ever w' hb)
  cases h1 : gridOk a b with
  | false =>
    have HR := Lib.hid (okWP_no (c := c) (m := m) (X := X) (S := S) (.inl h1))
    refine (iValidGrid_any a b _).mono ?_; rw [h1]; rintro e w2 ⟨rfl, hb2⟩
    clear h1
    go_wp2_with fail
    go_ret2
    exact ⟨wp_none HR.out, HB.out.trans (hb2.mono HB.out.size)⟩
  | true =>
    have H1 := Lib.hid h1
    have HA := Lib.hid (gridOk_true h1)
    refine (iValidGrid_any a b _).mono ?_; rw [h1]; rintro e w2 ⟨rfl, hb2⟩
    have HB2 := Lib.hid hb2
    clear h1 hb2
    go_wp2_with fail
    have HB3 := Lib.hid (HB2.out.alloc HB2.out.size (.cells #[.int .i64 1, .int .i64 c, .int .i64 64] 2))
    have hnew := heap_alloc_new w2 (.cells #[.int .i64 1, .int .i64 c, .int .i64 64] 2)
    cases h0 : decide (1 ≤ c ∧ c ≤ 64) with
    | false =>
      have HR := Lib.hid (okWP_no (a := a) (b := b) (m := m) (X := X) (S := S) (.inr (.inl h0)))
      refine (ascend3 1 c 64 _ 2 _ hnew (by omega) HCR.out (by omega)).mono ?_; rw [h0]; rintro e w' ⟨rfl, k, rfl⟩
      clear h0 hnew
      go_wp2_with fail
      go_ret2
      exact ⟨wp_none HR.out, HB.out.trans ((below_drewN HB3.out k).mono HB.out.size)⟩
    | true =>
    have H0 := Lib.hid h0
    refine (ascend3 1 c 64 _ 2 _ hnew (by omega) HCR.out (by omega)).mono ?_; rw [h0]; rintro e w' ⟨rfl, k, rfl⟩
    have HB4 := Lib.hid (below_drewN HB3.out k)
    obtain ⟨c0, c1⟩ := HC.out _ HB4.out
    clear h0 hnew
    generalize (w2.alloc (.cells #[.int .i64 1, .int .i64 c, .int .i64 64] 2)).drewN k = w4 at HB4 c0 c1 ⊢
    go_wp2_with fail
    clear c0 c1
    have HB5 := Lib.hid (HB4.out.alloc HB4.out.size (.cells #[.int .i64 0, .int .i64 m, .int .i64 a] 2))
    have hnew := heap_alloc_new w4 (.cells #[.int .i64 0, .int .i64 m, .int .i64 a] 2)
    cases h2 : decide (0 ≤ m ∧ m ≤ a) with
    | false =>
      have HR := Lib.hid (okWP_no (b := b) (c := c) (X := X) (S := S) (.inr (.inr (.inl h2))))
      refine (ascend3 0 m a _ 2 _ hnew (by omega) HM.out (by have := HA.out; omega)).mono ?_; rw [h2]; rintro e w' ⟨rfl, k, rfl⟩
      clear h2 hnew
      go_wp2_with fail
      go_ret2
      exact ⟨wp_none HR.out, HB.out.trans ((below_drewN HB5.out k).mono HB.out.size)⟩
    | true =>
    have H2 := Lib.hid h2
    refine (ascend3 0 m a _ 2 _ hnew (by omega) HM.out (by have := HA.out; omega)).mono ?_; rw [h2]; rintro e w' ⟨rfl, k, rfl⟩
    have HB6 := Lib.hid (below_drewN HB5.out k)
    clear h2 hnew
    generalize (w4.alloc (.cells #[.int .i64 0, .int .i64 m, .int .i64 a] 2)).drewN k = w6 at HB6 ⊢
    go_wp2_with fail
    have HB7 := Lib.hid (HB6.out.alloc HB6.out.size (.cells #[.float .f32 x, .float .f32 y] 46))
    have hnew := heap_alloc_new w6 (.cells #[.float .f32 x, .float .f32 y] 46)
    refine (areFinite2 x X y S _ 46 _ hnew IX.out IY.out).mono ?_
    clear hnew
    cases h3 : (fin .f32 X && fin .f32 S) with
    | false =>
      have HR := Lib.hid (okWP_no (a := a) (b := b) (c := c) (m := m) (X := X) (S := S) (by
        cases h5 : fin .f32 X with
        | false => exact .inr (.inr (.inr (.inl rfl)))
        | true => rw [h5, Bool.true_and] at h3; exact .inr (.inr (.inr (.inr h3)))))
      rintro e w' ⟨rfl, n, rfl⟩
      clear h3
      go_wp2_with fail
      go_ret2
      exact ⟨wp_none HR.out, HB.out.trans ((below_drewN HB7.out n).mono HB.out.size)⟩
    | true =>
    rw [Bool.and_eq_true] at h3
    have HR := Lib.hid (okWP_yes H1.out H0.out H2.out h3.1 h3.2)
    rintro e w' ⟨rfl, n, rfl⟩
    have HB8 := Lib.hid (below_drewN HB7.out n)
    clear h3
    generalize (w6.alloc (.cells #[.float .f32 x, .float .f32 y] 46)).drewN n = w8 at HB8 ⊢
    obtain ⟨N, rfl⟩ := Int.eq_ofNat_of_zero_le (show 0 ≤ c by have := of_decide_eq_true H0.out; omega)
    have hN64 : 1 ≤ N ∧ N ≤ 64 := by have := of_decide_eq_true H0.out; omega
    obtain ⟨ti, hi, hz0, hz1, hz2⟩ := info_parts PTinfo
    have hb4 : ti.bytes * N ≤ 281474976710656 := by rw [hz2]; omega
    have hml : N ≤ maxLen := by unfold maxLen; omega
    have HI := Lib.hid hi; have HZ0 := Lib.hid hz0; have HZ1 := Lib.hid hz1
    have HW8 := Lib.hid (show w.heap.size < w8.heap.size from Nat.lt_of_lt_of_le HLT.out HB8.out.size)
    have HG8 := Lib.hid (show w8.heap[w.heap.size]? = some (.cells #[.int .i64 a, .int .i64 b] 27) from (HB8.out.block _ HLT.out).trans HGN.out)
    have HB9 := Lib.hid (HB.out.trans (HB8.out.mono HB.out.size))
    clear hi hz0 hz1 hz2 HB8 HB7 HB6 HB5 HB4 HB3 HB2 HC HG HGN HLT HB
    go_wp2_with (at_make; refine wpList_make_full _ rfl _ _ 49 rfl w.heap.size 72 ti (.agg ZC) 4 Try.underlying49 HI.out HZ0.out HZ1.out _ _ _ _ N rfl rfl rfl rfl hb4 hml (by have := HB9.out.size; omega) ?_; intro v5 hown hgrow)
    rw [cells4_zero] at hown
    generalize hgf : w8.heap.size = gf at hown ⊢
    have HGF := Lib.hid hgf
    clear hgf
    have HO0 := Lib.hid (show R4Own w.heap.size v5 (.slice (some ⟨gf, 0, none⟩) N N) (padTo (([] : List Pb).map Pb.r4) N) by unfold R4Own; rw [List.map_nil, padTo_nil, List.length_replicate]; exact hown)
    have HB5 := Lib.hid (HB9.out.grown hgrow HB9.out.size (fun k h => by cases h))
    have hb15 := (Below.grown (Below.refl w8.heap.size w8) hgrow (Nat.le_refl _) (fun k h => by cases h))
    have HX5 := Lib.hid ((hb15.block w.heap.size HW8.out).trans HG8.out)
    have HZ5 := Lib.hid (show w.heap.size < v5.heap.size from Nat.lt_of_lt_of_le HW8.out hgrow.size)
    have HPF := Lib.hid (fun w' (G : v5.grownBy w' (some gf)) => (show w'.heap[w.heap.size]? = some (.cells #[.int .i64 a, .int .i64 b] 27) from
      (G.block w.heap.size HZ5.out (fun e => by have h8 : w.heap.size = gf := Option.some.inj e; have := HGF.out; have := HW8.out; omega)).trans HX5.out))
    clear HX5 hown hgrow hb4 hml HI HZ0 HZ1 HG8 hb15
    have ia := int32_is a; have ib := int32_is b; have iN := int32_is (N : Int); have im := int32_is m
    have HS := Lib.hid iSineTurns_any
    go_loopw [44] (fun i wr => ∃ k : Nat, k ≤ N ∧ i = .int .i64 (k : Int) ∧ Hid (v5.grownBy wr (some gf)) ∧ ∃ ts : List Pb, ts.length = k ∧ Hid (EqP ts (KWv a b m (N : Int) X S)) ∧ Hid (R4Own w.heap.size wr (.slice (some ⟨gf, 0, none⟩) N N) (padTo (ts.map Pb.r4) N))) (fun i _ => N - (intOf i).toNat)
    case atStart => exact ⟨0, Nat.zero_le _, rfl, Lib.hid (grown_refl _ _), [], rfl, Lib.hid (EqP.nil _), HO0⟩
    case round =>
      clear HO0
      obtain ⟨k, hk, rfl, HG, ts, htl, HE, HR2⟩ := hrel
      by_cases hlt : k < N
      · have hl2 : (ts.map Pb.r4).length = k := by rw [List.length_map]; exact htl
        have HLT := Lib.hid (show k < (padTo (ts.map Pb.r4) N).length by rw [padTo_len (by omega)]; exact hlt)
        obtain ⟨⟨d0, d1, d2, d3⟩, ⟨f0, f1, f2, f3⟩⟩ := r4_cells HR2.out HLT.out
        have HZR := Lib.hid (show (padTo (ts.map Pb.r4) N)[k]'(HLT.out) = ZR4 from by
          have := padTo_at (rs := ts.map Pb.r4) (n := N) (by omega)
          simpa only [hl2] using this)
        rw [HZR.out] at d0 d1 d2 d3
        unfold ZR4 at d0 d1 d2 d3
        dsimp only at d0 d1 d2 d3
        have hgc := HPF.out _ HG.out
        have g0 : wr.cell? ⟨w.heap.size, 0, none⟩ = some (.int .i64 a) := by rw [Joins.cell_of_block hgc]; rfl
        have g1 : wr.cell? ⟨w.heap.size, 1, none⟩ = some (.int .i64 b) := by rw [Joins.cell_of_block hgc]; rfl
        have ik := int32_is (k : Int)
        have i05 : Is .f32 1056964608 1056964608 := Is.const (by decide)
        have hkN : (k : Int) < (N : Int) := by omega
        have hHL := Lib.hid hl2
        have HTL := Lib.hid htl
        clear hgc hl2 htl
        have ix := IX.out
        have HRD := Lib.hid (fun m => (show R4Own w.heap.size (wr.drewN m) (.slice (some ⟨gf, 0, none⟩) N N) (padTo (ts.map Pb.r4) N) from HR2.out))
        have HGD := Lib.hid (fun m => grown_trans HG.out (grown_below (row := some gf) (below_drewN (Below.refl wr.heap.size wr) m)))
        have HPS := Lib.hid (fun (t : Pb) => (show (padTo (ts.map Pb.r4) N).set k t.r4 = padTo ((ts ++ [t]).map Pb.r4) N from by
          have := padTo_set (rs := ts.map Pb.r4) (n := N) (by rw [hHL.out]; exact hlt) t.r4
          rw [hHL.out] at this
          rw [this, List.map_append]; rfl))
        have HEE := Lib.hid (fun (t : Pb) (ht : IsP t (KWv a b m (N : Int) X S k)) => (show EqP (ts ++ [t]) (KWv a b m (N : Int) X S) from HE.out.snoc (by rw [HTL.out]; exact ht)))
        have HI0 := Lib.hid (show Is .f32 0 0 from Is.const (by decide +kernel))
        have HKEY := Lib.hid (show ∀ p q d, Is .f32 p (fop .add .f32 (fop .mul .f32 (floatOfInt .f32 a) (fop .quo .f32 (fop .add .f32 (floatOfInt .f32 (k : Int)) 1056964608) (floatOfInt .f32 (N : Int)))) (fop .mul .f32 X (sineT (fop .mul .f32 (floatOfInt .f32 m) (fop .quo .f32 (fop .add .f32 (floatOfInt .f32 (k : Int)) 1056964608) (floatOfInt .f32 (N : Int))))))) → Is .f32 q (fop .quo .f32 (floatOfInt .f32 b) 1073741824) →
            v5.grownBy (((((wr.drewN d).setCell ⟨gf, k * 4, none⟩ (.complex .f32 p q)).setCell ⟨gf, k * 4 + 1, none⟩ (.complex .f32 y 0)).setCell ⟨gf, k * 4 + 2, none⟩ (.float .f32 1065353216)).setCell ⟨gf, k * 4 + 3, none⟩ (.float .f32 1065353216)) (some gf) ∧ ∃ us : List Pb, us.length = k + 1 ∧ EqP us (KWv a b m (N : Int) X S) ∧
              R4Own w.heap.size (((((wr.drewN d).setCell ⟨gf, k * 4, none⟩ (.complex .f32 p q)).setCell ⟨gf, k * 4 + 1, none⟩ (.complex .f32 y 0)).setCell ⟨gf, k * 4 + 2, none⟩ (.float .f32 1065353216)).setCell ⟨gf, k * 4 + 3, none⟩ (.float .f32 1065353216)) (.slice (some ⟨gf, 0, none⟩) N N) (padTo (us.map Pb.r4) N) from fun p q d hx hy => by
          obtain ⟨h1, h2⟩ := r4_set (HRD.out d) HLT.out (⟨p, q, y, 0⟩ : Pb).r4
          rw [HPS.out] at h1
          exact ⟨grown_trans (HGD.out d) h2, ts ++ [(⟨p, q, y, 0⟩ : Pb)], by simp [HTL.out], HEE.out (⟨p, q, y, 0⟩ : Pb) ⟨hx, hy, IY.out, HI0.out⟩, h1⟩)
        clear HR2 HG HE
        go_wp2_with (first | (apply wpList_farith; rfl; rfl; rfl; rfl; (first | with_reducible assumption | exact Is.const rfl); (first | with_reducible assumption | exact Is.const rfl); intro r n hr) | (apply wpList_same; rfl; rfl; exact U32; exact U32) | ((with_reducible apply Loose.wp_start); kernel_rfl; kernel_rfl) | ((with_reducible apply Loose.start_cons)) | ((with_reducible apply Loose.start_nil)) | ((with_reducible apply Loose.walk_nil); intro n) | ((with_reducible apply Loose.walk_skip); exact rfl; (go_simp; first | done | exact rfl)) | ((with_reducible apply Loose.step_fc); rfl; rfl; rfl; rfl; (first | with_reducible assumption | exact Is.const rfl); (first | with_reducible assumption | exact Is.const rfl); (first | with_reducible assumption | exact rfl); exact rfl; (go_simp; first | done | exact rfl)) | ((with_reducible apply Loose.step_fa); rfl; rfl; rfl; rfl; (first | with_reducible assumption | exact Is.const rfl); (first | with_reducible assumption | exact Is.const rfl); exact rfl; (intro r; go_simp; first | done | exact rfl); intro r hr) | ((with_reducible apply Loose.step_wid); rfl; rfl; (first | with_reducible assumption | exact Is.const rfl); exact U32; exact U64; exact rfl; (intro r; go_simp; first | done | exact rfl); intro r hr) | ((with_reducible apply Loose.step_nar); rfl; rfl; (first | with_reducible assumption | exact Is.const rfl); exact U64; exact U32; (with_reducible assumption); exact rfl; (intro r; go_simp; first | done | exact rfl); intro r hr) | ((with_reducible apply Loose.step_assign); rfl; rfl; (with_reducible assumption); exact rfl; (intro r; go_simp; first | done | exact rfl); intro r hr) | ((with_reducible apply Loose.step_move); rfl; rfl; (with_reducible assumption); exact rfl; (intro r; go_simp; first | done | exact rfl); intro r hr) | ((with_reducible apply Loose.step_same); rfl; rfl; exact U32; exact U32; (first | with_reducible assumption | exact Is.const rfl); exact rfl; (intro r; go_simp; first | done | exact rfl); intro r hr) | ((with_reducible apply Loose.step_same); rfl; rfl; exact U64; exact U64; (first | with_reducible assumption | exact Is.const rfl); exact rfl; (intro r; go_simp; first | done | exact rfl); intro r hr) | ((with_reducible apply Loose.step_callF); rfl; (intro n; go_simp; first | exact ⟨rfl, rfl⟩ | exact rfl); (intro n; go_at_call 84; exact HS.out _ _ (by assumption) _); exact rfl; (intro r; go_simp; first | done | exact rfl); intro r hr) | ((with_reducible apply Loose.step_eq); rfl; (intro n; go_simp; first | done | exact rfl); exact rfl; (go_simp; first | done | exact rfl)))
        refine (half_any _ _ ib _).mono ?_; rintro e w' ⟨⟨rh, rfl, hrh⟩, k9, rfl⟩
        go_wp2_with fail
        obtain ⟨G9, us, hu1, hu2, hu3⟩ := HKEY.out _ _ _ (by assumption) hrh
        go_roundw
        case rel => exact ⟨k + 1, by omega, by go_num, Lib.hid G9, us, hu1, Lib.hid hu2, Lib.hid hu3⟩
        case measure => simp [intOf]; omega
      · obtain rfl : k = N := by omega
        clear hlt
        have HRB := Lib.hid (show BOwn w.heap.size wr (.slice (some ⟨gf, 0, none⟩) k k) ts from by have h1 := HR2.out; rw [padTo_all (by rw [List.length_map]; exact htl)] at h1; exact h1)
        have HTL := Lib.hid htl
        clear htl HR2
        go_wp2_with fail
        go_ret2
        refine ⟨?_, below_row HB5.out HB5.out.size (by have := HGF.out; have := HW8.out; omega) HG.out⟩
        unfold WPRes
        rw [HR.out]
        exact ⟨_, ts, fun _ => by rw [HTL.out], fun h => (by cases h), HRB.out, HE.out, rfl⟩
end Go.Proofs.Ytlfnbnhbobohlaa
namespace Go.Proofs.Ytlfnbnhbobohlaa
open Go.Fl Go.RowKit
open Go.Joins (ownsRow_le)
set_option linter.unusedSimpArgs false
set_option linter.unusedVariables false

theorem r4_start' (B : Nat) (w : World) (h : B ≤ w.heap.size) : R4Own B (w.alloc (.cells #[] 72)) (.slice (some ⟨w.heap.size, 0, none⟩) 0 0) [] :=
  World.ownsRow_made w #[] 0 h (Nat.zero_le _) rfl

set_option maxHeartbeats 4000000 in
set_option maxRecDepth 100000 in
theorem sWaveP_yes (a b m : Int) (N : Nat) (x X y S : Nat) (w : World) (ix : Is .f32 x X) (iy : Is .f32 y S) (h1 : gridOk a b = true) (h0 : decide (1 ≤ (N : Int) ∧ (N : Int) ≤ 64) = true) (h2 : decide (0 ≤ m ∧ m ≤ a) = true) (h3 : fin .f32 X = true) (h4 : fin .f32 S = true) :
    Calls Try.prog 34 #[GV a b, .int .i64 (N : Int), .int .i64 m, .float .f32 x, .float .f32 y] w fun e w' => WPRes a b (N : Int) m X S w.heap.size e w' ∧ Below w.heap.size w w' := by
  have IX := Lib.hid ix; have IY := Lib.hid iy
  have H1 := Lib.hid h1; have H2 := Lib.hid h2; have H3 := Lib.hid h3; have H4 := Lib.hid h4; have H0 := Lib.hid h0
  have HR := Lib.hid (okWP_yes h1 h0 h2 h3 h4)
  have HA := Lib.hid (gridOk_true h1)
  have HMA := Lib.hid (of_decide_eq_true h2)
  have HN1 := Lib.hid (of_decide_eq_true h0)
  have HP := Lib.hid (gp_new w a b 27)
  have HB0 := Lib.hid ((Below.refl w.heap.size w).alloc (Nat.le_refl _) (.cells #[.int .i64 a, .int .i64 b] 27))
  have c0 := HP.out.cells.1; have c1 := HP.out.cells.2
  clear h1 h2 h3 h4 h0 ix iy
  go_enter Try.func34, Try.ntmps34
  go_wp2_with fail
  clear c0 c1
  generalize w.alloc (.cells #[.int .i64 a, .int .i64 b] 27) = w1 at HB0 HP ⊢
  refine (sIs_any _ a b _ HP.out).mono ?_; rw [H1.out]; rintro e w' ⟨rfl, rfl⟩
  go_wp2_with fail
  refine (sIn_any _ 1 64 _).mono ?_; rw [H0.out]; rintro e w' ⟨rfl, rfl⟩
  have c0 := HP.out.cells.1; have c1 := HP.out.cells.2
  go_wp2_with fail
  refine (sIn_any m 0 a _).mono ?_; rw [H2.out]; rintro e w' ⟨rfl, rfl⟩
  go_wp2_with fail
  refine (sFinite5_any _ _ IX.out _).mono ?_; rw [H3.out]; rintro e w' ⟨rfl, k1, rfl⟩
  go_wp2_with fail
  refine (sFinite5_any _ _ IY.out _).mono ?_; rw [H4.out]; rintro e w' ⟨rfl, k2, rfl⟩
  have HB2 := Lib.hid (below_drewN (below_drewN HB0.out k1) k2)
  have HP2 := Lib.hid (GP.drewN (GP.drewN HP.out k1) k2)
  clear c0 c1 HP HB0
  generalize (w1.drewN k1).drewN k2 = w2 at HB2 HP2 ⊢
  go_wp2_with fail
  have HO0 := Lib.hid (r4_start' w2.heap.size w2 (Nat.le_refl _))
  have HB3 := Lib.hid ((Below.refl w2.heap.size w2).alloc (Nat.le_refl _) (.cells #[] 72))
  generalize w2.alloc (.cells #[] 72) = w3 at HO0 HB3 ⊢
  have ia := int32_is a; have ib := int32_is b; have iN := int32_is (N : Int); have im := int32_is m
  have HS := Lib.hid sSine_any
  go_loopw [12, 13] (fun l i wr => ∃ k : Nat, k ≤ N ∧ i = .int .i64 (k : Int) ∧ ∃ (gg cap : Nat) (ts : List Pb), l = .slice (some ⟨gg, 0, none⟩) k cap ∧ ts.length = k ∧ Hid (EqP ts (KWv a b m (N : Int) X S)) ∧ Hid (R4Own w2.heap.size wr (.slice (some ⟨gg, 0, none⟩) k cap) (ts.map Pb.r4)) ∧ Hid (Below w2.heap.size w2 wr)) (fun _ i _ => N - (intOf i).toNat)
  case atStart => exact ⟨0, Nat.zero_le _, rfl, _, _, [], rfl, rfl, Lib.hid (EqP.nil _), HO0, HB3⟩
  case round =>
    clear HO0 HB3
    obtain ⟨k, hk, rfl, gg, cap, ts, rfl, htl, HE, HO, HB⟩ := hrel
    have hN64 : 1 ≤ N ∧ N ≤ 64 := by have := HN1.out; omega
    have c0 := (GP.below HP2.out HB.out).cells.1; have c1 := (GP.below HP2.out HB.out).cells.2
    by_cases hlt : k < N
    · have ik := int32_is (k : Int)
      have i05 : Is .f32 1056964608 1056964608 := Is.const (by decide)
      have i2 : Is .f32 1073741824 1073741824 := Is.const (by decide)
      have ix := IX.out; have iy := IY.out
      have hkN : (k : Int) < (N : Int) := by omega
      have HTL := Lib.hid htl
      have HI0 := Lib.hid (show Is .f32 0 0 from Is.const (by decide +kernel))
      have HOK := Lib.hid (show okPb (KWv a b m (N : Int) X S k) = true from kw_ok (by have := HA.out; omega) (by have := HA.out; omega) (by have := HA.out; have := HMA.out; omega) (by omega) hkN H3.out H4.out)
      have HCALL := Lib.hid (show ∀ p q d, Is .f32 p (fop .add .f32 (fop .mul .f32 (floatOfInt .f32 a) (fop .quo .f32 (fop .add .f32 (floatOfInt .f32 (k : Int)) 1056964608) (floatOfInt .f32 (N : Int)))) (fop .mul .f32 X (sineT (fop .mul .f32 (floatOfInt .f32 m) (fop .quo .f32 (fop .add .f32 (floatOfInt .f32 (k : Int)) 1056964608) (floatOfInt .f32 (N : Int))))))) → Is .f32 q (fop .quo .f32 (floatOfInt .f32 b) 1073741824) →
          Calls Try.prog 85 #[.pointer (some ⟨wr.heap.size, 0, none⟩)] (((wr.drewN d).alloc (.cells #[.complex .f32 0 0, .complex .f32 0 0, .float .f32 0, .float .f32 0] 72)).setRow wr.heap.size #[.complex .f32 p q, .complex .f32 y 0, .float .f32 1065353216, .float .f32 1065353216])
            fun e w' => e = .returned (.bool true) ∧ ∃ t : Pb, IsP t (KWv a b m (N : Int) X S k) ∧ w'.heap[wr.heap.size]? = some (.cells #[.complex .f32 t.x t.y, .complex .f32 t.u t.v, .float .f32 1065353216, .float .f32 1065353216] 72) ∧ Below wr.heap.size wr w' from fun p q d hp hq => by
        have hcell := setRow_heap ((wr.drewN d).alloc (.cells #[.complex .f32 0 0, .complex .f32 0 0, .float .f32 0, .float .f32 0] 72)) wr.heap.size _ #[.complex .f32 p q, .complex .f32 y 0, .float .f32 1065353216, .float .f32 1065353216] _ _ (heap_alloc_new (wr.drewN d) (.cells #[.complex .f32 0 0, .complex .f32 0 0, .float .f32 0, .float .f32 0] 72))
        have hb := below_setRow ((below_drewN (Below.refl wr.heap.size wr) d).alloc (Nat.le_refl _) (.cells #[.complex .f32 0 0, .complex .f32 0 0, .float .f32 0, .float .f32 0] 72)) (Nat.le_refl _) #[.complex .f32 p q, .complex .f32 y 0, .float .f32 1065353216, .float .f32 1065353216]
        generalize ((wr.drewN d).alloc (.cells #[.complex .f32 0 0, .complex .f32 0 0, .float .f32 0, .float .f32 0] 72)).setRow wr.heap.size #[.complex .f32 p q, .complex .f32 y 0, .float .f32 1065353216, .float .f32 1065353216] = W at hcell hb ⊢
        have his : IsP (⟨p, q, y, 0⟩ : Pb) (KWv a b m (N : Int) X S k) := ⟨hp, hq, IY.out, HI0.out⟩
        have h9 := sPart_pb wr.heap.size 0 (⟨p, q, y, 0⟩ : Pb) _ his W (by rw [Joins.cell_of_block hcell]; rfl) (by rw [Joins.cell_of_block hcell]; rfl) (by rw [Joins.cell_of_block hcell]; rfl) (by rw [Joins.cell_of_block hcell]; rfl)
        rw [HOK.out] at h9
        refine h9.mono ?_
        rintro e w' ⟨rfl, n, rfl⟩
        exact ⟨rfl, (⟨p, q, y, 0⟩ : Pb), his, hcell, below_drewN hb n⟩)
      clear htl
      go_wp2_with (first
        | ((with_reducible show wpList _ _ _ (Oper.mk none (Op.store _ (Operand.tmp 16) _) _ _ _ _ :: _) _ _); refine wpList_store_row rfl 72 _ _ rfl wr.heap.size _ rfl rfl 72 _ (heap_alloc_new (wr.drewN _) _) info_pt rfl (one4 _ _ _ _ _ _) ?_)
        | (apply wpList_farith; rfl; rfl; rfl; rfl; (first | with_reducible assumption | exact Is.const rfl); (first | with_reducible assumption | exact Is.const rfl); intro r n hr) | (apply wpList_same; rfl; rfl; exact U32; exact U32) | ((with_reducible apply Loose.wp_start); kernel_rfl; kernel_rfl) | ((with_reducible apply Loose.start_cons)) | ((with_reducible apply Loose.start_nil)) | ((with_reducible apply Loose.walk_nil); intro n) | ((with_reducible apply Loose.walk_skip); exact rfl; (go_simp; first | done | exact rfl)) | ((with_reducible apply Loose.step_fc); rfl; rfl; rfl; rfl; (first | with_reducible assumption | exact Is.const rfl); (first | with_reducible assumption | exact Is.const rfl); (first | with_reducible assumption | exact rfl); exact rfl; (go_simp; first | done | exact rfl)) | ((with_reducible apply Loose.step_fa); rfl; rfl; rfl; rfl; (first | with_reducible assumption | exact Is.const rfl); (first | with_reducible assumption | exact Is.const rfl); exact rfl; (intro r; go_simp; first | done | exact rfl); intro r hr) | ((with_reducible apply Loose.step_wid); rfl; rfl; (first | with_reducible assumption | exact Is.const rfl); exact U32; exact U64; exact rfl; (intro r; go_simp; first | done | exact rfl); intro r hr) | ((with_reducible apply Loose.step_nar); rfl; rfl; (first | with_reducible assumption | exact Is.const rfl); exact U64; exact U32; (with_reducible assumption); exact rfl; (intro r; go_simp; first | done | exact rfl); intro r hr) | ((with_reducible apply Loose.step_assign); rfl; rfl; (with_reducible assumption); exact rfl; (intro r; go_simp; first | done | exact rfl); intro r hr) | ((with_reducible apply Loose.step_move); rfl; rfl; (with_reducible assumption); exact rfl; (intro r; go_simp; first | done | exact rfl); intro r hr) | ((with_reducible apply Loose.step_same); rfl; rfl; exact U32; exact U32; (first | with_reducible assumption | exact Is.const rfl); exact rfl; (intro r; go_simp; first | done | exact rfl); intro r hr) | ((with_reducible apply Loose.step_same); rfl; rfl; exact U64; exact U64; (first | with_reducible assumption | exact Is.const rfl); exact rfl; (intro r; go_simp; first | done | exact rfl); intro r hr) | ((with_reducible apply Loose.step_callF); rfl; (intro n; go_simp; first | exact ⟨rfl, rfl⟩ | exact rfl); (intro n; go_at_call 79; exact HS.out _ _ (by assumption) _); exact rfl; (intro r; go_simp; first | done | exact rfl); intro r hr) | ((with_reducible apply Loose.step_eq); rfl; (intro n; go_simp; first | done | exact rfl); exact rfl; (go_simp; first | done | exact rfl)))
      refine (HCALL.out _ _ _ (by assumption) (by assumption)).mono ?_
      rintro e w9 ⟨rfl, t, HIS, hcell, hb9⟩
      have p0 : w9.cell? ⟨wr.heap.size, 0, none⟩ = some (.complex .f32 t.x t.y) := by rw [Joins.cell_of_block hcell]; rfl
      have p1 : w9.cell? ⟨wr.heap.size, 1, none⟩ = some (.complex .f32 t.u t.v) := by rw [Joins.cell_of_block hcell]; rfl
      have p2 : w9.cell? ⟨wr.heap.size, 2, none⟩ = some (.float .f32 1065353216) := by rw [Joins.cell_of_block hcell]; rfl
      have p3 : w9.cell? ⟨wr.heap.size, 3, none⟩ = some (.float .f32 1065353216) := by rw [Joins.cell_of_block hcell]; rfl
      have HBA := Lib.hid (hb9.alloc hb9.size (.cells #[.complex .f32 t.x t.y, .complex .f32 t.u t.v, .float .f32 1065353216, .float .f32 1065353216] 72))
      have HOA := Lib.hid (r4_below HO.out HBA.out)
      have HB9 := Lib.hid (HB.out.trans (HBA.out.mono HB.out.size))
      have HEE := Lib.hid (HE.out.snoc (t := t) (by rw [HTL.out]; exact HIS))
      have hk1000 : k ≤ 1000 := by omega
      have HLL := Lib.hid (show (ts.map Pb.r4).length = k by rw [List.length_map]; exact HTL.out)
      clear hcell hb9 c0 c1 HIS HO HE HCALL HOK
      go_wp2_with (at_builtin; refine wpList_app4 rfl _ _ rfl w2.heap.size (.slice (some ⟨gg, 0, none⟩) k cap) k (ts.map Pb.r4) rfl HOA.out HLL.out w9.heap.size 1 rfl _ _ _ _ (heap_alloc_new w9 _) rfl rfl rfl rfl hk1000 HB9.out.size ?_; intro g' cap' w' hown hgrow)
      have HBN := Lib.hid (HB9.out.grown hgrow HB9.out.size (fun j hj => (HOA.out.lt j hj).1))
      have HON := Lib.hid (show R4Own w2.heap.size w' (.slice (some ⟨g', 0, none⟩) (k + 1) cap') ((ts ++ [t]).map Pb.r4) from by rw [List.map_append]; exact hown)
      have HTN := Lib.hid (show (ts ++ [t]).length = k + 1 by rw [List.length_append, List.length_singleton, HTL.out])
      clear hown hgrow p0 p1 p2 p3
      go_wp2
      go_roundw
      case rel => exact ⟨k + 1, by omega, by go_num, g', cap', ts ++ [t], rfl, HTN.out, HEE, HON, HBN⟩
      case measure => simp [intOf]; omega
    · obtain rfl : k = N := by omega
      clear hlt
      have HTL := Lib.hid htl
      have HRB := Lib.hid (show BOwn w.heap.size wr (.slice (some ⟨gg, 0, none⟩) k cap) ts from ownsRow_le HO.out HB2.out.size)
      clear htl HO
      go_wp2_with fail
      go_ret2
      refine ⟨?_, HB2.out.trans (HB.out.mono HB2.out.size)⟩
      unfold WPRes
      rw [HR.out]
      exact ⟨_, ts, fun _ => by rw [HTL.out], fun h => (by cases h), HRB.out, HE.out, rfl⟩

set_option maxHeartbeats 2000000 in
set_option maxRecDepth 100000 in
theorem sWaveP_any (a b c m : Int) (x X y S : Nat) (w : World) (ix : Is .f32 x X) (iy : Is .f32 y S) :
    Calls Try.prog 34 #[GV a b, .int .i64 c, .int .i64 m, .float .f32 x, .float .f32 y] w fun e w' => WPRes a b c m X S w.heap.size e w' ∧ Below w.heap.size w w' := by
  have IX := Lib.hid ix; have IY := Lib.hid iy
  cases h1 : gridOk a b with
  | false =>
    have HR := Lib.hid (okWP_no (c := c) (m := m) (X := X) (S := S) (.inl h1))
    have H1 := Lib.hid h1
    clear h1
    have HP := Lib.hid (gp_new w a b 27)
    have HB0 := Lib.hid ((Below.refl w.heap.size w).alloc (Nat.le_refl _) (.cells #[.int .i64 a, .int .i64 b] 27))
    have c0 := HP.out.cells.1; have c1 := HP.out.cells.2
    clear ix iy
    go_enter Try.func34, Try.ntmps34
    go_wp2_with fail
    clear c0 c1
    generalize w.alloc (.cells #[.int .i64 a, .int .i64 b] 27) = w1 at HB0 HP ⊢
    refine (sIs_any _ a b _ HP.out).mono ?_; rw [H1.out]; rintro e w' ⟨rfl, rfl⟩
    go_wp2_with fail
    go_ret2
    exact ⟨wp_none HR.out, HB0.out⟩
  | true =>
  have H1 := Lib.hid h1
  cases h0 : decide (1 ≤ c ∧ c ≤ 64) with
  | false =>
    have HR := Lib.hid (okWP_no (a := a) (b := b) (m := m) (X := X) (S := S) (.inr (.inl h0)))
    have H0 := Lib.hid h0
    clear h1 h0
    have HP := Lib.hid (gp_new w a b 27)
    have HB0 := Lib.hid ((Below.refl w.heap.size w).alloc (Nat.le_refl _) (.cells #[.int .i64 a, .int .i64 b] 27))
    have c0 := HP.out.cells.1; have c1 := HP.out.cells.2
    clear ix iy
    go_enter Try.func34, Try.ntmps34
    go_wp2_with fail
    clear c0 c1
    generalize w.alloc (.cells #[.int .i64 a, .int .i64 b] 27) = w1 at HB0 HP ⊢
    refine (sIs_any _ a b _ HP.out).mono ?_; rw [H1.out]; rintro e w' ⟨rfl, rfl⟩
    go_wp2_with fail
    refine (sIn_any _ 1 64 _).mono ?_; rw [H0.out]; rintro e w' ⟨rfl, rfl⟩
    go_wp2_with fail
    go_ret2
    exact ⟨wp_none HR.out, HB0.out⟩
  | true =>
  have H0 := Lib.hid h0
  cases h2 : decide (0 ≤ m ∧ m ≤ a) with
  | false =>
    have HR := Lib.hid (okWP_no (b := b) (c := c) (X := X) (S := S) (.inr (.inr (.inl h2))))
    have H2 := Lib.hid h2
    clear h1 h0 h2
    have HP := Lib.hid (gp_new w a b 27)
    have HB0 := Lib.hid ((Below.refl w.heap.size w).alloc (Nat.le_refl _) (.cells #[.int .i64 a, .int .i64 b] 27))
    have c0 := HP.out.cells.1; have c1 := HP.out.cells.2
    clear ix iy
    go_enter Try.func34, Try.ntmps34
    go_wp2_with fail
    clear c0 c1
    generalize w.alloc (.cells #[.int .i64 a, .int .i64 b] 27) = w1 at HB0 HP ⊢
    refine (sIs_any _ a b _ HP.out).mono ?_; rw [H1.out]; rintro e w' ⟨rfl, rfl⟩
    go_wp2_with fail
    refine (sIn_any _ 1 64 _).mono ?_; rw [H0.out]; rintro e w' ⟨rfl, rfl⟩
    have c0 := HP.out.cells.1; have c1 := HP.out.cells.2
    go_wp2_with fail
    refine (sIn_any m 0 a _).mono ?_; rw [H2.out]; rintro e w' ⟨rfl, rfl⟩
    go_wp2_with fail
    go_ret2
    exact ⟨wp_none HR.out, HB0.out⟩
  | true =>
  have H2 := Lib.hid h2
  cases h3 : fin .f32 X with
  | false =>
    have HR := Lib.hid (okWP_no (a := a) (b := b) (c := c) (m := m) (S := S) (.inr (.inr (.inr (.inl h3)))))
    have H3 := Lib.hid h3
    clear h1 h0 h2 h3
    have HP := Lib.hid (gp_new w a b 27)
    have HB0 := Lib.hid ((Below.refl w.heap.size w).alloc (Nat.le_refl _) (.cells #[.int .i64 a, .int .i64 b] 27))
    have c0 := HP.out.cells.1; have c1 := HP.out.cells.2
    clear ix iy
    go_enter Try.func34, Try.ntmps34
    go_wp2_with fail
    clear c0 c1
    generalize w.alloc (.cells #[.int .i64 a, .int .i64 b] 27) = w1 at HB0 HP ⊢
    refine (sIs_any _ a b _ HP.out).mono ?_; rw [H1.out]; rintro e w' ⟨rfl, rfl⟩
    go_wp2_with fail
    refine (sIn_any _ 1 64 _).mono ?_; rw [H0.out]; rintro e w' ⟨rfl, rfl⟩
    have c0 := HP.out.cells.1; have c1 := HP.out.cells.2
    go_wp2_with fail
    refine (sIn_any m 0 a _).mono ?_; rw [H2.out]; rintro e w' ⟨rfl, rfl⟩
    go_wp2_with fail
    refine (sFinite5_any _ _ IX.out _).mono ?_; rw [H3.out]; rintro e w' ⟨rfl, k1, rfl⟩
    go_wp2_with fail
    go_ret2
    exact ⟨wp_none HR.out, below_drewN HB0.out _⟩
  | true =>
  cases h4 : fin .f32 S with
  | false =>
    have HR := Lib.hid (okWP_no (a := a) (b := b) (c := c) (m := m) (X := X) (.inr (.inr (.inr (.inr h4)))))
    have H3 := Lib.hid h3; have H4 := Lib.hid h4
    clear h1 h0 h2 h3 h4
    have HP := Lib.hid (gp_new w a b 27)
    have HB0 := Lib.hid ((Below.refl w.heap.size w).alloc (Nat.le_refl _) (.cells #[.int .i64 a, .int .i64 b] 27))
    have c0 := HP.out.cells.1; have c1 := HP.out.cells.2
    clear ix iy
    go_enter Try.func34, Try.ntmps34
    go_wp2_with fail
    clear c0 c1
    generalize w.alloc (.cells #[.int .i64 a, .int .i64 b] 27) = w1 at HB0 HP ⊢
    refine (sIs_any _ a b _ HP.out).mono ?_; rw [H1.out]; rintro e w' ⟨rfl, rfl⟩
    go_wp2_with fail
    refine (sIn_any _ 1 64 _).mono ?_; rw [H0.out]; rintro e w' ⟨rfl, rfl⟩
    have c0 := HP.out.cells.1; have c1 := HP.out.cells.2
    go_wp2_with fail
    refine (sIn_any m 0 a _).mono ?_; rw [H2.out]; rintro e w' ⟨rfl, rfl⟩
    go_wp2_with fail
    refine (sFinite5_any _ _ IX.out _).mono ?_; rw [H3.out]; rintro e w' ⟨rfl, k1, rfl⟩
    go_wp2_with fail
    refine (sFinite5_any _ _ IY.out _).mono ?_; rw [H4.out]; rintro e w' ⟨rfl, k2, rfl⟩
    go_wp2_with fail
    go_ret2
    exact ⟨wp_none HR.out, (by first | exact below_drewN (below_drewN HB0.out _) _ | exact below_drewN HB0.out _)⟩
  | true =>
  obtain ⟨N, rfl⟩ := Int.eq_ofNat_of_zero_le (show 0 ≤ c by have := of_decide_eq_true h0; omega)
  exact sWaveP_yes a b m N x X y S w ix iy h1 h0 h2 h3 h4

def lenWP (a b c m : Int) (X S : Nat) : Nat := if okWP a b c m X S then c.toNat else 0
theorem lenWP_le (a b c m : Int) (X S : Nat) : lenWP a b c m X S ≤ 64 := by
  unfold lenWP
  split
  · rename_i h
    unfold okWP at h
    rw [Bool.and_eq_true, Bool.and_eq_true] at h
    have := of_decide_eq_true h.2.1
    omega
  · omega
theorem WPRes.out {a b c m : Int} {X S B : Nat} {e : Ending} {w' : World} (h : WPRes a b c m X S B e w') : ∃ (v : Value) (ts : List Pb), ts.length = lenWP a b c m X S ∧ BOwn B w' v ts ∧ EqP ts (KWv a b m c X S) ∧ e = .returned (.tuple #[v, .bool (okWP a b c m X S)]) := by
  obtain ⟨v, ts, h1, h2, h3, h4, h5⟩ := h
  refine ⟨v, ts, ?_, h3, h4, h5⟩
  unfold lenWP
  cases hq : okWP a b c m X S with
  | true => have := h1 hq; simp; omega
  | false => rw [h2 hq]; rfl
end Go.Proofs.Ytlfnbnhbobohlaa
