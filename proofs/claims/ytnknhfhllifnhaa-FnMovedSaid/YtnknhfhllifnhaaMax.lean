/-
  The builtin max of 32-bit numbers; the greatest of the sizes of numbers.
-/
import Derived.Test.YtnknhfhllifnhaaOwn
namespace Go.Fl
open Go.Builtin

theorem nan_draw_max (x y t : Nat) : nan .f32 ((Question.nanMinMax .f32 true x y).cut t) = true := nan_of_cut .f32 t
theorem nanMax_lt (x y t : Nat) : (Question.nanMinMax .f32 true x y).cut t < 2 ^ FloatKind.f32.format.width := draw_lt .f32 t
theorem qn_nan : nan .f32 (qn .f32) = true := by decide

/-- The greater of two numbers. -/
def fmax (x y : Nat) : Nat := match FloatKind.f32.format.order x y with
  | none => qn .f32
  | some .lt => y
  | some .gt => x
  | some .eq => if neg FloatKind.f32.format x then y else x
theorem decode_neg {x : Nat} (h : nan .f32 x = false) : (FloatKind.f32.decode x).neg = neg FloatKind.f32.format x := by
  unfold FloatKind.decode
  rw [read_eq _ (eb .f32)]
  unfold nan isNaN at h
  split
  · rfl
  · split
    · rfl
    · exfalso
      have h' := of_decide_eq_false h
      omega
theorem fmax_nan_left {x : Nat} (y : Nat) (h : nan .f32 x = true) : fmax x y = qn .f32 := by unfold fmax; rw [order_nan_left _ _ h]
theorem fmax_nan_right (x : Nat) {y : Nat} (h : nan .f32 y = true) : fmax x y = qn .f32 := by unfold fmax; rw [order_nan_right _ _ h]
theorem not_nan_of {x : Nat} (h : ¬ nan .f32 x = true) : nan .f32 x = false := by simpa using h

theorem run_max2 {P : Program} (w : World) {x y X Y : Nat} (hx : Is .f32 x X) (hy : Is .f32 y Y) :
    ∃ r n, (max2 (.float .f32 x) (.float .f32 y)).run P w = .ok (.float .f32 r) (w.drewN n) ∧ Is .f32 r (fmax X Y) := by
  by_cases h1 : nan .f32 x = true
  · refine ⟨(Question.nanMinMax .f32 true x y).cut (w.tape w.drawn (.nanMinMax .f32 true x y)), 1, ?_, ?_, nanMax_lt ..⟩
    · simp [max2, order_nan_left _ _ h1, Question.forced, World.drew_is_drewN]
    · rw [fmax_nan_left Y (by rw [← hx.nan]; exact h1), cn_nan _ (nan_draw_max x y _)]
  by_cases h2 : nan .f32 y = true
  · refine ⟨(Question.nanMinMax .f32 true x y).cut (w.tape w.drawn (.nanMinMax .f32 true x y)), 1, ?_, ?_, nanMax_lt ..⟩
    · simp [max2, order_nan_right _ _ h2, Question.forced, World.drew_is_drewN]
    · rw [fmax_nan_right X (by rw [← hy.nan]; exact h2), cn_nan _ (nan_draw_max x y _)]
  have hX : nan .f32 X = false := by rw [← hx.nan]; exact not_nan_of h1
  have hY : nan .f32 Y = false := by rw [← hy.nan]; exact not_nan_of h2
  have ex := hx.same hX
  have ey := hy.same hY
  have ho := order_sv' .f32 hX hY
  refine ⟨fmax X Y, 0, ?_, ?_⟩
  · rw [World.drewN_zero, ex, ey]
    unfold fmax max2
    simp only [ho]
    cases compare (sv FloatKind.f32.format X) (sv FloatKind.f32.format Y) <;> simp [decode_neg hX]
  · unfold fmax
    rw [ho]
    rw [ex] at hx; rw [ey] at hy
    cases compare (sv FloatKind.f32.format X) (sv FloatKind.f32.format Y)
    · exact hy
    · show Is .f32 (if neg FloatKind.f32.format X = true then Y else X) (if neg FloatKind.f32.format X = true then Y else X)
      split
      · exact hy
      · exact hx
    · exact hx

theorem run_max3 {P : Program} (w : World) (ts : Array TypeId) (t : TypeId) {x y z X Y Z : Nat} (hx : Is .f32 x X) (hy : Is .f32 y Y) (hz : Is .f32 z Z) :
    ∃ r n, (max_ ts t #[.float .f32 x, .float .f32 y, .float .f32 z]).run P w = .ok (.float .f32 r) (w.drewN n) ∧ Is .f32 r (fmax (fmax X Y) Z) := by
  obtain ⟨r1, n1, e1, h1⟩ := run_max2 (P := P) w hx hy
  obtain ⟨r2, n2, e2, h2⟩ := run_max2 (P := P) (w.drewN n1) h1 hz
  refine ⟨r2, n1 + n2, ?_, h2⟩
  unfold max_
  simp [List.foldlM, e1, e2, Result.andThen]

theorem negF32 {x : Nat} (h : x < 2 ^ FloatKind.f32.format.width) : rung FloatKind.f32.format (Op.negFloat .f32 x) = rung FloatKind.f32.format x ∧ neg FloatKind.f32.format (Op.negFloat .f32 x) = !neg FloatKind.f32.format x ∧ Op.negFloat .f32 x < 2 ^ FloatKind.f32.format.width := by
  have h' : x < 2 ^ 32 := h
  have e : Op.negFloat .f32 x = x ^^^ 2 ^ 31 := rfl
  have er : ∀ y, rung FloatKind.f32.format y = y % 2 ^ 31 := fun _ => rfl
  have en : ∀ y, neg FloatKind.f32.format y = (y / 2 ^ 31 % 2 == 1) := fun _ => rfl
  have et : ∀ y : Nat, (y / 2 ^ 31 % 2 == 1) = y.testBit 31 := fun y => by rw [Nat.testBit_eq_decide_div_mod_eq]; rfl
  refine ⟨?_, ?_, ?_⟩
  · rw [e, er, er]
    apply Nat.eq_of_testBit_eq
    intro i
    rw [Nat.testBit_mod_two_pow, Nat.testBit_mod_two_pow, Nat.testBit_xor, Nat.testBit_two_pow]
    by_cases hi : i < 31
    · have : ¬ 31 = i := by omega
      simp [hi, this]
    · simp [hi]
  · rw [e, en, en, et, et, Nat.testBit_xor, Nat.testBit_two_pow]
    simp
  · rw [e]; exact Nat.xor_lt_two_pow (n := 32) h' (by decide)

theorem Is.neg32 {x X : Nat} (h : Is .f32 x X) : Is .f32 (Op.negFloat .f32 x) (Fl.fneg .f32 X) := by
  have h1 := Fl.negF32 h.lt
  have hn : Fl.nan .f32 (Op.negFloat .f32 x) = Fl.nan .f32 x := by unfold Fl.nan isNaN; rw [h1.1]
  refine ⟨?_, h1.2.2⟩
  unfold Fl.fneg
  by_cases hx : Fl.nan .f32 X = true
  · rw [if_pos hx]; exact cn_nan _ (by rw [hn, h.nan, hx])
  · rw [if_neg hx, ← h.same (by simpa using hx)]
    exact cn_of _ (by rw [hn, h.nan]; simpa using hx)

abbrev K32 (x : Nat) : Int := key FloatKind.f32.format x
theorem fneg_num {X : Nat} (hl : X < 2 ^ FloatKind.f32.format.width) (h : nan .f32 X = false) : nan .f32 (fneg .f32 X) = false ∧ K32 (fneg .f32 X) = -K32 X ∧ neg FloatKind.f32.format (fneg .f32 X) = !neg FloatKind.f32.format X := by
  have e : fneg .f32 X = Op.negFloat .f32 X := by unfold fneg; rw [h]; rfl
  obtain ⟨h1, h2, _⟩ := negF32 hl
  rw [e]
  refine ⟨by unfold nan isNaN at h ⊢; rw [h1]; exact h, ?_, h2⟩
  unfold K32 key
  rw [h1, h2]
  cases neg FloatKind.f32.format X <;> simp
theorem ord32 {X Y : Nat} (hX : nan .f32 X = false) (hY : nan .f32 Y = false) : FloatKind.f32.format.order X Y = some (if K32 X < K32 Y then .lt else if K32 X = K32 Y then .eq else .gt) := by
  rw [order_eq _ (eb .f32)]
  unfold nan at hX hY
  rw [hX, hY]
  rfl
theorem fmax_num {X Y : Nat} (hX : nan .f32 X = false) (hY : nan .f32 Y = false) : fmax X Y = if K32 X < K32 Y then Y else if K32 X = K32 Y then (if neg FloatKind.f32.format X = true then Y else X) else X := by
  unfold fmax
  rw [ord32 hX hY]
  split <;> rename_i h
  · cases h
  · simp only [Option.some.injEq] at h
    split at h
    · rename_i h1; rw [if_pos h1]
    · split at h <;> cases h
  · simp only [Option.some.injEq] at h
    split at h
    · cases h
    · rename_i h1
      split at h
      · cases h
      · rename_i h2; rw [if_neg h1, if_neg h2]
  · simp only [Option.some.injEq] at h
    split at h
    · cases h
    · rename_i h1
      split at h
      · rename_i h2; rw [if_neg h1, if_pos h2]
      · cases h
theorem gtr_num {X Y : Nat} (hX : nan .f32 X = false) (hY : nan .f32 Y = false) : fcmp .gtr .f32 X Y = decide (K32 Y < K32 X) := by
  unfold fcmp
  simp only [ord32 hX hY]
  split
  · rename_i h; rw [decide_eq_false (by omega)]; rfl
  · split
    · rename_i h h2; rw [decide_eq_false (by omega)]; rfl
    · rename_i h h2; rw [decide_eq_true (by omega)]; rfl
theorem lss_num {X Y : Nat} (hX : nan .f32 X = false) (hY : nan .f32 Y = false) : fcmp .lss .f32 X Y = decide (K32 X < K32 Y) := by
  unfold fcmp
  simp only [ord32 hX hY]
  split
  · rename_i h; rw [decide_eq_true h]; rfl
  · rename_i h; rw [decide_eq_false h]; split <;> rfl
theorem lss_nan {X : Nat} (Y : Nat) (hX : nan .f32 X = true) : fcmp .lss .f32 X Y = false := by
  unfold fcmp; rw [order_nan_left _ _ hX]; rfl
theorem neq_self {X : Nat} : fcmp .neq .f32 X X = nan .f32 X := by
  unfold fcmp
  by_cases h : nan .f32 X = true
  · rw [order_nan_left _ _ h, h]; rfl
  · have h' := not_nan_of h
    rw [ord32 h' h', h', if_neg (by omega), if_pos rfl]; rfl

/-- The size of a number. -/
def absV (X : Nat) : Nat := if fcmp .lss .f32 X 0 = true then fneg .f32 X else X
/-- The greatest size so far. -/
def stepR (O X : Nat) : Nat := fmax (fmax O X) (fneg .f32 X)
theorem stepR_nan (O : Nat) {X : Nat} (h : nan .f32 X = true) : stepR O X = qn .f32 := by
  unfold stepR
  rw [fmax_nan_right O h, fmax_nan_left _ qn_nan]
theorem stepR_qn {O : Nat} (X : Nat) (h : nan .f32 O = true) : stepR O X = qn .f32 := by
  unfold stepR
  rw [fmax_nan_left X h, fmax_nan_left _ qn_nan]
theorem absV_nan {X : Nat} (h : nan .f32 X = true) : absV X = X := by unfold absV; rw [lss_nan 0 h]; rfl
/-- Neither a not-a-number nor with a sign. -/
def Plus (O : Nat) : Prop := nan .f32 O = false ∧ neg FloatKind.f32.format O = false
theorem plus_zero : Plus 0 := ⟨by decide, by decide⟩
theorem absV_num {X : Nat} (hl : X < 2 ^ FloatKind.f32.format.width) (h : nan .f32 X = false) : nan .f32 (absV X) = false := by
  unfold absV; split
  · exact (fneg_num hl h).1
  · exact h
theorem stepR_num {O X : Nat} (hO : Plus O) (hl : X < 2 ^ FloatKind.f32.format.width) (hX : nan .f32 X = false) : stepR O X = (if fcmp .gtr .f32 (absV X) O = true then absV X else O) ∧ Plus (stepR O X) := by
  obtain ⟨nO, sO⟩ := hO
  obtain ⟨nY, kY, sY⟩ := fneg_num hl hX
  have kO : 0 ≤ K32 O := by unfold K32 key; rw [sO]; simp
  have k0 : K32 0 = 0 := by decide
  have sX : K32 X < 0 → neg FloatKind.f32.format X = true := fun h => by
    cases hs : neg FloatKind.f32.format X with
    | true => rfl
    | false => unfold K32 key at h; rw [hs] at h; simp at h; omega
  have sX' : 0 < K32 X → neg FloatKind.f32.format X = false := fun h => by
    cases hs : neg FloatKind.f32.format X with
    | false => rfl
    | true => unfold K32 key at h; rw [hs] at h; simp at h; omega
  have hA : absV X = if K32 X < 0 then fneg .f32 X else X := by
    unfold absV; rw [lss_num hX (by decide), k0]; by_cases h : K32 X < 0 <;> simp [h]
  unfold stepR
  by_cases hb : K32 X < 0
  · rw [if_pos hb] at hA
    have e1 : fmax O X = O := by rw [fmax_num nO hX, if_neg (by omega), if_neg (by omega)]
    rw [e1, hA, gtr_num nY nO, fmax_num nO nY]
    by_cases h1 : K32 O < K32 (fneg .f32 X)
    · rw [if_pos h1, decide_eq_true h1, if_pos rfl]
      exact ⟨rfl, nY, by rw [sY, sX hb]; rfl⟩
    · rw [if_neg h1, decide_eq_false h1, sO]
      simp only [Bool.false_eq_true, if_false, ite_self]
      exact ⟨trivial, nO, sO⟩
  · rw [if_neg hb] at hA
    rw [hA, gtr_num hX nO]
    by_cases h1 : K32 O < K32 X
    · have e1 : fmax O X = X := by rw [fmax_num nO hX, if_pos h1]
      rw [e1, fmax_num hX nY, if_neg (by omega), if_neg (by omega), decide_eq_true h1, if_pos rfl]
      exact ⟨rfl, hX, sX' (by omega)⟩
    · have e1 : fmax O X = O := by
        rw [fmax_num nO hX, if_neg h1, sO]; simp
      rw [e1, fmax_num nO nY, if_neg (by omega), sO, decide_eq_false h1]
      simp only [Bool.false_eq_true, if_false, ite_self]
      exact ⟨trivial, nO, sO⟩
/-- The greatest size of the first numbers. -/
def resR (G : Nat → Nat) : Nat → Nat
  | 0 => 0
  | n + 1 => stepR (resR G n) (G n)
theorem resR_nan (G : Nat → Nat) {k : Nat} (h : nan .f32 (G k) = true) : ∀ n, k < n → resR G n = qn .f32 := by
  intro n
  induction n with
  | zero => intro h; omega
  | succ n ih =>
    intro hk
    show stepR (resR G n) (G n) = _
    by_cases e : k = n
    · subst e; exact stepR_nan _ h
    · rw [ih (by omega)]; exact stepR_qn _ qn_nan
end Go.Fl
