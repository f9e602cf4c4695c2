/-
  Measures of lists of particles: momentum and energy, exactly.
-/
import Derived.Test.YtnknhfhllifnhaaPt
import Derived.Test.YtnknhfhllifnhaaNar
namespace Go.Proofs.Ytnknhfhllifnhaa
open Go.Fl Go.RowKit
set_option linter.unusedSimpArgs false
set_option linter.unusedVariables false

/-- A sum over the first k. -/
def sumI (f : Pt → Int) (ts : List Pt) (k : Nat) : Int := ((ts.take k).map f).sum
theorem sumI_succ (f : Pt → Int) (ts : List Pt) {k : Nat} (h : k < ts.length) : sumI f ts (k + 1) = sumI f ts k + f ts[k] := by
  unfold sumI
  rw [List.take_succ_eq_append_getElem h, List.map_append, List.sum_append]; simp
theorem sumI_le (f : Pt → Int) (ts : List Pt) (M : Int) (h : ∀ t ∈ ts, -M ≤ f t ∧ f t ≤ M) (k : Nat) (hk : k ≤ ts.length) : -(M * k) ≤ sumI f ts k ∧ sumI f ts k ≤ M * k := by
  induction k with
  | zero => simp [sumI]
  | succ k ih =>
    rw [sumI_succ f ts (by omega)]
    have h1 := ih (by omega)
    have h2 := h ts[k] (List.getElem_mem (by omega))
    rw [Int.natCast_add, Int.mul_add]
    omega
theorem mul_in {a b A B : Int} (h1 : -A ≤ a) (h2 : a ≤ A) (h3 : 0 ≤ b) (h4 : b ≤ B) (hA : 0 ≤ A) : -(A * B) ≤ a * b ∧ a * b ≤ A * B := by
  have e1 : a * b ≤ A * b := Int.mul_le_mul_of_nonneg_right h2 h3
  have e2 : A * b ≤ A * B := Int.mul_le_mul_of_nonneg_left h4 hA
  have e3 : -A * b ≤ a * b := Int.mul_le_mul_of_nonneg_right h1 h3
  rw [Int.neg_mul] at e3
  omega
theorem sq_nn (a : Int) : 0 ≤ a * a := by
  by_cases h : 0 ≤ a
  · exact Int.mul_nonneg h h
  · have := Int.mul_nonneg (show 0 ≤ -a by omega) (show 0 ≤ -a by omega); rwa [Int.neg_mul_neg] at this
theorem dy_e8' {n : Int} (n0 : -112 ≤ n) (n1 : n < 248) : Dv .f32 146 (E8 n) n := (dy_e8 n n0 n1).dv
theorem dy_zero32 (u : Nat) : Dy .f32 u 0 0 := ⟨by decide, by decide +kernel, by decide +kernel, by rw [Int.zero_mul]; decide +kernel⟩
theorem dy_zero64 (u : Nat) : Dy .f64 u 0 0 := ⟨by decide, by decide +kernel, by decide +kernel, by rw [Int.zero_mul]; decide +kernel⟩

theorem iScale_dv (x y c : Nat) (p q s : Int) (hx : Dv .f32 146 x p) (hy : Dv .f32 146 y q) (hc : Dv .f32 146 c s) (h1 : (p * s).natAbs < 2 ^ 24) (h2 : (q * s).natAbs < 2 ^ 24) (w : World) :
    Calls Try.prog 59 #[.complex .f32 x y, .float .f32 c] w fun e w' => (∃ a b, e = .returned (.complex .f32 a b) ∧ Dv .f32 143 a (p * s) ∧ Dv .f32 143 b (q * s)) ∧ ∃ n, w' = w.drewN n := by
  have HX := Lib.hid hx; have HY := Lib.hid hy; have HC := Lib.hid hc; have HA := Lib.hid h1; have HB := Lib.hid h2
  have ix := hx.is; have iy := hy.is; have ic := hc.is
  clear hx hy hc h1 h2
  go_enter Try.func59, Try.ntmps59
  go_wp2_with (apply wpList_farith; rfl; rfl; rfl; rfl; (first | with_reducible assumption | exact Is.const rfl); (first | with_reducible assumption | exact Is.const rfl); intro r n hr)
  go_ret
  exact ⟨⟨_, _, rfl, dv_is (HX.out.mul32 HC.out (w := 143) (by decide) HA.out (by decide)) (by assumption), dv_is (HY.out.mul32 HC.out (w := 143) (by decide) HB.out (by decide)) (by assumption)⟩, _, rfl⟩

def powF (X Y : Nat) : Nat := fop .add .f64 (fop .mul .f64 (wid X) (wid X)) (fop .mul .f64 (wid Y) (wid Y))
theorem iWideP_any (x X y Y : Nat) (ix : Is .f32 x X) (iy : Is .f32 y Y) (w : World) :
    Calls Try.prog 139 #[.complex .f32 x y] w fun e w' => (∃ r, e = .returned (.float .f64 r) ∧ Is .f64 r (powF X Y)) ∧ ∃ n, w' = w.drewN n := by
  go_enter Try.func139, Try.ntmps139
  go_wp2_with (first | (apply wpList_farith; rfl; rfl; rfl; rfl; (first | with_reducible assumption | exact Is.const rfl); (first | with_reducible assumption | exact Is.const rfl); intro r n hr) | (apply wpList_wid; rfl; rfl; (first | with_reducible assumption | exact Is.const rfl); exact U32; exact U64; intro r n hr))
  go_ret
  exact ⟨⟨_, rfl, by assumption⟩, _, rfl⟩
theorem powF_dy {x y : Nat} {p q : Int} (hx : Dv .f32 146 x p) (hy : Dv .f32 146 y q) (h : -8 ≤ p ∧ p ≤ 8) (k : -8 ≤ q ∧ q ≤ 8) : Dy .f64 1068 (powF x y) (p * p + q * q) := by
  have h1 : p * p ≤ 64 := by
    by_cases hp : 0 ≤ p
    · have := Int.mul_le_mul h.2 h.2 hp (by omega); omega
    · have := Int.mul_le_mul (show -p ≤ 8 by omega) (show -p ≤ 8 by omega) (by omega) (by omega); rw [Int.neg_mul_neg] at this; omega
  have h2 : q * q ≤ 64 := by
    by_cases hp : 0 ≤ q
    · have := Int.mul_le_mul k.2 k.2 hp (by omega); omega
    · have := Int.mul_le_mul (show -q ≤ 8 by omega) (show -q ≤ 8 by omega) (by omega) (by omega); rw [Int.neg_mul_neg] at this; omega
  have h3 := sq_nn p
  have h4 := sq_nn q
  generalize hP : p * p = P at h1 h3 ⊢
  generalize hQ : q * q = Q at h2 h4 ⊢
  have a1 := hx.wid.1.sq64 (w := 1068) (by decide) (by rw [hP]; omega) (by decide)
  have a2 := hy.wid.1.sq64 (w := 1068) (by decide) (by rw [hQ]; omega) (by decide)
  rw [hP] at a1
  rw [hQ] at a2
  exact a1.add64 a2 (by decide) (by omega)
theorem half_dy : Dy .f64 1073 4602678819172646912 1 := Dy.of (by decide +kernel)
def eneF (X Y S : Nat) : Nat := fop .mul .f64 (fop .mul .f64 4602678819172646912 (wid S)) (powF X Y)
def eneI (t : Pt) : Int := t.s * (t.p * t.p + t.q * t.q)
theorem eneI_in {t : Pt} (h : t.ok) : 0 ≤ eneI t ∧ eneI t ≤ 2048 := by
  have hp := h.p0; have hp' := h.p1; have hq := h.q0; have hq' := h.q1; have hs := h.s0; have hs' := h.s1
  have h1 : t.p * t.p ≤ 64 := by
    by_cases hp : 0 ≤ t.p
    · have := Int.mul_le_mul hp' hp' hp (by omega); omega
    · have := Int.mul_le_mul (show -t.p ≤ 8 by omega) (show -t.p ≤ 8 by omega) (by omega) (by omega); rw [Int.neg_mul_neg] at this; omega
  have h2 : t.q * t.q ≤ 64 := by
    by_cases hp : 0 ≤ t.q
    · have := Int.mul_le_mul hq' hq' hp (by omega); omega
    · have := Int.mul_le_mul (show -t.q ≤ 8 by omega) (show -t.q ≤ 8 by omega) (by omega) (by omega); rw [Int.neg_mul_neg] at this; omega
  have h3 := sq_nn t.p
  have h4 := sq_nn t.q
  unfold eneI
  have a1 := Int.mul_le_mul hs' (show t.p * t.p + t.q * t.q ≤ 128 by omega) (by omega) (by omega)
  have a2 := Int.mul_nonneg (show 0 ≤ t.s by omega) (show 0 ≤ t.p * t.p + t.q * t.q by omega)
  omega
theorem eneF_dy {t : Pt} (h : t.ok) : Dy .f64 1064 (eneF t.x t.y (E8 t.s)) (eneI t) := by
  have hp := h.p0; have hp' := h.p1; have hq := h.q0; have hq' := h.q1; have hs := h.s0; have hs' := h.s1
  have a1 := powF_dy h.dx h.dy ⟨hp, hp'⟩ ⟨hq, hq'⟩
  have a2 := half_dy.mul64 (dy_e8 t.s (by omega) (by omega)).wid (w := 1070) (by decide) (by omega) (by decide) (by omega) (by decide)
  rw [Int.one_mul] at a2
  have hi := eneI_in h
  unfold eneI at hi ⊢
  have h3 := sq_nn t.p
  have h4 := sq_nn t.q
  exact a2.mul64 a1 (w := 1064) (by omega) (by omega) (by decide) (by omega) (by decide)
theorem nan_csum (P : Program) (t : TypeId) {x y x' y' : Nat} (h1 : Fl.nan .f32 (fop .add .f32 x x') = false) (h2 : Fl.nan .f32 (fop .add .f32 y y') = false) (w : World) :
    (binOp .add t (.complex .f32 x y) (.complex .f32 x' y')).run P w = .ok (.complex .f32 (fop .add .f32 x x') (fop .add .f32 y y')) w := by
  refine run_complex_sum w .add (.inl rfl) t .f32 _ _ _ _ _ _ ?_
  have fb : ∀ {x y : Nat}, Fl.nan .f32 (fop .add .f32 x y) = false → floatBits .add .f32 x y = some (fop .add .f32 x y) := by
    intro x y h
    unfold fop at h ⊢
    cases hb : floatBits .add .f32 x y with
    | some r => rfl
    | none => rw [hb] at h; simp only [nan_qn] at h; cases h
  unfold cSumBits
  rw [fb h1, fb h2]
  rfl

def momX (t : Pt) : Int := t.p * t.s
def momY (t : Pt) : Int := t.q * t.s
theorem mom_in {t : Pt} (h : t.ok) : (-128 ≤ momX t ∧ momX t ≤ 128) ∧ (-128 ≤ momY t ∧ momY t ≤ 128) :=
  ⟨mul_in (A := 8) (B := 16) h.p0 h.p1 (by have := h.s0; omega) h.s1 (by omega), mul_in (A := 8) (B := 16) h.q0 h.q1 (by have := h.s0; omega) h.s1 (by omega)⟩

set_option maxHeartbeats 1000000 in
theorem iMomentum_pt (B : Nat) (v : Value) (ts : List Pt) (w : World) (hv : POwn B w v ts) (h : oks ts) (hn : ts.length ≤ 64) :
    Calls Try.prog 50 #[v] w fun e w' => (∃ a b, e = .returned (.tuple #[.complex .f32 a b, .bool true]) ∧ Dy .f32 143 a (sumI momX ts ts.length) ∧ Dy .f32 143 b (sumI momY ts ts.length)) ∧ Below w.heap.size w w' := by
  obtain ⟨a, cap, rfl, hf⟩ := p_form hv
  have HV := Lib.hid hv; have HO := Lib.hid h
  have HX := Lib.hid (sumI_le momX ts 128 (fun t ht => (mom_in (h t ht)).1))
  have HY := Lib.hid (sumI_le momY ts 128 (fun t ht => (mom_in (h t ht)).2))
  clear hv h
  go_enter Try.func50, Try.ntmps50
  go_wp2_with fail
  refine (iAre_pt B _ ts _ HV.out HO.out hn).mono ?_
  rintro e w1 ⟨rfl, hb1⟩
  go_wp2_with fail
  go_loopw [4, 12] (fun s i wr => ∃ k : Nat, k ≤ ts.length ∧ i = .int .i64 k ∧ Below w.heap.size w wr ∧ ∃ x y, s = .complex .f32 x y ∧ Hid (Dy .f32 143 x (sumI momX ts k) ∧ Dy .f32 143 y (sumI momY ts k))) (fun s i _ => ts.length - (intOf i).toNat)
  case atStart => exact ⟨0, Nat.zero_le _, rfl, hb1, 0, 0, rfl, Lib.hid ⟨dy_zero32 _, dy_zero32 _⟩⟩
  case round =>
    clear hb1
    obtain ⟨k, hk, rfl, hb, x, y, rfl, HD⟩ := hrel
    by_cases hlt : k < ts.length
    · rcases hf with hf | ⟨g, rfl, _, _⟩
      · subst hf; simp at hlt
      obtain ⟨c0, c1, c2, c3⟩ := p_cells (r4_below HV.out hb) hlt
      have HT := Lib.hid (oks_at HO.out hlt)
      have b1 := HX.out k (by omega); have b2 := HY.out k (by omega)
      have b3 := (mom_in HT.out).1; have b4 := (mom_in HT.out).2
      have HSX := Lib.hid (sumI_succ momX ts hlt); have HSY := Lib.hid (sumI_succ momY ts hlt)
      generalize ts[k] = t at c0 c1 c2 c3 HT b3 b4 HSX HSY
      have HB1 := Lib.hid (hb.alloc hb.size (.cells #[.complex .f32 (E8 t.n) (E8 t.m), .complex .f32 t.x t.y, .float .f32 (E8 t.c), .float .f32 (E8 t.s)] 57))
      have HS := Lib.hid (show ∀ a b, Dv .f32 143 a (momX t) → Dv .f32 143 b (momY t) → Dy .f32 143 (fop .add .f32 x a) (sumI momX ts k + momX t) ∧ Dy .f32 143 (fop .add .f32 y b) (sumI momY ts k + momY t) from fun a b ha hb => ⟨HD.out.1.addv32 ha (by decide) (by omega), HD.out.2.addv32 hb (by decide) (by omega)⟩)
      have HM := Lib.hid (show (momX t).natAbs < 2 ^ 24 ∧ (momY t).natAbs < 2 ^ 24 from ⟨by omega, by omega⟩)
      clear hb b1 b2 b3 b4
      go_wp2_with fail
      refine (iScale_dv _ _ _ t.p t.q t.s HT.out.dx HT.out.dy (dy_e8' (by have := HT.out.s0; omega) (by have := HT.out.s1; omega)) HM.out.1 HM.out.2 _).mono ?_
      rintro e w2 ⟨⟨a, b, rfl, ha, hb⟩, n, rfl⟩
      have hs := HS.out a b ha hb
      have hcs := nan_csum Try.prog 39 hs.1.nan hs.2.nan
      have HD2 := Lib.hid hs
      clear hs ha hb c0 c1 c2 c3
      go_wp2_with fail
      go_roundw
      case rel => exact ⟨k + 1, by omega, by go_num, below_drewN HB1.out _, _, _, rfl, by rw [HSX.out, HSY.out]; exact HD2⟩
      case measure => simp [intOf]; omega
    · obtain rfl : k = ts.length := by omega
      clear hlt
      go_wp2
      go_ret2
      exact ⟨⟨_, _, rfl, HD.out.1, HD.out.2⟩, hb⟩
end Go.Proofs.Ytnknhfhllifnhaa
