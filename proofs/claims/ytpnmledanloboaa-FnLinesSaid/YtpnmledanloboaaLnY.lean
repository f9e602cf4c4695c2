/-
  A ray behind a line without its kicks is what the line's matrix makes of it, nearly.
  Lines that are drawn are valid, whole, cut and back; rays behind two pieces.
  What the walk of FnLines wants: the builtin max in 64 bits, and the mathematics of the law, put together.
  Matrices as the law of lines holds them: slices of four finite numbers.
-/
import Derived.Test.YtpnmledanloboaaLnX
import Derived.Test.YtpnmledanloboaaSry
import Derived.Test.YtpnmledanloboaaLnF
import Derived.Test.YtpnmledanloboaaMatT
import Derived.Test.YtpnmledanloboaaLmb
import Derived.Test.YtpnmledanloboaaOwnE
namespace Go.Proofs.Ytpnmledanloboaa
open Go.Fl Go.RowKit
set_option linter.unusedSimpArgs false
set_option linter.unusedVariables false

def noKick (t : El) : Bool := decide (t.k ≠ 3)
/-- A ray behind the first k parts, kicks left out. -/
def passK (ts : List El) (R : Ry) (k : Nat) : Ry := (ts.take k).foldl (fun r t => if noKick t then passE t r else r) R
theorem passK_step (ts : List El) (R : Ry) {k : Nat} (h : k < ts.length) : passK ts R (k + 1) = if noKick ts[k] then passE ts[k] (passK ts R k) else passK ts R k := by
  unfold passK
  rw [List.take_succ_eq_append_getElem h, List.foldl_append]
  rfl
theorem passK_all (ts : List El) (R : Ry) : passL (ts.filter noKick) R (ts.filter noKick).length = passK ts R ts.length := by
  unfold passL passK
  rw [List.take_length, List.take_length, List.foldl_filter]
def gF : Nat → Rat
  | 0 => 0
  | k + 1 => 2 * gF k + 4/262144
theorem gF_le {k : Nat} (h : k ≤ 4) : 0 ≤ gF k ∧ gF k ≤ 60/262144 := by
  have : k = 0 ∨ k = 1 ∨ k = 2 ∨ k = 3 ∨ k = 4 := by omega
  rcases this with rfl | rfl | rfl | rfl | rfl <;> decide +kernel
theorem P2_le8 {k : Nat} (h : k ≤ 3) : P2 k ≤ 8 := by
  have : k = 0 ∨ k = 1 ∨ k = 2 ∨ k = 3 := by omega
  rcases this with rfl | rfl | rfl | rfl <;> decide +kernel
/-- One row: the sum's second half by the part, the errors of the two numbers. -/
theorem img_row {μ g e x y x' a b c d a' b' X0 Y0 : Rat} (hμ : In μ 1) (h1 : In (x - (a * X0 + b * Y0)) g) (h2 : In (y - (c * X0 + d * Y0)) g) (n1 : In (a' - (a + μ * c)) e) (n2 : In (b' - (b + μ * d)) e) (hx : In (x' - (x + μ * y)) (3/262144)) (h0 : In X0 1) (h00 : In Y0 1) (he : 0 ≤ e) (he2 : e ≤ 8/4194304) :
    In (x' - (a' * X0 + b' * Y0)) (2 * g + 4/262144) := by
  have w1 := n1.mul2 h0 he
  have w2 := n2.mul2 h00 he
  have w3 := hμ.mul h2
  obtain ⟨w11, w12⟩ := w1; obtain ⟨w21, w22⟩ := w2; obtain ⟨w31, w32⟩ := w3; obtain ⟨h11, h12⟩ := h1; obtain ⟨n11, n12⟩ := hx
  constructor <;> grind
theorem img_near {ts : List El} (hd : ∀ t ∈ ts, DrE t) (hl : ts.length ≤ 4) {r : Ry} {X0 Y0 : Rat} (h : Sd r X0 Y0) (bx : In X0 1) (by' : In Y0 1) :
    ∀ k, k ≤ ts.length → ∃ X Y a b c d, Sd (passK ts r k) X Y ∧ Mx (lineM ts k) a b c d ∧ Mb (P2 k) a b c d ∧ In (X - (a * X0 + b * Y0)) (gF k) ∧ In (Y - (c * X0 + d * Y0)) (gF k) := by
  intro k
  induction k with
  | zero =>
    intro _
    refine ⟨X0, Y0, 1, 0, 0, 1, h, ⟨rw_one, rw_nil, rw_nil, rw_one⟩, by rw [P2_0]; exact ⟨⟨by decide, by decide⟩, ⟨by decide, by decide⟩, ⟨by decide, by decide⟩, ⟨by decide, by decide⟩⟩, ?_, ?_⟩
    · have e : gF 0 = 0 := rfl
      rw [e]; constructor <;> grind
    · have e : gF 0 = 0 := rfl
      rw [e]; constructor <;> grind
  | succ k ih =>
    intro hk
    obtain ⟨X, Y, a, b, c, d, hS, hM, hMb, n1, n2⟩ := ih (by omega)
    have hlt : k < ts.length := by omega
    have hD := hd _ (List.getElem_mem hlt)
    obtain ⟨a', b', c', d', hM', hMb', s⟩ := mx_step hD (by omega) hM hMb
    have hP := P2_pos k
    have hP8 := P2_le8 (k := k) (by omega)
    have hg := gF_le (k := k) (by omega)
    have e : gF (k + 1) = 2 * gF k + 4/262144 := rfl
    have u1 := hMb.b0.mul2 bx (by grind); have u2 := hMb.b1.mul2 by' (by grind); have u3 := hMb.b2.mul2 bx (by grind); have u4 := hMb.b3.mul2 by' (by grind)
    have iX : In X 20 := by
      obtain ⟨u11, u12⟩ := u1; obtain ⟨u21, u22⟩ := u2; obtain ⟨n11, n12⟩ := n1
      constructor <;> grind
    have iY : In Y 20 := by
      obtain ⟨u11, u12⟩ := u3; obtain ⟨u21, u22⟩ := u4; obtain ⟨n11, n12⟩ := n2
      constructor <;> grind
    rw [lineM_succ hlt, passK_step ts r hlt, e]
    clear u1 u2 u3 u4
    have hmI := hD.par.1
    have hneg : In (-mOf ts[k]) 1 := ⟨by have := hmI.2; grind, by have := hmI.1; grind⟩
    rcases s with ⟨k0, rfl, rfl, q1, q2⟩ | ⟨k0, rfl, rfl, q1, q2⟩ | ⟨k0, rfl, rfl, rfl, rfl⟩
    · have hnk : noKick ts[k] = true := by unfold noKick; rw [k0]; decide
      rw [if_pos hnk]
      obtain ⟨X', Y', g1, g2, p1, p2⟩ := pass_near hD.par hS.x hS.y iX iY
      unfold TX at p1; unfold TY at p2
      rw [if_pos k0] at p1 p2
      refine ⟨X', Y', _, _, _, _, ⟨g1, g2⟩, hM', hMb', img_row hmI n1 n2 q1 q2 p1 bx by' (by grind) (by grind), ?_⟩
      obtain ⟨n21, n22⟩ := n2; obtain ⟨p21, p22⟩ := p2
      constructor <;> grind
    · have hnk : noKick ts[k] = true := by unfold noKick; rw [k0]; decide
      rw [if_pos hnk]
      obtain ⟨X', Y', g1, g2, p1, p2⟩ := pass_near hD.par hS.x hS.y iX iY
      unfold TX at p1; unfold TY at p2
      rw [if_neg (by rw [k0]; decide)] at p1 p2
      rw [if_pos k0] at p2
      have f : ∀ {x y z e : Rat}, In (z - (x - mOf ts[k] * y)) e → In (z - (x + -mOf ts[k] * y)) e := fun {x y z e} hh => by
        rw [show x + -mOf ts[k] * y = x - mOf ts[k] * y by grind]; exact hh
      refine ⟨X', Y', _, _, _, _, ⟨g1, g2⟩, hM', hMb', ?_, img_row hneg n2 n1 (f q1) (f q2) (f p2) bx by' (by grind) (by grind)⟩
      obtain ⟨n21, n22⟩ := n1; obtain ⟨p21, p22⟩ := p1
      constructor <;> grind
    · have hnk : noKick ts[k] = false := by unfold noKick; rw [k0]; decide
      rw [if_neg (by rw [hnk]; decide)]
      exact ⟨X, Y, _, _, _, _, hS, hM', hMb', n1.weak (by grind), n2.weak (by grind)⟩
end Go.Proofs.Ytpnmledanloboaa
namespace Go.Proofs.Ytpnmledanloboaa
open Go.Fl Go.RowKit
set_option linter.unusedSimpArgs false
set_option linter.unusedVariables false

theorem passL_two (ts : List El) (R : Ry) (cut : Nat) : passL (ts.drop cut) (passL (ts.take cut) R (ts.take cut).length) (ts.drop cut).length = passL ts R ts.length := by
  unfold passL
  rw [List.take_length, List.take_length, List.take_length, ← List.foldl_append, List.take_append_drop]
theorem ok_q : ∀ n ∈ QS2, okEl ⟨0, n, 0⟩ = true ∧ okEl ⟨3, n, 0⟩ = true := by decide +kernel
theorem ok_l : ∀ n ∈ LS2, okEl ⟨1, n, 0⟩ = true := by decide +kernel
theorem DrE.okE {t : El} (h : DrE t) : okEl t = true := by
  obtain ⟨k, n, p⟩ := t
  obtain ⟨hp, h⟩ := h
  obtain rfl : p = 0 := hp
  rcases h with ⟨hk, hn⟩ | ⟨hk, hn⟩ | ⟨hk, hn⟩
  · obtain rfl : k = 0 := hk
    exact (ok_q n (List.mem_append_left _ hn)).1
  · obtain rfl : k = 1 := hk
    exact ok_l n hn
  · obtain rfl : k = 3 := hk
    exact (ok_q n hn).2
theorem dr_line {ts : List El} (hd : ∀ t ∈ ts, DrE t) (hl : ts.length ≤ 4) : okLine ts = true := by
  unfold okLine
  rw [Bool.and_eq_true]
  exact ⟨decide_eq_true (by omega), List.all_eq_true.2 fun t ht => (hd t ht).okE⟩
theorem DrE.okB {t : El} (h : DrE t) : okEl (backE t) = true ∧ plainE (backE t) ∧ t.k ≠ 4 := by
  obtain ⟨k, n, p⟩ := t
  obtain ⟨hp, h⟩ := h
  obtain rfl : p = 0 := hp
  rcases h with ⟨hk, hn⟩ | ⟨hk, hn⟩ | ⟨hk, hn⟩
  · obtain rfl : k = 0 := hk
    exact ⟨(ok_q _ (q_tab2 n hn)).1, .inl rfl, by show (0 : Int) ≠ 4; decide⟩
  · obtain rfl : k = 1 := hk
    exact ⟨ok_l _ (l_tab3 n hn), .inr (.inl rfl), by show (1 : Int) ≠ 4; decide⟩
  · obtain rfl : k = 3 := hk
    exact ⟨(ok_q _ (q_tab3 n hn)).2, .inr (.inr rfl), by show (3 : Int) ≠ 4; decide⟩
theorem dr_back {ts : List El} (hd : ∀ t ∈ ts, DrE t) (hl : ts.length ≤ 4) : okBackLine ts = true ∧ outBackLine ts = bkTo ts 0 ∧ okLine (bkTo ts 0) = true ∧ (∀ t ∈ bkTo ts 0, plainE t) := by
  have h1 := okB_yes (dr_line hd hl) (noRes_all (fun j hj => ((hd _ (List.getElem_mem hj)).okB).2.2))
  have hm : ∀ t ∈ bkTo ts 0, ∃ u ∈ ts, t = backE u := fun t ht => by
    rw [bkTo_zero, List.mem_reverse, List.mem_map] at ht
    obtain ⟨u, hu, e⟩ := ht
    exact ⟨u, hu, e.symm⟩
  refine ⟨h1.1, h1.2, ?_, fun t ht => ?_⟩
  · unfold okLine
    rw [Bool.and_eq_true]
    refine ⟨decide_eq_true (by rw [bkTo_size ts (Nat.zero_le _)]; omega), List.all_eq_true.2 fun t ht => ?_⟩
    obtain ⟨u, hu, rfl⟩ := hm t ht
    exact (hd u hu).okB.1
  · obtain ⟨u, hu, rfl⟩ := hm t ht
    exact (hd u hu).okB.2.1
end Go.Proofs.Ytpnmledanloboaa
namespace Go.Proofs.Ytpnmledanloboaa
open Go.Fl Go.RowKit Go.Builtin
set_option linter.unusedSimpArgs false
set_option linter.unusedVariables false

theorem run_maxq {P : Program} (w : World) (ts : Array TypeId) (t : TypeId) {x y : Nat} {a b : Rat} (hx : Rq x a) (hy : Rq y b) :
    ∃ r s, (max_ ts t #[.float .f64 x, .float .f64 y]).run P w = .ok (.float .f64 r) w ∧ Rq r s ∧ a ≤ s ∧ ((r = x ∧ s = a) ∨ (r = y ∧ s = b)) := by
  have h2 : ∃ r s, (max2 (.float .f64 x) (.float .f64 y)).run P w = .ok (.float .f64 r) w ∧ Rq r s ∧ a ≤ s ∧ ((r = x ∧ s = a) ∨ (r = y ∧ s = b)) := by
    have nx := Rv.nan hx; have ny := Rv.nan hy
    have ho := order_sv' .f64 nx ny
    unfold max2
    simp only [ho]
    by_cases h1 : sv FloatKind.f64.format x < sv FloatKind.f64.format y
    · have hc : compare (sv FloatKind.f64.format x) (sv FloatKind.f64.format y) = .lt := Int.compare_eq_lt.2 h1
      rw [hc]
      have hab : a < b := (Rv.lt hx hy).1 ((sv_lt_iff _ _ _).1 h1)
      exact ⟨y, b, by simp, hy, Rat.le_of_lt hab, .inr ⟨rfl, rfl⟩⟩
    · by_cases h2 : sv FloatKind.f64.format x = sv FloatKind.f64.format y
      · have hc : compare (sv FloatKind.f64.format x) (sv FloatKind.f64.format y) = .eq := Int.compare_eq_eq.2 h2
        rw [hc]
        have hn : ¬ a < b := fun h => h1 ((sv_lt_iff _ _ _).2 ((Rv.lt hx hy).2 h))
        have hn2 : ¬ b < a := fun h => by
          have := (sv_lt_iff _ _ _).2 ((Rv.lt hy hx).2 h)
          omega
        have e : a = b := Rat.le_antisymm (Rat.not_lt.1 hn2) (Rat.not_lt.1 hn)
        cases hd : (FloatKind.f64.decode x).neg with
        | true => exact ⟨y, b, by simp [hd], hy, by rw [e]; exact Rat.le_refl, .inr ⟨rfl, rfl⟩⟩
        | false => exact ⟨x, a, by simp [hd], hx, Rat.le_refl, .inl ⟨rfl, rfl⟩⟩
      · have hc : compare (sv FloatKind.f64.format x) (sv FloatKind.f64.format y) = .gt := Int.compare_eq_gt.2 (by omega)
        rw [hc]
        exact ⟨x, a, by simp, hx, Rat.le_refl, .inl ⟨rfl, rfl⟩⟩
  obtain ⟨r, s, e, h3⟩ := h2
  refine ⟨r, s, ?_, h3⟩
  unfold max_
  simp [List.foldlM, e, Result.andThen]

/-- A ray that is drawn, as fractions. -/
theorem DrR.sd {r : Ry} (h : DrR r) : ∃ X Y, Sd r X Y ∧ In X 1 ∧ In Y 1 :=
  ⟨_, _, ⟨(q8_rw h.1).1, (q8_rw h.2.1).1⟩, (q8_rw h.1).2, (q8_rw h.2.1).2⟩
theorem DrR.is {r : Ry} (h : DrR r) : Ry.is r r := by
  have f : ∀ x ∈ XS ++ PS ++ ES5, Is .f32 x x := fun x hx => ⟨(xs_lt x hx).2.2.2, (xs_lt x hx).1⟩
  obtain ⟨h1, h2, h3, h4⟩ := h
  exact ⟨f _ (by simp [h1]), f _ (by simp [h2]), f _ (by simp [h3]), f _ (by simp [h4])⟩
/-- What the law asks of the ray that comes home. -/
structure HomeF (r M C : Ry) : Prop where
  f1 : fits (fsqrt (pw M.x M.y))
  f2 : fits (fsqrt (pw (fop .sub .f32 C.x r.x) (fop .sub .f32 C.y r.y)))
  c : fcmp .gtr .f32 (nar (fsqrt (pw (fop .sub .f32 C.x r.x) (fop .sub .f32 C.y r.y)))) (fop .mul .f32 981668463 (fop .add .f32 1065353216 (nar (fsqrt (pw M.x M.y))))) = false
theorem home_law {ts : List El} (hd : ∀ t ∈ ts, DrE t) (hl : ts.length ≤ 4) {r : Ry} (hr : DrR r) :
    HomeF r (passL ts r ts.length) (passL (bkTo ts 0) (passL ts r ts.length) (bkTo ts 0).length) := by
  obtain ⟨X, Y, hs, bx, by'⟩ := hr.sd
  obtain ⟨CX, CY, X', Y', hC, h0, n1, n2, _, _⟩ := home_near hd hl hs bx by' ts.length (Nat.le_refl _)
  rw [Nat.sub_self] at h0
  obtain ⟨e1, e2⟩ := Sd.uniq (show Sd r X' Y' from h0) hs
  subst e1; subst e2
  obtain ⟨X1, Y1, h1, b1, b2⟩ := fwd_all hd hl hs bx by' ts.length (Nat.le_refl _)
  have hcF := (cF_le (k := ts.length) hl).2
  have heF := (eF_le (k := ts.length) hl).2
  obtain ⟨l1, g, hg, g0, g1⟩ := long_rw h1.x h1.y (b1.weak (by grind)) (b2.weak (by grind))
  obtain ⟨dx, hdx, ix⟩ := diff_small hC.x hs.x (n1.weak heF)
  obtain ⟨dy, hdy, iy⟩ := diff_small hC.y hs.y (n2.weak heF)
  obtain ⟨l2, _⟩ := long_rw hdx hdy (ix.weak (by grind)) (iy.weak (by grind))
  obtain ⟨c, hc, c0, c1⟩ := long_small hdx hdy ix iy
  rw [show (bkTo ts 0).length = ts.length by rw [bkTo_size ts (Nat.zero_le _)]; omega]
  exact ⟨l1, l2, cmp_long hc hg c1 g0 g1⟩

/-- What the law asks of the matrices. -/
structure MatF (m p : Nat → Nat) : Prop where
  fin : ∀ i, i < 4 → ∃ a, Rw (m i) a
  finp : ∀ i, i < 4 → ∃ a, Rw (p i) a
  size : ∀ i, i < 4 → ∃ c, Rq (gapW (wid (m i)) 0) c ∧ In c 16
  prod : ∀ i, i < 4 → ∃ c, Rq (gapW (wid (m i)) (wid (p i))) c ∧ c ≤ 1/2000
  det : ∃ c, Rq (gapW (wid (detF m)) 4607182418800017408) c ∧ c ≤ 1/2000
theorem lt4 {i : Nat} (h : i < 4) : i = 0 ∨ i = 1 ∨ i = 2 ∨ i = 3 := by omega
theorem P2_le16 {k : Nat} (h : k ≤ 4) : P2 k ≤ 16 := by
  have t : ((List.range 5).all fun n => decide (P2 n ≤ 16)) = true := by decide +kernel
  exact of_decide_eq_true (List.all_eq_true.1 t k (List.mem_range.2 (by omega)))
theorem mat_law {ts : List El} (hd : ∀ t ∈ ts, DrE t) (hl : ts.length ≤ 4) {cut : Nat} (hc : cut ≤ ts.length) :
    MatF (lineM ts ts.length) (timesF (lineM (ts.drop cut) (ts.drop cut).length) (lineM (ts.take cut) (ts.take cut).length)) := by
  obtain ⟨a0, a1, a2, a3, hA, hAb, _⟩ := line_mx hd hl cut hc
  obtain ⟨m0, m1, m2, m3, b0, b1, b2, b3, hM, hMb, hB, hBb, hP⟩ := two_mx hd hl hc hA hAb (ts.length - cut) (by omega)
  have hl1 : (ts.take cut).length = cut := by rw [List.length_take]; omega
  have hl2 : (ts.drop cut).length = ts.length - cut := List.length_drop
  rw [hl1, hl2, lineM_take ts cut cut (Nat.le_refl _) hc]
  rw [show cut + (ts.length - cut) = ts.length by omega] at hM hMb
  obtain ⟨d0, d1, d2, d3, hD, hDb, hdet⟩ := line_mx hd hl ts.length (Nat.le_refl _)
  have hcj : cut + (ts.length - cut) ≤ 4 := by omega
  have h16 := P2_le16 hl
  have hpf := (pF_le hcj).2
  obtain ⟨z0, hz0, i0⟩ := prod_row (x := 0) (y := 0) (u := 0) (v := 0) hcj hB.r0 hA.r0 hB.r1 hA.r2 hBb.b0 hAb.b0 hBb.b1 hAb.b2
  obtain ⟨z1, hz1, i1⟩ := prod_row (x := 0) (y := 0) (u := 0) (v := 0) hcj hB.r0 hA.r1 hB.r1 hA.r3 hBb.b0 hAb.b1 hBb.b1 hAb.b3
  obtain ⟨z2, hz2, i2⟩ := prod_row (x := 0) (y := 0) (u := 0) (v := 0) hcj hB.r2 hA.r0 hB.r3 hA.r2 hBb.b2 hAb.b0 hBb.b3 hAb.b2
  obtain ⟨z3, hz3, i3⟩ := prod_row (x := 0) (y := 0) (u := 0) (v := 0) hcj hB.r2 hA.r1 hB.r3 hA.r3 hBb.b2 hAb.b1 hBb.b3 hAb.b3
  obtain ⟨D, hD1, hD2⟩ := det_near hD ⟨hDb.b0.weak h16, hDb.b1.weak h16, hDb.b2.weak h16, hDb.b3.weak h16⟩ (hdet.weak (dF_4 hl))
  refine ⟨fun i hi => ?_, fun i hi => ?_, fun i hi => ?_, fun i hi => ?_, gap_det hD1 hD2⟩
  · rcases lt4 hi with rfl | rfl | rfl | rfl
    · exact ⟨_, hM.r0⟩
    · exact ⟨_, hM.r1⟩
    · exact ⟨_, hM.r2⟩
    · exact ⟨_, hM.r3⟩
  · rcases lt4 hi with rfl | rfl | rfl | rfl
    · exact ⟨_, hz0⟩
    · exact ⟨_, hz1⟩
    · exact ⟨_, hz2⟩
    · exact ⟨_, hz3⟩
  · rcases lt4 hi with rfl | rfl | rfl | rfl
    · exact gap_zero hM.r0 (hMb.b0.weak h16)
    · exact gap_zero hM.r1 (hMb.b1.weak h16)
    · exact gap_zero hM.r2 (hMb.b2.weak h16)
    · exact gap_zero hM.r3 (hMb.b3.weak h16)
  · rcases lt4 hi with rfl | rfl | rfl | rfl
    · exact gap_prod hM.r0 hz0 (hP.p0.weak hpf) i0
    · exact gap_prod hM.r1 hz1 (hP.p1.weak hpf) i1
    · exact gap_prod hM.r2 hz2 (hP.p2.weak hpf) i2
    · exact gap_prod hM.r3 hz3 (hP.p3.weak hpf) i3
/-- What the law asks of the ray without kicks. -/
structure ImgF (m : Nat → Nat) (r R : Ry) : Prop where
  f0 : ∃ a, Rw R.x a
  f1 : ∃ a, Rw R.y a
  x : ∃ c, Rq (gapW (wid R.x) (fop .add .f64 (fop .mul .f64 (wid (m 0)) (wid r.x)) (fop .mul .f64 (wid (m 1)) (wid r.y)))) c ∧ c ≤ 1/200
  y : ∃ c, Rq (gapW (wid R.y) (fop .add .f64 (fop .mul .f64 (wid (m 2)) (wid r.x)) (fop .mul .f64 (wid (m 3)) (wid r.y)))) c ∧ c ≤ 1/200
theorem img_law {ts : List El} (hd : ∀ t ∈ ts, DrE t) (hl : ts.length ≤ 4) {r : Ry} (hr : DrR r) :
    ImgF (lineM ts ts.length) r (passL (ts.filter noKick) r (ts.filter noKick).length) := by
  obtain ⟨X0, Y0, hs, bx, by'⟩ := hr.sd
  obtain ⟨X, Y, a, b, c, d, hS, hM, hMb, n1, n2⟩ := img_near hd hl hs bx by' ts.length (Nat.le_refl _)
  have h16 := P2_le16 hl
  have hg := (gF_le (k := ts.length) hl).2
  rw [passK_all]
  exact ⟨⟨_, hS.x⟩, ⟨_, hS.y⟩, gap_img hS.x hM.r0 hM.r1 hs.x hs.y (hMb.b0.weak h16) (hMb.b1.weak h16) bx by' (n1.weak hg), gap_img hS.y hM.r2 hM.r3 hs.x hs.y (hMb.b2.weak h16) (hMb.b3.weak h16) bx by' (n2.weak hg)⟩
end Go.Proofs.Ytpnmledanloboaa
namespace Go.Proofs.Ytpnmledanloboaa
open Go.Fl Go.RowKit
set_option linter.unusedSimpArgs false
set_option linter.unusedVariables false

theorem rw_cn {x : Nat} {a : Rat} (h : Rw x a) : cn .f32 x = x := cn_of _ (rw_nan h)
theorem list4 {rs : List Nat} (h : rs.length = 4) : rs = [rs.getD 0 0, rs.getD 1 0, rs.getD 2 0, rs.getD 3 0] := by
  match rs, h with
  | [a, b, c, d], _ => rfl
/-- Four finite numbers: which words they are, and where. -/
theorem fres4 {B : Nat} {w : World} {v : Value} {F : Nat → Nat} (h : FResE B w v 4 F) (hf : ∀ i, i < 4 → ∃ a, Rw (F i) a) :
    ∃ g cap, v = .slice (some ⟨g, 0, none⟩) 4 cap ∧ 4 ≤ cap ∧ cap ≤ maxLen ∧ FS .f32 w v [F 0, F 1, F 2, F 3] ∧ (∀ k, k < 4 → Is .f32 (F k) (F k)) ∧ ∀ w', Below w.heap.size w w' → ∀ k, k < 4 → w'.cell? ⟨g, k, none⟩ = some (.float .f32 (F k)) := by
  obtain ⟨rs, hl, he, ho⟩ := h
  have hg : ∀ k, k < 4 → rs.getD k 0 = F k := fun k hk => by
    obtain ⟨a, ha⟩ := hf k hk
    exact (he k (by omega)).same (rw_nan ha)
  have e : rs = [F 0, F 1, F 2, F 3] := by
    rw [list4 hl, hg 0 (by omega), hg 1 (by omega), hg 2 (by omega), hg 3 (by omega)]
  have hS := fownE_FS ho he.lt
  obtain ⟨t, hr⟩ := ho
  obtain ⟨a, cap, hv, hlc, hcm, hwf, hmem⟩ := hS
  rcases hr.2 with ⟨_, h0⟩ | ⟨g, cap2, cur, rfl, hB, hg2, hc2, hm2, hs2, ht2⟩
  · rw [hl] at h0; cases h0
  simp only [Value.slice.injEq] at hv
  obtain ⟨rfl, _, rfl⟩ := hv
  rcases hmem with h0 | ⟨b, off, hb, hlt, hc⟩
  · rw [h0] at hl; cases hl
  simp only [Option.some.injEq, Addr.mk.injEq, and_true] at hb
  obtain ⟨rfl, rfl⟩ := hb
  refine ⟨g, cap2, by rw [hl], by omega, hcm, ?_, fun k hk => by have h := he k (by omega); rw [hg k hk] at h; exact h, fun w' hbw k hk => ?_⟩
  · rw [← e]
    exact ⟨_, cap2, rfl, hlc, hcm, hwf, .inr ⟨g, 0, rfl, hlt, hc⟩⟩
  · have h2 := hc k (by omega)
    rw [Nat.zero_add, hg k hk] at h2
    rw [hbw.cell (p := ⟨g, k, none⟩) (block_lt_of_cell h2)]
    exact h2
/-- Four numbers of any kind. -/
theorem fres4_any {B : Nat} {w : World} {v : Value} {F : Nat → Nat} (h : FResE B w v 4 F) :
    ∃ z, z.length = 4 ∧ FS .f32 w v z ∧ ∀ k, k < 4 → fromL z k = F k := by
  obtain ⟨rs, hl, he, ho⟩ := h
  refine ⟨rs, hl, fownE_FS ho he.lt, fun k hk => ?_⟩
  unfold fromL atL
  rw [if_pos hl]
  exact (he k (by omega)).eq
theorem fres4_of {B : Nat} {w : World} {v : Value} {F G : Nat → Nat} (h : FResE B w v 4 F) (k : ∀ j, j < 4 → F j = G j) : FResE B w v 4 G := by
  obtain ⟨rs, hl, he, ho⟩ := h
  exact ⟨rs, hl, fun j hj => k j (by omega) ▸ he j hj, ho⟩
theorem det4 {F : Nat → Nat} (hf : ∀ i, i < 4 → ∃ a, Rw (F i) a) : valDetOf [F 0, F 1, F 2, F 3] = detF F := by
  have hg : ∀ k, k < 4 → cn .f32 (F k) = F k := fun k hk => by obtain ⟨a, ha⟩ := hf k hk; exact rw_cn ha
  show detF (atL [F 0, F 1, F 2, F 3]) = detF F
  unfold detF
  show fop .sub .f32 (fop .mul .f32 (cn .f32 (F 0)) (cn .f32 (F 3))) (fop .mul .f32 (cn .f32 (F 1)) (cn .f32 (F 2))) = _
  rw [hg 0 (by omega), hg 1 (by omega), hg 2 (by omega), hg 3 (by omega)]
theorem okMx {ts : List El} (h : okLine ts = true) : okMatrixOf ts = true ∧ lenMatrixOf ts = 4 := ⟨h, by unfold lenMatrixOf; rw [if_pos h]⟩
end Go.Proofs.Ytpnmledanloboaa
