/- FnWaysShort: for all two lists of bytes the law returns true: what they draw is a grid, two places and a list of particles; the way from one place to the other leads there, is not longer than half of a side, and is the opposite of the way back unless it is half of a side; and turned speeds have the opposite momentum and the same energy, and are turned back to what they were. No condition. -/
import Derived.Test.YtibjajgcfbfppaaRows
import Derived.WalkKit
import Derived.ProofKit
import Derived.OpenShut
import Derived.ShutString
import Derived.ChangeOld
import Derived.Below
import Derived.Laws.Cover2
import Derived.Test.YtibjajgcfbfppaaWay
import Derived.Test.YtibjajgcfbfppaaDvC
import Derived.Test.YtibjajgcfbfppaaPtQ
import Derived.Test.YtibjajgcfbfppaaPtT
import Derived.Test.YtibjajgcfbfppaaPtE
import Derived.Test.YtibjajgcfbfppaaR8L
namespace Go.Proofs.Ytibjajgcfbfppaa.fnWaysShort
open Go.ChangeShapes Go.WideShapes Go.ChangeAt Go.RowKit Go.Fl
open Go.ChangeMaps (open_string shut_string)
set_option linter.unusedVariables false
open Go.Nl (NS)

theorem neg_e8 (n : Int) (n0 : -112 ≤ n) (n1 : n < 112) : Dv .f32 146 (Op.negFloat .f32 (E8 n)) (-n) := (dy_e8 n n0 (by omega)).dv.neg
theorem sum_neg (f g : Pt → Int) (ts : List Pt) (h : ∀ t, f t.turn = g t) (k : Nat) : sumI f (ts.map Pt.turn) k = sumI g ts k := by
  unfold sumI
  rw [← List.map_take, List.map_map]
  congr 2
  funext t
  exact h t
theorem sum_opp (f : Pt → Int) (ts : List Pt) (k : Nat) : sumI (fun t => -f t) ts k = -sumI f ts k := by
  unfold sumI
  induction ts.take k with
  | nil => rfl
  | cons t us ih => rw [List.map_cons, List.sum_cons, ih, List.map_cons, List.sum_cons]; omega
theorem way_in (s n p : Int) (hs : 4 ≤ s) (hs' : s ≤ 7) : -(4 * s) ≤ wayI s (p % (8 * s) - n % (8 * s)) ∧ wayI s (p % (8 * s) - n % (8 * s)) ≤ 4 * s := by
  have h1 := Int.emod_nonneg n (show 8 * s ≠ 0 by omega); have h2 := Int.emod_lt_of_pos n (show 0 < 8 * s by omega)
  have h3 := Int.emod_nonneg p (show 8 * s ≠ 0 by omega); have h4 := Int.emod_lt_of_pos p (show 0 < 8 * s by omega)
  exact wayI_le hs (by omega) (by omega)
theorem three {p q r : Prop} [Decidable p] [Decidable q] [Decidable r] (h : p ∨ q ∨ r) : decide p = true ∨ (decide p = false ∧ decide q = true) ∨ (decide p = false ∧ decide q = false ∧ decide r = true) := by
  by_cases h1 : p
  · exact .inl (decide_eq_true h1)
  · by_cases h2 : q
    · exact .inr (.inl ⟨decide_eq_false h1, decide_eq_true h2⟩)
    · exact .inr (.inr ⟨decide_eq_false h1, decide_eq_false h2, decide_eq_true ((h.resolve_left h1).resolve_left h2)⟩)
theorem quo_side (s : Int) (h0 : 4 ≤ s) (h1 : s ≤ 7) : fop .quo .f32 (floatOfInt .f32 s) 1073741824 = E8 (4 * s) := e8_dy (by omega) (by omega) (side_dy s h0 (by omega)).2.1

set_option maxHeartbeats 2000000 in
set_option maxRecDepth 100000 in
theorem walk (a0 : Option Addr) (len0 cap0 : Nat) (z0 : List Int) (a1 : Option Addr) (len1 cap1 : Nat) (z1 : List Int) (w : World) (w0 : NS .u8 w (.slice a0 len0 cap0) z0) (w1 : NS .u8 w (.slice a1 len1 cap1) z1) :
    Calls Try.prog 4 #[.slice a0 len0 cap0, .slice a1 len1 cap1] w fun e w' => e = .returned (.bool true) ∧ Below w.heap.size w w' := by
  have HC := Lib.hid w0
  have HM := Lib.hid w1
  clear w0 w1
  by_cases hl : (48 < len0 ∨ 48 < len1)
  · have HL := Lib.hid (show decide (48 < len0 ∨ 48 < len1) = true from decide_eq_true hl)
    clear hl
    go_enter Try.func4, Try.ntmps4
    go_wp2_with fail
    refine (lLong_any _ _ _ _ _ _ _).mono ?_; rw [HL.out]; rintro e w' ⟨rfl, rfl⟩
    go_wp2_with fail
    go_ret
    exact ⟨rfl, Below.refl _ _⟩
  have HL := Lib.hid (show decide (48 < len0 ∨ 48 < len1) = false from decide_eq_false hl)
  clear hl
  go_enter Try.func4, Try.ntmps4
  go_wp2_with fail
  refine (lLong_any _ _ _ _ _ _ _).mono ?_; rw [HL.out]; rintro e w' ⟨rfl, rfl⟩
  go_wp2_with fail
  refine (sR8Grid_any _ z0 _ HC.out).mono ?_; rintro e v1 ⟨a, b, ha, ha', hb, hb', rfl, hb1⟩
  have hp2 := gp_new v1 a b 25
  have hal := (Below.refl v1.heap.size v1).alloc (Nat.le_refl _) (.cells #[.int .i64 a, .int .i64 b] 25)
  go_wp2_with fail
  generalize v1.alloc (.cells #[.int .i64 a, .int .i64 b] 25) = v2 at hp2 hal ⊢
  have HB2 := Lib.hid (hb1.trans (hal.mono hb1.size))
  have HP := Lib.hid hp2
  clear hp2 hal hb1
  refine (sPlace_any _ z1 0 (by omega) (by omega) _ (HM.out.below HB2.out)).mono ?_; rintro e v3 ⟨n, m, n0, n1, m0, m1, rfl, hb3⟩
  have D3 := Lib.hid hb3
  clear hb3
  go_wp2_with fail
  refine (sPlace_any _ z1 2 (by omega) (by omega) _ (HM.out.below (HB2.out.trans (D3.out.mono HB2.out.size)))).mono ?_; rintro e v4 ⟨p, q, p0, p1, q0, q1, rfl, hb4⟩
  have D4 := Lib.hid (D3.out.trans (hb4.mono D3.out.size))
  have g0 := (HP.out.ever _ D4.out).1; have g1 := (HP.out.ever _ D4.out).2
  clear hb4
  go_wp2_with fail
  refine (iWay_e8 a b ha ha' hb (by omega) n m p q (by omega) (by omega) (by omega) (by omega) (by omega) (by omega) (by omega) (by omega) _).mono ?_; rintro e v5 ⟨rfl, hb5⟩
  have D5 := Lib.hid (D4.out.trans (hb5.mono D4.out.size))
  clear g0 g1 hb5
  have g0 := (HP.out.ever _ D5.out).1; have g1 := (HP.out.ever _ D5.out).2
  go_wp2_with fail
  refine (iWay_e8 a b ha ha' hb (by omega) p q n m (by omega) (by omega) (by omega) (by omega) (by omega) (by omega) (by omega) (by omega) _).mono ?_; rintro e v6 ⟨rfl, hb6⟩
  have D6 := Lib.hid (D5.out.trans (hb6.mono D5.out.size))
  clear g0 g1 hb6
  have g0 := (HP.out.ever _ D6.out).1; have g1 := (HP.out.ever _ D6.out).2
  have wx := way_in a n p ha ha'
  have wy := way_in b m q hb (by omega)
  have lx := way_leads (s := a) (n := n) (p := p) ha
  have ly := way_leads (s := b) (n := m) (p := q) hb
  have bx := way_back (s := a) (d := p % (8 * a) - n % (8 * a)) ha
  have bY := way_back (s := b) (d := q % (8 * b) - m % (8 * b)) hb
  have vx := way_in a p n ha ha'
  have vy := way_in b q m hb (by omega)
  rw [show -(p % (8 * a) - n % (8 * a)) = n % (8 * a) - p % (8 * a) by omega] at bx
  rw [show -(q % (8 * b) - m % (8 * b)) = m % (8 * b) - q % (8 * b) by omega] at bY
  generalize wayI a (p % (8 * a) - n % (8 * a)) = X at wx lx bx ⊢
  generalize wayI b (q % (8 * b) - m % (8 * b)) = Y at wy ly bY ⊢
  generalize wayI a (n % (8 * a) - p % (8 * a)) = X' at vx bx ⊢
  generalize wayI b (m % (8 * b) - q % (8 * b)) = Y' at vy bY ⊢
  have hcs := cway_e8 Try.prog 39 n m X Y n0 n1 m0 m1 (by omega) (by omega) (by omega) (by omega)
  go_wp2_with fail
  refine (iWrapPlace_e8 a b ha ha' hb (by omega) (n + X) (m + Y) (by omega) (by omega) (by omega) (by omega) _).mono ?_; rintro e v7 ⟨rfl, hb7⟩
  rw [lx, ly]
  have D7 := Lib.hid (D6.out.trans (hb7.mono D6.out.size))
  clear g0 g1 hb7 hcs lx ly
  have g0 := (HP.out.ever _ D7.out).1; have g1 := (HP.out.ever _ D7.out).2
  go_wp2_with fail
  refine (iWrapPlace_e8 a b ha ha' hb (by omega) p q (by omega) (by omega) (by omega) (by omega) _).mono ?_; rintro e v8 ⟨rfl, hb8⟩
  have D8 := Lib.hid (D7.out.trans (hb8.mono D7.out.size))
  clear g0 g1 hb8
  have g0 := (HP.out.ever _ D8.out).1; have g1 := (HP.out.ever _ D8.out).2
  have i1 := side32 a (by omega) (by omega)
  have i2 := side32 b (by omega) (by omega)
  have bt1 := between a p ha ha'; have bt2 := between b q hb (by omega)
  have ho1 : fcmp .eql .f32 (E8 (p % (8 * a))) (E8 (p % (8 * a))) = true := by rw [(dy_e8' (by omega) (by omega)).eql (dy_e8' (by omega) (by omega))]; simp
  have ho2 : fcmp .eql .f32 (E8 (q % (8 * b))) (E8 (q % (8 * b))) = true := by rw [(dy_e8' (by omega) (by omega)).eql (dy_e8' (by omega) (by omega))]; simp
  generalize p % (8 * a) = pa at ho1 ⊢
  generalize q % (8 * b) = qb at ho2 ⊢
  have dX := dy_e8' (n := X) (by omega) (by omega); have dY := dy_e8' (n := Y) (by omega) (by omega)
  have dA := dy_e8' (n := 4 * a) (by omega) (by omega); have dB := dy_e8' (n := 4 * b) (by omega) (by omega)
  have dA' := neg_e8 (4 * a) (by omega) (by omega); have dB' := neg_e8 (4 * b) (by omega) (by omega)
  have dX' := neg_e8 X' (by omega) (by omega); have dY' := neg_e8 Y' (by omega) (by omega)
  have HDS := Lib.hid (And.intro (And.intro dX dY) (And.intro (And.intro dA dB) (And.intro (And.intro dA' dB') (And.intro dX' dY'))))
  have j1 := dX.is; have j2 := dY.is; have j3 := dA.is; have j4 := dB.is; have j5 := dA'.is; have j6 := dB'.is; have j7 := dX'.is; have j8 := dY'.is
  have t1 : fcmp .gtr .f32 (E8 X) (E8 (4 * a)) = false := by rw [dX.gtr dA]; exact decide_eq_false (by omega)
  have t2 : fcmp .lss .f32 (E8 X) (Op.negFloat .f32 (E8 (4 * a))) = false := by rw [dX.lss dA']; exact decide_eq_false (by omega)
  have t3 : fcmp .gtr .f32 (E8 Y) (E8 (4 * b)) = false := by rw [dY.gtr dB]; exact decide_eq_false (by omega)
  have t4 : fcmp .lss .f32 (E8 Y) (Op.negFloat .f32 (E8 (4 * b))) = false := by rw [dY.lss dB']; exact decide_eq_false (by omega)
  have HQ := Lib.hid (show (∀ r, Is .f32 r (fop .quo .f32 (floatOfInt .f32 a) 1073741824) → r = E8 (4 * a)) ∧ (∀ r, Is .f32 r (fop .quo .f32 (floatOfInt .f32 b) 1073741824) → r = E8 (4 * b)) from ⟨fun r hr => by rw [quo_side a ha ha'] at hr; exact e8_of_is (by omega) (by omega) hr, fun r hr => by rw [quo_side b hb (by omega)] at hr; exact e8_of_is (by omega) (by omega) hr⟩)
  have HBX := Lib.hid bx; have HBY := Lib.hid bY
  clear dX dY dA dB dA' dB' dX' dY' bx bY wx wy vx vy bt1 bt2
  go_wp2_with (first | ((apply wpList_farith; rfl; rfl; rfl; rfl; (first | with_reducible assumption | exact Is.const rfl); (first | with_reducible assumption | exact Is.const rfl); intro r n hr); first | (with_reducible have e0 := HQ.out.1 _ hr; clear hr; subst e0) | (with_reducible have e0 := HQ.out.2 _ hr; clear hr; subst e0)) | (apply wpList_fcmp; rfl; rfl; rfl; rfl; (first | with_reducible assumption | exact Is.const rfl); (first | with_reducible assumption | exact Is.const rfl); (first | with_reducible assumption | exact rfl)) | (apply wpList_cneq; rfl; rfl; rfl; (with_reducible assumption); (with_reducible assumption)))
  clear t1 t2 t3 t4 j1 j2 j3 j4 j5 j6 j7 j8 i1 i2 g0 g1 ho1 ho2 HQ
  refine (sList_any _ z1 _ (HM.out.below (below_drewN (HB2.out.trans (D8.out.mono HB2.out.size)) _))).mono ?_
  rintro e v9 ⟨V1, ts, rfl, hts, hdr, O1, hb9⟩
  have HO1 := Lib.hid O1; have HK := Lib.hid hdr.oks
  have D9 := Lib.hid ((below_drewN D8.out _).trans (hb9.mono (show v2.heap.size ≤ _ from D8.out.size)))
  clear O1 hb9 hdr D3 D4 D5 D6 D7 D8
  go_wp2_with fail
  refine (iTurn_pt _ _ ts _ HO1.out HK.out (by omega)).mono ?_
  rintro e v10 ⟨⟨V2, rfl, O2⟩, hb10⟩
  have HO2 := Lib.hid O2; have HO1 := Lib.hid (r4_below HO1.out hb10)
  have D10 := Lib.hid (D9.out.trans (hb10.mono D9.out.size))
  have HK2 := Lib.hid (oks_turn HK.out)
  have HL2 := Lib.hid (show (ts.map Pt.turn).length = ts.length by simp)
  clear O2 hb10 D9
  go_wp2_with fail
  refine (iTurn_pt _ _ (ts.map Pt.turn) _ HO2.out HK2.out (by rw [HL2.out]; omega)).mono ?_
  rintro e v11 ⟨⟨V3, rfl, O3⟩, hb11⟩
  rw [show (ts.map Pt.turn).map Pt.turn = ts by rw [List.map_map]; exact (List.map_congr_left (fun t _ => turn_turn t)).trans (List.map_id _)] at O3
  have HO3 := Lib.hid O3; have HO1 := Lib.hid (r4_below HO1.out hb11); have HO2 := Lib.hid (r4_below HO2.out hb11)
  have D11 := Lib.hid (D10.out.trans (hb11.mono D10.out.size))
  clear O3 hb11 D10
  go_wp2_with fail
  refine (iMomentum_pt _ _ ts _ HO1.out HK.out (by omega)).mono ?_
  rintro e v12 ⟨⟨pa', pb', rfl, hpa, hpb⟩, hb12⟩
  have HP1 := Lib.hid (And.intro hpa hpb)
  have HO3 := Lib.hid (r4_below HO3.out hb12); have HO1 := Lib.hid (r4_below HO1.out hb12); have HO2 := Lib.hid (r4_below HO2.out hb12)
  have D12 := Lib.hid (D11.out.trans (hb12.mono D11.out.size))
  clear hpa hpb hb12 D11
  go_wp2_with fail
  refine (iMomentum_pt _ _ (ts.map Pt.turn) _ HO2.out HK2.out (by rw [HL2.out]; omega)).mono ?_
  rintro e v13 ⟨⟨qa', qb', rfl, hqa, hqb⟩, hb13⟩
  rw [HL2.out, sum_neg momX (fun t => -momX t) ts (fun t => Int.neg_mul _ _), sum_opp] at hqa
  rw [HL2.out, sum_neg momY (fun t => -momY t) ts (fun t => Int.neg_mul _ _), sum_opp] at hqb
  have hqa' := hqa.dv.neg; have hqb' := hqb.dv.neg
  rw [Int.neg_neg] at hqa' hqb'
  have hm1 : fcmp .eql .f32 pa' (Op.negFloat .f32 qa') = true := by rw [HP1.out.1.dv.eql hqa']; simp
  have hm2 : fcmp .eql .f32 pb' (Op.negFloat .f32 qb') = true := by rw [HP1.out.2.dv.eql hqb']; simp
  have HMM := Lib.hid (And.intro hm1 hm2)
  have HO3 := Lib.hid (r4_below HO3.out hb13); have HO1 := Lib.hid (r4_below HO1.out hb13); have HO2 := Lib.hid (r4_below HO2.out hb13)
  have D13 := Lib.hid (D12.out.trans (hb13.mono D12.out.size))
  clear hqa hqb hqa' hqb' hm1 hm2 hb13 D12
  go_wp2_with fail
  refine (iEnergy_pt _ _ ts _ HO1.out HK.out (by omega)).mono ?_
  rintro e v14 ⟨⟨e1, rfl, he1⟩, hb14⟩
  have HE1 := Lib.hid he1
  have HO3 := Lib.hid (r4_below HO3.out hb14); have HO1 := Lib.hid (r4_below HO1.out hb14); have HO2 := Lib.hid (r4_below HO2.out hb14)
  have D14 := Lib.hid (D13.out.trans (hb14.mono D13.out.size))
  clear he1 hb14 D13
  go_wp2_with fail
  refine (iEnergy_pt _ _ (ts.map Pt.turn) _ HO2.out HK2.out (by rw [HL2.out]; omega)).mono ?_
  rintro e v15 ⟨⟨e2, rfl, he2⟩, hb15⟩
  rw [HL2.out, sum_neg eneI eneI ts (fun t => by unfold eneI Pt.turn; simp only [Int.neg_mul_neg])] at he2
  have he : e2 = e1 := he2.same HE1.out
  subst he
  have HO3 := Lib.hid (r4_below HO3.out hb15); have HO1 := Lib.hid (r4_below HO1.out hb15)
  have D15 := Lib.hid (D14.out.trans (hb15.mono D14.out.size))
  have ie := he2.is
  have hen : fcmp .neq .f32 e2 e2 = false := by rw [he2.dv.neq he2.dv]; simp
  have hm1 := HMM.out.1; have hm2 := HMM.out.2
  clear he2 hb15 D14 HO2 HE1
  go_wp2_with (first | (apply wpList_fcmp; rfl; rfl; rfl; rfl; (first | with_reducible assumption | exact Is.const rfl); (first | with_reducible assumption | exact Is.const rfl); (first | with_reducible assumption | exact rfl)) | (apply wpList_cneq; rfl; rfl; rfl; (with_reducible assumption); (with_reducible assumption)))
  refine (iSame_pt _ _ _ _ ts _ HO3.out HO1.out HK.out (by omega)).mono ?_
  rintro e v16 ⟨rfl, hb16⟩
  have D16 := Lib.hid (HB2.out.trans ((D15.out.trans (hb16.mono D15.out.size)).mono HB2.out.size))
  clear hb16 HO1 HO3 D15 HMM hm1 hm2 hen ie HP1
  obtain ⟨⟨dX, dY⟩, ⟨dA, dB⟩, ⟨dA', dB'⟩, ⟨dX', dY'⟩⟩ := HDS.out
  have j1 := dX.is; have j2 := dY.is; have j3 := dA.is; have j4 := dB.is; have j5 := dA'.is; have j6 := dB'.is; have j7 := dX'.is; have j8 := dY'.is
  have x1 := dX.eql dX'; have x2 := dX.eql dA; have x3 := dX.eql dA'
  have y1 := dY.eql dY'; have y2 := dY.eql dB; have y3 := dY.eql dB'
  have hx := three HBX.out
  have hy := three HBY.out
  clear dX dY dA dB dA' dB' dX' dY' HDS HBX HBY
  rcases hx with h1 | ⟨h1, h2⟩ | ⟨h1, h2, h3⟩ <;> rcases hy with k1 | ⟨k1, k2⟩ | ⟨k1, k2, k3⟩
  · rw [h1] at x1; clear x2 x3
    rw [k1] at y1; clear y2 y3
    go_wp2_with (apply wpList_fcmp; rfl; rfl; rfl; rfl; (first | with_reducible assumption | exact Is.const rfl); (first | with_reducible assumption | exact Is.const rfl); (first | with_reducible assumption | exact rfl))
    go_ret
    exact ⟨rfl, D16.out⟩
  · rw [h1] at x1; clear x2 x3
    rw [k1] at y1; rw [k2] at y2; clear y3
    go_wp2_with (apply wpList_fcmp; rfl; rfl; rfl; rfl; (first | with_reducible assumption | exact Is.const rfl); (first | with_reducible assumption | exact Is.const rfl); (first | with_reducible assumption | exact rfl))
    go_ret
    exact ⟨rfl, D16.out⟩
  · rw [h1] at x1; clear x2 x3
    rw [k1] at y1; rw [k2] at y2; rw [k3] at y3
    go_wp2_with (apply wpList_fcmp; rfl; rfl; rfl; rfl; (first | with_reducible assumption | exact Is.const rfl); (first | with_reducible assumption | exact Is.const rfl); (first | with_reducible assumption | exact rfl))
    go_ret
    exact ⟨rfl, D16.out⟩
  · rw [h1] at x1; rw [h2] at x2; clear x3
    rw [k1] at y1; clear y2 y3
    go_wp2_with (apply wpList_fcmp; rfl; rfl; rfl; rfl; (first | with_reducible assumption | exact Is.const rfl); (first | with_reducible assumption | exact Is.const rfl); (first | with_reducible assumption | exact rfl))
    go_ret
    exact ⟨rfl, D16.out⟩
  · rw [h1] at x1; rw [h2] at x2; clear x3
    rw [k1] at y1; rw [k2] at y2; clear y3
    go_wp2_with (apply wpList_fcmp; rfl; rfl; rfl; rfl; (first | with_reducible assumption | exact Is.const rfl); (first | with_reducible assumption | exact Is.const rfl); (first | with_reducible assumption | exact rfl))
    go_ret
    exact ⟨rfl, D16.out⟩
  · rw [h1] at x1; rw [h2] at x2; clear x3
    rw [k1] at y1; rw [k2] at y2; rw [k3] at y3
    go_wp2_with (apply wpList_fcmp; rfl; rfl; rfl; rfl; (first | with_reducible assumption | exact Is.const rfl); (first | with_reducible assumption | exact Is.const rfl); (first | with_reducible assumption | exact rfl))
    go_ret
    exact ⟨rfl, D16.out⟩
  · rw [h1] at x1; rw [h2] at x2; rw [h3] at x3
    rw [k1] at y1; clear y2 y3
    go_wp2_with (apply wpList_fcmp; rfl; rfl; rfl; rfl; (first | with_reducible assumption | exact Is.const rfl); (first | with_reducible assumption | exact Is.const rfl); (first | with_reducible assumption | exact rfl))
    go_ret
    exact ⟨rfl, D16.out⟩
  · rw [h1] at x1; rw [h2] at x2; rw [h3] at x3
    rw [k1] at y1; rw [k2] at y2; clear y3
    go_wp2_with (apply wpList_fcmp; rfl; rfl; rfl; rfl; (first | with_reducible assumption | exact Is.const rfl); (first | with_reducible assumption | exact Is.const rfl); (first | with_reducible assumption | exact rfl))
    go_ret
    exact ⟨rfl, D16.out⟩
  · rw [h1] at x1; rw [h2] at x2; rw [h3] at x3
    rw [k1] at y1; rw [k2] at y2; rw [k3] at y3
    go_wp2_with (apply wpList_fcmp; rfl; rfl; rfl; rfl; (first | with_reducible assumption | exact Is.const rfl); (first | with_reducible assumption | exact Is.const rfl); (first | with_reducible assumption | exact rfl))
    go_ret
    exact ⟨rfl, D16.out⟩
/-! ### from the walk to the statement -/
theorem own : ownKnob Try.prog.godebug = none := by kernel_rfl
theorem laidOut : laidOutB Try.prog = true := by kernel_rfl
set_option maxRecDepth 100000 in
theorem lifted (os : Os) (started : os.Started) (H : Type) (enc : TypeId × Value → H) :
    ReturnsInHanded {} Try.checked os 4 .any (Rows.fnWaysShortSpec.pre6 enc Try.prog Try.f4 Rows.fnWaysShortRow.domain false) (Rows.fnWaysShortSpec.post enc Try.prog Try.f4 false true false false) := by
  refine returnsInHanded_of_change (C := Try.checked) own started (by kernel_rfl) Try.func4
    (ChangeSpec.witness6 (enc := enc) (C := Try.checked) false ⟨#[], #[.slice none 0 0, .slice none 0 0], []⟩ 8 (by kernel_rfl) (by kernel_rfl) (by kernel_rfl) (by kernel_rfl)) ?_
  intro W base args ds gs before hval0 hW hcnd _
  have hval : ∀ (j : Nat) t v, Try.f4.params[j]? = some t → args[j]? = some v → Value.okWide Try.prog W .any base t v := hval0
  have hW' := hW
  obtain ⟨p, q, hA0, hV, rfl, hfz, hnd⟩ := hW
  have hA : DataW.TrodAll enc Try.prog W 0 (fun _ => true) true Try.f4.params.toList args.toList ds p := hA0
  rw [Try.params4] at hA hval
  obtain ⟨v0, vs0, d0, ds0, p0, q0, hargs, rfl, rfl, h0, r0⟩ := trodAll_cons hA
  obtain ⟨v1, vs1, d1, ds1, p1, q1, rfl, rfl, rfl, h1, r1⟩ := trodAll_cons r0
  obtain ⟨rfl, rfl, rfl⟩ := trodAll_nil r1
  obtain rfl : args = #[v0, v1] := by cases args; simp_all
  obtain ⟨rfl, rfl⟩ := trodVars_none hV
  obtain ⟨a0, len0, cap0, rfl⟩ := okWide_slice Try.underlying22 (hval 0 22 v0 rfl rfl)
  have k0 := h0
  have lt0 : ∀ x ∈ p0, x.block < W.heap.size := by obtain ⟨m, hm⟩ := k0; exact DataW.trod_lt m _ _ _ hm
  obtain ⟨z0, w0⟩ : ∃ zs, Nl.NS .u8 W (.slice a0 len0 cap0) zs := Nl.open_nums Try.underlying22 Try.underlying5 (by kernel_rfl) h0
  obtain ⟨a1, len1, cap1, rfl⟩ := okWide_slice Try.underlying22 (hval 1 22 v1 rfl rfl)
  have k1 := h1
  have lt1 : ∀ x ∈ p1, x.block < W.heap.size := by obtain ⟨m, hm⟩ := k1; exact DataW.trod_lt m _ _ _ hm
  obtain ⟨z1, w1⟩ : ∃ zs, Nl.NS .u8 W (.slice a1 len1 cap1) zs := Nl.open_nums Try.underlying22 Try.underlying5 (by kernel_rfl) h1
  clear hA0 hval0
  refine (walk a0 len0 cap0 z0 a1 len1 cap1 z1 W w0 w1).mono fun e W' ⟨he, bel⟩ => ?_
  subst he
  exact ⟨_, rfl, _, _, _, [], _, [], hW', trodAll_mk1 (shut_bool Try.underlying4 _), (trodAll_cons_mk (Below.trod laidOut (by kernel_rfl) (of_decide_eq_true (by kernel_rfl)) k0 bel lt0) (trodAll_cons_mk (Below.trod laidOut (by kernel_rfl) (of_decide_eq_true (by kernel_rfl)) k1 bel lt1) trodAll_mk0)), rfl, bel.frame _, fun h => by cases h⟩

theorem over : Rows.fnWaysShortRow.holds Try.pinned (OpenSpec.ofChange Rows.fnWaysShortSpec) :=
  OpenClaim.holds_of_wide 4 Try.f4 rfl rfl rfl rfl rfl rfl rfl ⟨rfl, rfl, rfl, rfl, rfl⟩ rfl rfl rfl rfl rfl (by kernel_rfl) Try.func4 (by kernel_rfl)
    (of_decide_eq_true (by kernel_rfl)) (by unfold Func.isWrapper; first | (rw [if_pos (by decide +kernel)]; kernel_rfl) | (rw [if_neg (by decide +kernel)]; exact ⟨rfl, rfl⟩))
    (fun os started H enc _ => lifted os started H enc)

/-- The statement. -/
theorem proved : Rows.FnWaysShortSaid := over
#print axioms proved
end Go.Proofs.Ytibjajgcfbfppaa.fnWaysShort
