/-
  The way between places in eighths.
-/
import Derived.Test.YtibjajgcfbfppaaCor
import Derived.Test.YtibjajgcfbfppaaDy
import Derived.Laws.ComplexArith
namespace Go.Proofs.Ytibjajgcfbfppaa
open Go.Fl Go.RowKit
set_option linter.unusedSimpArgs false
set_option linter.unusedVariables false

def dyB (k : FloatKind) (u x : Nat) (n : Int) : Bool := decide (x < 2 ^ k.format.width) && decide (rung k.format x < k.format.infRung) && (neg k.format x == decide (n < 0)) && decide (sv k.format x = n * 2 ^ u)
theorem Dy.of {k : FloatKind} {u x : Nat} {n : Int} (h : dyB k u x n = true) : Dy k u x n := by
  unfold dyB at h
  simp only [Bool.and_eq_true, decide_eq_true_eq, beq_iff_eq] at h
  exact ⟨h.1.1.1, h.1.1.2, h.1.2, h.2⟩
theorem dy_is {k : FloatKind} {u x r : Nat} {n : Int} (h : Dy k u x n) (hr : Is k r x) : Dy k u r n := by rw [hr.same h.nan]; exact h
set_option maxRecDepth 100000
theorem tab_dy : ((List.range 360).all fun n => dyB .f32 146 (E8 ((n : Int) - 112)) ((n : Int) - 112)) = true := by decide +kernel
theorem dy_e8 (n : Int) (n0 : -112 ≤ n) (n1 : n < 248) : Dy .f32 146 (E8 n) n := by
  have hn : (n + 112).toNat < 360 := by omega
  have e : (((n + 112).toNat : Nat) : Int) - 112 = n := by omega
  have h := List.all_eq_true.1 tab_dy _ (List.mem_range.2 hn)
  simp only [e] at h
  exact Dy.of h
theorem e8_dy {x : Nat} {n : Int} (n0 : -112 ≤ n) (n1 : n < 248) (h : Dy .f32 146 x n) : x = E8 n := h.same (dy_e8 n n0 n1)
theorem tab_side : ∀ s : Fin 17, (dyB .f32 146 (floatOfInt .f32 (s.val : Int)) (8 * (s.val : Int)) && dyB .f32 146 (fop .quo .f32 (floatOfInt .f32 (s.val : Int)) 1073741824) (4 * (s.val : Int)) && (s.val == 0 || dyB .f32 146 (Op.negFloat .f32 (fop .quo .f32 (floatOfInt .f32 (s.val : Int)) 1073741824)) (-(4 * (s.val : Int))))) = true := by decide +kernel
theorem side_dy (s : Int) (h0 : 4 ≤ s) (h1 : s ≤ 16) : Dy .f32 146 (floatOfInt .f32 s) (8 * s) ∧ Dy .f32 146 (fop .quo .f32 (floatOfInt .f32 s) 1073741824) (4 * s) ∧ Dy .f32 146 (Op.negFloat .f32 (fop .quo .f32 (floatOfInt .f32 s) 1073741824)) (-(4 * s)) := by
  have h := tab_side ⟨s.toNat, by omega⟩
  simp only [Bool.and_eq_true, Bool.or_eq_true, beq_iff_eq] at h
  rw [show ((s.toNat : Nat) : Int) = s by omega] at h
  exact ⟨Dy.of h.1.1, Dy.of h.1.2, Dy.of (h.2.resolve_left (by omega))⟩
/-- The shorter way around. -/
def wayI (s n : Int) : Int := if n > 4 * s then n - 8 * s else if n < -(4 * s) then n + 8 * s else n

set_option maxHeartbeats 1000000 in
theorem iShort_dy (s n : Int) (h0 : 4 ≤ s) (h1 : s ≤ 16) (d : Nat) (hd : Dy .f32 146 d n) (hn : n.natAbs < 2 ^ 20) (w : World) :
    Calls Try.prog 49 #[.int .i64 s, .float .f32 d] w fun e w' => (∃ r, e = .returned (.float .f32 r) ∧ Dy .f32 146 r (wayI s n)) ∧ ∃ k, w' = w.drewN k := by
  obtain ⟨dS, dH, dM⟩ := side_dy s h0 h1
  have is32 := side32 s (by omega) (by omega)
  have ix := hd.is
  have c1 := hd.gtr dH
  have c2 := hd.lss dM
  have hng : ∀ r, Is .f32 r (fop .quo .f32 (floatOfInt .f32 s) 1073741824) → Is .f32 (Op.negFloat .f32 r) (Op.negFloat .f32 (fop .quo .f32 (floatOfInt .f32 s) 1073741824)) := fun r h => by rw [h.same dH.nan]; exact dM.is
  have HS := Lib.hid dS; have HD := Lib.hid hd
  clear dS dH dM hd
  by_cases q1 : n > 4 * s
  · rw [decide_eq_true q1] at c1
    rw [show wayI s n = n - 8 * s from if_pos q1]
    clear c2
    go_enter Try.func49, Try.ntmps49
    go_wp2_with (first | (apply wpList_farith; rfl; rfl; rfl; rfl; (first | with_reducible assumption | exact Is.const rfl); (first | with_reducible assumption | exact Is.const rfl); intro r n hr) | (apply wpList_fcmp; rfl; rfl; rfl; rfl; (first | with_reducible assumption | exact Is.const rfl); (first | with_reducible assumption | exact Is.const rfl); (first | with_reducible assumption | exact rfl)) | (have hg := hng _ (by assumption); (apply wpList_fcmp; rfl; rfl; rfl; rfl; (first | with_reducible assumption | exact Is.const rfl); (first | with_reducible assumption | exact Is.const rfl); (first | with_reducible assumption | exact rfl))))
    go_ret
    exact ⟨⟨_, rfl, dy_is (HD.out.sub32 HS.out (by decide) (by omega)) (by assumption)⟩, _, rfl⟩
  · rw [decide_eq_false q1] at c1
    by_cases q2 : n < -(4 * s)
    · rw [decide_eq_true q2] at c2
      rw [show wayI s n = n + 8 * s from by unfold wayI; rw [if_neg q1, if_pos q2]]
      go_enter Try.func49, Try.ntmps49
      go_wp2_with (first | (apply wpList_farith; rfl; rfl; rfl; rfl; (first | with_reducible assumption | exact Is.const rfl); (first | with_reducible assumption | exact Is.const rfl); intro r n hr) | (apply wpList_fcmp; rfl; rfl; rfl; rfl; (first | with_reducible assumption | exact Is.const rfl); (first | with_reducible assumption | exact Is.const rfl); (first | with_reducible assumption | exact rfl)) | (have hg := hng _ (by assumption); (apply wpList_fcmp; rfl; rfl; rfl; rfl; (first | with_reducible assumption | exact Is.const rfl); (first | with_reducible assumption | exact Is.const rfl); (first | with_reducible assumption | exact rfl))))
      go_ret
      exact ⟨⟨_, rfl, dy_is (HD.out.add32 HS.out (by decide) (by omega)) (by assumption)⟩, _, rfl⟩
    · rw [decide_eq_false q2] at c2
      rw [show wayI s n = n from by unfold wayI; rw [if_neg q1, if_neg q2]]
      go_enter Try.func49, Try.ntmps49
      go_wp2_with (first | (apply wpList_farith; rfl; rfl; rfl; rfl; (first | with_reducible assumption | exact Is.const rfl); (first | with_reducible assumption | exact Is.const rfl); intro r n hr) | (apply wpList_fcmp; rfl; rfl; rfl; rfl; (first | with_reducible assumption | exact Is.const rfl); (first | with_reducible assumption | exact Is.const rfl); (first | with_reducible assumption | exact rfl)) | (have hg := hng _ (by assumption); (apply wpList_fcmp; rfl; rfl; rfl; rfl; (first | with_reducible assumption | exact Is.const rfl); (first | with_reducible assumption | exact Is.const rfl); (first | with_reducible assumption | exact rfl))))
      go_ret
      exact ⟨⟨_, rfl, HD.out⟩, _, rfl⟩

set_option maxHeartbeats 1000000 in
theorem iEachShort_dy (a b n m : Int) (ha : 4 ≤ a) (ha' : a ≤ 16) (hb : 4 ≤ b) (hb' : b ≤ 16) (x y : Nat) (hx : Dy .f32 146 x n) (hy : Dy .f32 146 y m) (hn : n.natAbs < 2 ^ 20) (hm : m.natAbs < 2 ^ 20) (w : World) :
    Calls Try.prog 48 #[.complex .f32 x y, .func (.func 49) #[.int .i64 a] #[], .func (.func 49) #[.int .i64 b] #[]] w fun e w' => (∃ r q, e = .returned (.complex .f32 r q) ∧ Dy .f32 146 r (wayI a n) ∧ Dy .f32 146 q (wayI b m)) ∧ ∃ k, w' = w.drewN k := by
  have HX := Lib.hid hx; have HY := Lib.hid hy; have HN := Lib.hid hn; have HM := Lib.hid hm
  clear hx hy hn hm
  go_enter Try.func48, Try.ntmps48
  go_wp2_with fail
  refine (iShort_dy a n ha ha' x HX.out HN.out _).mono ?_
  rintro e w' ⟨⟨r, rfl, hr⟩, k, rfl⟩
  have HR := Lib.hid hr; clear hr
  go_wp2_with fail
  refine (iShort_dy b m hb hb' y HY.out HM.out _).mono ?_
  rintro e w' ⟨⟨q, rfl, hq⟩, k', rfl⟩
  have HQ := Lib.hid hq; clear hq
  go_wp2_with fail
  go_ret
  exact ⟨⟨_, _, rfl, HR.out, HQ.out⟩, _, rfl⟩

theorem wayI_le {s n : Int} (_ : 4 ≤ s) (h : -(8 * s) < n) (h' : n < 8 * s) : -(4 * s) ≤ wayI s n ∧ wayI s n ≤ 4 * s := by unfold wayI; split <;> (try split) <;> omega
theorem csub_e8 (P : Program) (t : TypeId) (n m p q : Int) (n0 : 0 ≤ n) (n1 : n < 56) (m0 : 0 ≤ m) (m1 : m < 56) (p0 : 0 ≤ p) (p1 : p < 56) (q0 : 0 ≤ q) (q1 : q < 56) (w : World) :
    (binOp .sub t (.complex .f32 (E8 p) (E8 q)) (.complex .f32 (E8 n) (E8 m))).run P w = .ok (.complex .f32 (E8 (p - n)) (E8 (q - m))) w := by
  refine run_complex_sum w .sub (.inr rfl) t .f32 _ _ _ _ _ _ ?_
  have d1 := (dy_e8 p (by omega) (by omega)).sub32 (dy_e8 n (by omega) (by omega)) (by decide) (by omega)
  have d2 := (dy_e8 q (by omega) (by omega)).sub32 (dy_e8 m (by omega) (by omega)) (by decide) (by omega)
  have e1 := e8_dy (by omega) (by omega) d1
  have e2 := e8_dy (by omega) (by omega) d2
  have fb : ∀ {x y : Nat}, Fl.nan .f32 (fop .sub .f32 x y) = false → floatBits .sub .f32 x y = some (fop .sub .f32 x y) := by
    intro x y h
    unfold fop at h ⊢
    cases hb : floatBits .sub .f32 x y with
    | some r => rfl
    | none => rw [hb] at h; simp only [nan_qn] at h; cases h
  unfold cSumBits
  rw [fb d1.nan, fb d2.nan, e1, e2]
  rfl

theorem hstep_sub {P : Program} {ops : Array Oper} {o : Oper} {a : Act} {w : World} {K : Act → World → Prop} {Q : Exit → Act → World → Prop} {E : Prop} (hgd : o.guard = none) (xt yt : TypeId) (X Y : Operand) (ho : o.op = .binOp .sub xt X Y yt)
    (v : Value) (hrun : (binOp .sub xt (a.eval X) (a.eval Y)).run P w = .ok v w) (h : K (a.put o.dst v) w) : if Region.wanted o (yielded ops a.tmps) = true then Oper.wp P o a w K Q else E := by
  have hw : Region.wanted o (yielded ops a.tmps) = true := by simp [Region.wanted, hgd]
  rw [if_pos hw]
  have hg : ∀ u v : Value, eqGuard .sub xt X Y u v = pure () := fun u v => rfl
  unfold Oper.wp
  have he : (execOp a.eval o).run P w = .ok (.value v) w := by
    simp [execOp, ho, hg, hrun, Result.andThen]
  rw [he]
  exact h

set_option maxHeartbeats 1000000 in
theorem iWay_e8 (a b : Int) (ha : 4 ≤ a) (ha' : a ≤ 7) (hb : 4 ≤ b) (hb' : b ≤ 7) (n m p q : Int) (n0 : -112 ≤ n) (n1 : n < 248) (m0 : -112 ≤ m) (m1 : m < 248) (p0 : -112 ≤ p) (p1 : p < 248) (q0 : -112 ≤ q) (q1 : q < 248) (w : World) :
    Calls Try.prog 20 #[GV a b, .complex .f32 (E8 n) (E8 m), .complex .f32 (E8 p) (E8 q)] w fun e w' => e = .returned (.tuple #[.complex .f32 (E8 (wayI a (p % (8 * a) - n % (8 * a)))) (E8 (wayI b (q % (8 * b) - m % (8 * b)))), .bool true]) ∧ Below w.heap.size w w' := by
  have HP := Lib.hid (gp_new w a b 25)
  have HB0 := Lib.hid ((Below.refl w.heap.size w).alloc (Nat.le_refl _) (.cells #[.int .i64 a, .int .i64 b] 25))
  have t1 := between a n ha ha'; have t2 := between b m hb hb'; have t3 := between a p ha ha'; have t4 := between b q hb hb'
  have z1 := Int.emod_lt_of_pos n (show 0 < 8 * a by omega); have z2 := Int.emod_lt_of_pos m (show 0 < 8 * b by omega)
  have z3 := Int.emod_lt_of_pos p (show 0 < 8 * a by omega); have z4 := Int.emod_lt_of_pos q (show 0 < 8 * b by omega)
  have HS := Lib.hid (fun (t : TypeId) (w : World) => csub_e8 Try.prog t (n % (8 * a)) (m % (8 * b)) (p % (8 * a)) (q % (8 * b)) t1.1 t1.2 t2.1 t2.2 t3.1 t3.2 t4.1 t4.2 w)
  have HD1 := Lib.hid (dy_e8 (p % (8 * a) - n % (8 * a)) (by omega) (by omega))
  have HD2 := Lib.hid (dy_e8 (q % (8 * b) - m % (8 * b)) (by omega) (by omega))
  have HA1 := Lib.hid (show (p % (8 * a) - n % (8 * a)).natAbs < 2 ^ 20 by omega)
  have HA2 := Lib.hid (show (q % (8 * b) - m % (8 * b)).natAbs < 2 ^ 20 by omega)
  have HW1 := Lib.hid (wayI_le (n := p % (8 * a) - n % (8 * a)) ha (by omega) (by omega))
  have HW2 := Lib.hid (wayI_le (n := q % (8 * b) - m % (8 * b)) hb (by omega) (by omega))
  clear t1 t2 t3 t4 z1 z2 z3 z4
  go_enter Try.func20, Try.ntmps20
  go_wp2_with fail
  refine (iIsPlace_e8 a b (small_grid ha ha' hb hb') n m n0 n1 m0 m1 _).mono ?_
  rintro e w1 ⟨rfl, h1⟩
  have HB1 := Lib.hid (below_up HB0.out h1); have HP1 := Lib.hid (HP.out.below h1)
  clear h1
  obtain ⟨c0, c1⟩ := HP1.out.cells
  go_wp2_with fail
  refine (iIsPlace_e8 a b (small_grid ha ha' hb hb') p q p0 p1 q0 q1 _).mono ?_
  rintro e w2 ⟨rfl, h2⟩
  have HB2 := Lib.hid (below_up HB1.out h2); have HP2 := Lib.hid (HP1.out.below h2)
  clear h2 c0 c1
  obtain ⟨c0, c1⟩ := HP2.out.cells
  go_wp2_with fail
  refine wp_region_noPanic ?_
  refine wp_region_held_drew (S := fun w' => w'.cell? ⟨w.heap.size, 0, none⟩ = some (.int .i64 a) ∧ w'.cell? ⟨w.heap.size, 1, none⟩ = some (.int .i64 b)) (by kernel_rfl) ⟨c0, c1⟩ (fun hHeld => ?_)
  ((refine wpAnyH_take (i := 0) (v := ?_) rfl (by kernel_rfl) (by kernel_rfl) (by kernel_rfl) (fun _ _ _ h => h) (Or.inl ⟨by rfl, ?_⟩) (by assumption) ?_; rotate_left; (· intro w hSw; (try dsimp only at hSw); go_simp; first | done | with_reducible rfl); (try simp only [List.getElem_toArray, List.getElem_cons_zero, Act.put, List.setIfInBounds_toArray, List.set_cons_zero, List.set_cons_succ])))
  ((refine wpAnyH_take (i := 1) (v := ?_) rfl (by kernel_rfl) (by kernel_rfl) (by kernel_rfl) (fun _ _ _ h => h) (Or.inl ⟨by rfl, ?_⟩) (by assumption) ?_; rotate_left; (· intro w hSw; (try dsimp only at hSw); go_simp; first | done | with_reducible rfl); (try simp only [List.getElem_toArray, List.getElem_cons_zero, List.getElem_cons_succ, Act.put, List.setIfInBounds_toArray, List.set_cons_zero, List.set_cons_succ])); (refine wpAnyH_take (i := 3) (v := ?_) rfl (by kernel_rfl) (by kernel_rfl) (by kernel_rfl) (fun _ _ _ h => h) (Or.inl ⟨by rfl, ?_⟩) (by assumption) ?_; rotate_left; (· intro w hSw; (try dsimp only at hSw); go_simp; first | done | with_reducible rfl); (try simp only [List.getElem_toArray, List.getElem_cons_zero, List.getElem_cons_succ, Act.put, List.setIfInBounds_toArray, List.set_cons_zero, List.set_cons_succ])); (refine wpAnyH_take (i := 4) (v := ?_) rfl (by kernel_rfl) (by kernel_rfl) (by kernel_rfl) (fun _ _ _ h => h) (Or.inl ⟨by rfl, ?_⟩) (by assumption) ?_; rotate_left; (· intro w hSw; (try dsimp only at hSw); go_simp; first | done | with_reducible rfl); (try simp only [List.getElem_toArray, List.getElem_cons_zero, List.getElem_cons_succ, Act.put, List.setIfInBounds_toArray, List.set_cons_zero, List.set_cons_succ])))
  (refine wpAnyH_ready (rs := [2]) (by kernel_rfl) (by simp) ?_; refine AllReadyH.cons (i := 2) rfl (fun K hK => ?_) AllReadyH.nil)
  go_simp
  have hd := (Below.refl w2.heap.size w2).drew
  refine (iWrapped_e8 a b ha ha' hb hb' p q p0 p1 q0 q1 _).mono ?_; rintro e w3 ⟨rfl, h3⟩
  have HB3 := Lib.hid (hd.trans (h3.mono hd.size))
  clear h3 hd
  go_wp2_with fail
  (refine hK.out _ _ (⟨(HP2.out.below HB3.out).cells.1, (HP2.out.below HB3.out).cells.2⟩) (fun hHeld => ?_); clear hK K; (try simp only [List.getElem_toArray, List.getElem_cons_zero, List.getElem_cons_succ, Act.put, List.setIfInBounds_toArray, List.set_cons_zero, List.set_cons_succ]))
  (refine wpAnyH_ready (rs := [5]) (by kernel_rfl) (by simp) ?_; refine AllReadyH.cons (i := 5) rfl (fun K hK => ?_) AllReadyH.nil)
  go_simp
  refine (iWrapped_e8 a b ha ha' hb hb' n m n0 n1 m0 m1 _).mono ?_; rintro e w4 ⟨rfl, h4⟩
  have HB4 := Lib.hid (HB3.out.trans (h4.mono HB3.out.size))
  clear h4
  go_wp2_with fail
  (refine hK.out _ _ (⟨(HP2.out.below HB4.out).cells.1, (HP2.out.below HB4.out).cells.2⟩) (fun hHeld => ?_); clear hK K; (try simp only [List.getElem_toArray, List.getElem_cons_zero, List.getElem_cons_succ, Act.put, List.setIfInBounds_toArray, List.set_cons_zero, List.set_cons_succ]))
  (refine wpAnyH_ready (rs := [6]) (by kernel_rfl) (by simp) ?_; refine AllReadyH.cons (i := 6) rfl (fun K hK => ?_) AllReadyH.nil)
  refine hstep_sub rfl _ _ _ _ rfl _ (HS.out _ _) ?_
  (refine hK.out _ _ (⟨(HP2.out.below HB4.out).cells.1, (HP2.out.below HB4.out).cells.2⟩) (fun hHeld => ?_); clear hK K; (try simp only [List.getElem_toArray, List.getElem_cons_zero, List.getElem_cons_succ, Act.put, List.setIfInBounds_toArray, List.set_cons_zero, List.set_cons_succ]))
  ((refine wpAnyH_take (i := 7) (v := ?_) rfl (by kernel_rfl) (by kernel_rfl) (by kernel_rfl) (fun _ _ _ h => h) (Or.inl ⟨by rfl, ?_⟩) (by assumption) ?_; rotate_left; (· intro w hSw; (try dsimp only at hSw); go_simp; first | done | with_reducible rfl); (try simp only [List.getElem_toArray, List.getElem_cons_zero, List.getElem_cons_succ, Act.put, List.setIfInBounds_toArray, List.set_cons_zero, List.set_cons_succ])))
  (refine wpAnyH_done (by kernel_rfl) ?_ _; refine NoPanic.normal ?_)
  clear hHeld c0 c1
  obtain ⟨c0, c1⟩ := (HP2.out.below HB4.out).cells
  go_wp2_with fail
  refine (iEachShort_dy a b _ _ ha (by omega) hb (by omega) _ _ HD1.out HD2.out HA1.out HA2.out _).mono ?_; rintro e w' ⟨⟨r, t, rfl, hr, ht⟩, k, rfl⟩
  have e1 := e8_dy (by have := HW1.out; omega) (by have := HW1.out; omega) hr
  have e2 := e8_dy (by have := HW2.out; omega) (by have := HW2.out; omega) ht
  subst e1 e2
  clear hr ht
  go_wp2_with fail
  go_ret2
  exact ⟨rfl, below_drewN (HB2.out.trans (HB4.out.mono HB2.out.size)) _⟩
/-- A place and a way. -/
theorem cway_e8 (P : Program) (t : TypeId) (n m p q : Int) (n0 : -64 ≤ n) (n1 : n < 192) (m0 : -64 ≤ m) (m1 : m < 192) (p0 : -28 ≤ p) (p1 : p ≤ 28) (q0 : -28 ≤ q) (q1 : q ≤ 28) (w : World) :
    (binOp .add t (.complex .f32 (E8 n) (E8 m)) (.complex .f32 (E8 p) (E8 q))).run P w = .ok (.complex .f32 (E8 (n + p)) (E8 (m + q))) w := by
  refine run_complex_sum w .add (.inl rfl) t .f32 _ _ _ _ _ _ ?_
  have d1 := (dy_e8 n (by omega) (by omega)).add32 (dy_e8 p (by omega) (by omega)) (by decide) (by omega)
  have d2 := (dy_e8 m (by omega) (by omega)).add32 (dy_e8 q (by omega) (by omega)) (by decide) (by omega)
  have e1 := e8_dy (by omega) (by omega) d1
  have e2 := e8_dy (by omega) (by omega) d2
  have fb : ∀ {x y : Nat}, Fl.nan .f32 (fop .add .f32 x y) = false → floatBits .add .f32 x y = some (fop .add .f32 x y) := by
    intro x y h
    unfold fop at h ⊢
    cases hb : floatBits .add .f32 x y with
    | some r => rfl
    | none => rw [hb] at h; simp only [nan_qn] at h; cases h
  unfold cSumBits
  rw [fb d1.nan, fb d2.nan, e1, e2]
  rfl
/-- A way leads from one place to the other. -/
theorem way_leads {s n p : Int} (hs : 4 ≤ s) : (n + wayI s (p % (8 * s) - n % (8 * s))) % (8 * s) = p % (8 * s) := by
  have key : ∀ c : Int, (n + (p % (8 * s) - n % (8 * s) + 8 * s * c)) % (8 * s) = p % (8 * s) := by
    intro c
    have h1 := Int.emod_add_mul_ediv n (8 * s)
    rw [show n + (p % (8 * s) - n % (8 * s) + 8 * s * c) = p % (8 * s) + 8 * s * (n / (8 * s) + c) by rw [Int.mul_add]; omega]
    rw [Int.add_mul_emod_self_left, Int.emod_emod_of_dvd _ (Int.dvd_refl _)]
  unfold wayI
  split
  · have := key (-1); rwa [show p % (8 * s) - n % (8 * s) + 8 * s * -1 = p % (8 * s) - n % (8 * s) - 8 * s by omega] at this
  · split
    · have := key 1; rwa [Int.mul_one] at this
    · have := key 0; rwa [Int.mul_zero, Int.add_zero] at this
/-- The way back is the opposite, unless it is half of a side. -/
theorem way_back {s d : Int} (hs : 4 ≤ s) : wayI s d = -wayI s (-d) ∨ wayI s d = 4 * s ∨ wayI s d = -(4 * s) := by
  unfold wayI; split <;> split <;> (try split) <;> (try split) <;> omega
end Go.Proofs.Ytibjajgcfbfppaa
