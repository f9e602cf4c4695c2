/-
  Which lines are stable, of the program and of the model.
  Stable rings: the answers of both sides.
-/
import Derived.Test.YtpnmledanloboaaZer
import Derived.Test.YtpnmledanloboaaLmb
import Derived.ChangeKeysEq
namespace Go.Proofs.Ytpnmledanloboaa
open Go.Fl Go.RowKit Ieee
set_option linter.unusedSimpArgs false
set_option linter.unusedVariables false

/-- An absolute value. -/
def absF (x : Nat) : Nat := if nan .f32 x = true then qn .f32 else r32 x
theorem r32_lt (x : Nat) : r32 x < 2147483648 := rung_lt _ x
theorem r32_r32 (x : Nat) : r32 (r32 x) = r32 x := Nat.mod_eq_of_lt (r32_lt x)
theorem neg_r32 (x : Nat) : neg FloatKind.f32.format (r32 x) = false := by
  have h := r32_lt x
  unfold neg
  rw [show FloatKind.f32.format.signWeight = 2147483648 by decide, Nat.div_eq_of_lt h]
  rfl
theorem r32_width (x : Nat) : r32 x < 2 ^ FloatKind.f32.format.width := Nat.lt_of_lt_of_le (r32_lt x) (by decide)
theorem nan_r32 (x : Nat) : nan .f32 (r32 x) = nan .f32 x := by rw [nan_r, nan_r, r32_r32]
theorem mod63 (X : Nat) : X % 2 ^ 63 = rung FloatKind.f64.format X := rfl
theorem neg_mod63 (X : Nat) : neg FloatKind.f64.format (X % 2 ^ 63) = false := by
  unfold neg
  rw [show FloatKind.f64.format.signWeight = 2 ^ 63 by decide, Nat.div_eq_of_lt (Nat.mod_lt _ (by decide))]
  rfl
theorem rung_mod63 (X : Nat) : rung FloatKind.f64.format (X % 2 ^ 63) = rung FloatKind.f64.format X := by
  rw [mod63]; exact Nat.mod_eq_of_lt (rung_lt _ X)
theorem abs_wid (X : Nat) (hn : nan .f32 X = false) : fabs (wid X) = wid (r32 X) := by
  have hw : nan .f64 (wid X) = false := by rw [nan_wid, hn]
  unfold fabs
  rw [hw, if_neg (by simp)]
  refine ext_word FloatKind.f64.format (Nat.lt_of_lt_of_le (Nat.mod_lt _ (by decide)) (by decide)) (wid_lt _) ?_ ?_
  · rw [neg_mod63]
    rcases fin_or_inf hn with h | h
    · rw [(wid_fin (b := r32 X) (by rw [show rung _ (r32 X) = _ from r32_r32 X]; exact h)).1, neg_r32]
    · rw [(wid_inf (b := r32 X) (by rw [show rung _ (r32 X) = _ from r32_r32 X]; exact h)).1, neg_r32]
  · rw [rung_mod63]
    rcases fin_or_inf hn with h | h
    · have h1 := (wid_fin (b := X) h).2.2
      have h2 := (wid_fin (b := r32 X) (by rw [show rung _ (r32 X) = _ from r32_r32 X]; exact h)).2.2
      rw [show rung FloatKind.f32.format (r32 X) = r32 X from r32_r32 X] at h2
      exact V_inj _ (h1.trans h2.symm)
    · rw [(wid_inf (b := X) h).2, (wid_inf (b := r32 X) (by rw [show rung _ (r32 X) = _ from r32_r32 X]; exact h)).2]
theorem nar_abs (X : Nat) : nar (fabs (wid X)) = absF X := by
  unfold absF
  by_cases hn : nan .f32 X = true
  · rw [if_pos hn]
    have : nan .f64 (fabs (wid X)) = true := by rw [nan_fabs, nan_wid, hn]
    unfold nar
    rw [if_pos this]
  · have hn' : nan .f32 X = false := by simpa using hn
    rw [if_neg hn, abs_wid X hn', nar_wid (r32_width X) (cn_of _ (by rw [nan_r32, hn']))]
theorem fits_abs (X : Nat) : fits (fabs (wid X)) := by
  by_cases hn : nan .f32 X = true
  · exact .inl (by rw [nan_fabs, nan_wid, hn])
  · have hn' : nan .f32 X = false := by simpa using hn
    rcases fin_or_inf hn' with h | h
    · exact .inr (.inr (by rw [nar_abs, absF, if_neg hn, show rung _ (r32 X) = _ from r32_r32 X]; exact h))
    · exact .inr (.inl (by rw [abs_wid X hn']; exact (wid_inf (b := r32 X) (by rw [show rung _ (r32 X) = _ from r32_r32 X]; exact h)).2))
theorem is_absF (X : Nat) (h : X < 2 ^ FloatKind.f32.format.width) : Is .f32 (absF X) (absF X) := by
  unfold absF
  split
  · exact ⟨cn_nan _ (nan_qn _), qn_lt _⟩
  · rename_i hn
    exact ⟨cn_of _ (by rw [nan_r32]; simpa using hn), r32_width X⟩
theorem key0 : key FloatKind.f32.format 0 = 0 := by decide
theorem key_le {x : Nat} (hn : nan .f32 x = false) : fcmp .leq .f32 x 0 = decide (neg FloatKind.f32.format x = true ∨ r32 x = 0) := by
  rw [fcmp_leq .f32 hn (by decide), key0]
  unfold key
  apply decide_eq_decide.2
  change ((if neg FloatKind.f32.format x = true then -(r32 x : Int) else (r32 x : Int)) ≤ 0) ↔ _
  by_cases h : neg FloatKind.f32.format x = true
  · rw [if_pos h]; constructor
    · intro _; exact .inl h
    · intro _; omega
  · rw [if_neg h]; constructor
    · intro h1; exact .inr (by omega)
    · intro h1; rcases h1 with h1 | h1
      · exact absurd h1 h
      · omega
theorem signed_pos (m n : Nat) : 0 ≤ signed false m n := by
  show (0 : Int) ≤ ((m <<< n : Nat) : Int)
  exact Int.natCast_nonneg _
theorem sub_abs {x : Nat} (hn : nan .f32 x = false) (h : neg FloatKind.f32.format x = true ∨ r32 x = 0) : fop .sub .f32 0 x = r32 x := by
  have n0 : neg FloatKind.f32.format 0 = false := by decide
  unfold fop floatBits Format.sub
  dsimp only
  rw [read_zero r32_nil, n0]
  rcases fin_or_inf hn with hf | hf
  · rw [read_fin hf]
    unfold Datum.opposite Datum.sum
    dsimp only [Option.map_some]
    unfold Format.write
    dsimp only
    have e1 : min FloatKind.f32.format.leastPlace (FloatKind.f32.format.leastPlace + (up FloatKind.f32.format (r32 x) : Int)) = FloatKind.f32.format.leastPlace := by omega
    have e2 : (FloatKind.f32.format.leastPlace + (up FloatKind.f32.format (r32 x) : Int) - FloatKind.f32.format.leastPlace).toNat = up FloatKind.f32.format (r32 x) := by omega
    rw [e1, e2, signed_zero, Int.zero_add, signed_abs9]
    refine ext_word FloatKind.f32.format (nearest_lt ..) (r32_width x) ?_ ((near_same _ (Nat.le_of_lt hf) rfl).trans (r32_r32 x).symm)
    rw [nearest_neg, neg_r32]
    rcases h with h | h
    · rw [h]
      have := signed_pos (mag FloatKind.f32.format (r32 x)) (up FloatKind.f32.format (r32 x))
      simp only [Bool.not_true]
      split
      · rfl
      · exact decide_eq_false (by omega)
    · rw [h]
      have : mag FloatKind.f32.format 0 = 0 := by decide
      rw [this, signed_zero, if_pos rfl]
      rfl
  · rw [read_inf hf]
    have hx : neg FloatKind.f32.format x = true := by
      rcases h with h | h
      · exact h
      · rw [h] at hf; exact absurd hf (by decide)
    rw [hx]
    unfold Datum.opposite Datum.sum
    dsimp only [Option.map_some]
    unfold Format.write
    dsimp only
    rw [hf]
    rfl
theorem size_abs {X : Nat} (hl : X < 2 ^ FloatKind.f32.format.width) (hc : cn .f32 X = X) : (if fcmp .leq .f32 X 0 = true then fop .sub .f32 0 X else X) = absF X := by
  unfold absF
  by_cases hn : nan .f32 X = true
  · rw [if_pos hn, fcmp_nan_left .leq (by decide) .f32 0 hn, if_neg (by decide), ← hc, cn_nan _ hn]
  · have hn' : nan .f32 X = false := by simpa using hn
    rw [if_neg hn, key_le hn']
    by_cases h : neg FloatKind.f32.format X = true ∨ r32 X = 0
    · rw [decide_eq_true h, if_pos rfl, sub_abs hn' h]
    · rw [decide_eq_false h, if_neg (by decide)]
      refine ext_word FloatKind.f32.format hl (r32_width X) ?_ (r32_r32 X).symm
      rw [neg_r32]
      simpa using (fun e => h (.inl e))

theorem iAbs_any (x X : Nat) (ix : Is .f32 x X) (w : World) : Calls Try.prog 100 #[.float .f32 x] w fun e w' => (∃ r, e = .returned (.float .f32 r) ∧ Is .f32 r (absF X)) ∧ ∃ n, w' = w.drewN n := by
  have hf := fits_abs X
  rw [← nar_abs]
  go_enter Try.func100, Try.ntmps100
  go_wp2_with (first | (apply wpList_wid; rfl; rfl; (first | with_reducible assumption | exact Is.const rfl); exact U32; exact U64; intro r n hr) | (go_at_call 111; refine (abs_any _ (lt64 (by assumption)) _).mono ?_; rintro e w' ⟨rfl, rfl⟩; have ha := Is.abs (by assumption)) | (apply wpList_nar; rfl; rfl; (first | with_reducible assumption | exact Is.const rfl); exact U64; exact U32; (with_reducible assumption); intro r n hr))
  go_ret
  exact ⟨⟨_, rfl, by assumption⟩, _, rfl⟩
theorem sSize_any (x X : Nat) (ix : Is .f32 x X) (w : World) : Calls Try.prog 105 #[.float .f32 x] w fun e w' => (∃ r, e = .returned (.float .f32 r) ∧ Is .f32 r (absF X)) ∧ ∃ n, w' = w.drewN n := by
  have IZ := is_nil
  rw [← size_abs ix.lt' ix.canon]
  cases h : fcmp .leq .f32 X 0 with
  | true =>
    rw [if_pos rfl]
    go_enter Try.func105, Try.ntmps105
    go_wp2_with (first | (apply wpList_farith; rfl; rfl; rfl; rfl; (first | with_reducible assumption | exact Is.const rfl); (first | with_reducible assumption | exact Is.const rfl); intro r n hr) | (apply wpList_fcmp; rfl; rfl; rfl; rfl; (first | with_reducible assumption | exact Is.const rfl); (first | with_reducible assumption | exact Is.const rfl); (first | with_reducible assumption | exact rfl)))
    go_ret
    exact ⟨⟨_, rfl, by assumption⟩, _, rfl⟩
  | false =>
    rw [if_neg (by decide)]
    go_enter Try.func105, Try.ntmps105
    go_wp2_with (first | (apply wpList_farith; rfl; rfl; rfl; rfl; (first | with_reducible assumption | exact Is.const rfl); (first | with_reducible assumption | exact Is.const rfl); intro r n hr) | (apply wpList_fcmp; rfl; rfl; rfl; rfl; (first | with_reducible assumption | exact Is.const rfl); (first | with_reducible assumption | exact Is.const rfl); (first | with_reducible assumption | exact rfl)))
    go_ret
    exact ⟨⟨_, rfl, by assumption⟩, 0, rfl⟩
/-- A line is stable. -/
def stab (ts : List El) : Bool := okLine ts && fcmp .lss .f32 (absF (trF (lineM ts ts.length))) 1073741824
theorem is_two : Is .f32 1073741824 1073741824 := Is.const (by decide +kernel)
theorem tr_canon (m : Nat → Nat) : trF m < 2 ^ FloatKind.f32.format.width → Is .f32 (absF (trF m)) (absF (trF m)) := is_absF _
def StabRes (w w' : World) (e : Ending) (ts : List El) (q : Bool) : Prop := (∃ a b c d, e = .returned (MV a b c d) ∧ (q = true → Is4 a b c d (lineM ts ts.length)) ∧ (q = false → (a = 0 ∧ b = 0 ∧ c = 0 ∧ d = 0))) ∧ Below w.heap.size w w'
set_option maxHeartbeats 1000000 in
set_option maxRecDepth 100000 in
theorem iStable_any (B : Nat) (v : Value) (ts : List El) (w : World) (hv : EOwn B w v ts) (h : oksE ts) (hn : ts.length ≤ 1048576) : Calls Try.prog 74 #[v] w fun e w' => StabRes w w' e ts (stab ts) := by
  have HRES := Lib.hid (show Try.f74.results = #[.cell 2 78] by kernel_rfl)
  have HB0 := Lib.hid ((Below.refl w.heap.size w).alloc (Nat.le_refl _) (MO 0 0 0 0))
  have HZ0 := Lib.hid (heap_alloc_new w (MO 0 0 0 0))
  have HV := Lib.hid (e_below hv ((Below.refl w.heap.size w).alloc (Nat.le_refl _) (MO 0 0 0 0))); have HO := Lib.hid h
  have HS0 := Lib.hid (show (w.alloc (MO 0 0 0 0)).heap.size = w.heap.size + 1 by simp)
  have I2 := is_two
  clear hv h
  obtain ⟨q, hq⟩ : ∃ q, stab ts = q := ⟨_, rfl⟩
  rw [hq]
  have HQ := Lib.hid hq
  clear hq
  obtain ⟨p, hp⟩ : ∃ p, okLine ts = p := ⟨_, rfl⟩
  have HP := Lib.hid hp
  go_enter Try.func74, Try.ntmps74
  go_wp2_with fail
  generalize w.alloc (MO 0 0 0 0) = w1 at HB0 HZ0 HV HS0 ⊢
  refine (iLine_any B v ts _ HV.out HO.out hn).mono ?_
  rw [HP.out]
  rintro e w2 hr
  unfold LineRes at hr
  obtain ⟨⟨a, b, c, d, rfl, hi, hz⟩, hb2⟩ := hr
  have HI := Lib.hid hi
  have HB2 := Lib.hid (HB0.out.trans (hb2.mono HB0.out.size))
  have HZ2 := Lib.hid ((hb2.block w.heap.size (by rw [HS0.out]; omega)).trans HZ0.out)
  have HS2 := Lib.hid (show w.heap.size < w2.heap.size from Nat.lt_of_lt_of_le (by rw [HS0.out]; omega) hb2.size)
  clear hi hb2 hz hp
  have HB3 := Lib.hid (HB2.out.alloc HB2.out.size (MO a b c d))
  have HM3 := Lib.hid (heap_alloc_new w2 (MO a b c d))
  have HZ3 := Lib.hid ((heap_alloc_old w2 (MO a b c d) HS2.out).trans HZ2.out)
  cases p with
  | false =>
    have HF := Lib.hid (show q = false from HQ.out.symm.trans (by unfold stab; rw [HP.out]; rfl))
    go_wp2_with ((with_reducible show wpList _ _ _ (Oper.mk none (Op.store _ (Operand.tmp 2) _) _ _ _ _ :: _) _ _); refine wpList_store_row rfl 78 _ _ rfl w.heap.size (MC 0 0 0 0) rfl rfl 78 _ HZ3.out info_m4 rfl (mone _ _ _ _) ?_)
    have HZ4 := Lib.hid (setRow_heap (w2.alloc (MO a b c d)) w.heap.size _ (MC 0 0 0 0) _ _ HZ3.out)
    refine bodyPost_ret (results_cell_row rfl _ _ w.heap.size 78 (MC 0 0 0 0) (0, 0) _ rfl HZ4.out Try.underlying78 rfl info_m4) rfl ?_
    unfold StabRes
    rw [HF.out]
    refine ⟨⟨0, 0, 0, 0, rfl, ?_, ?_⟩, below_setRow HB3.out (Nat.le_refl _) _⟩
    · intro h; cases h
    · intro _; exact ⟨rfl, rfl, rfl, rfl⟩
  | true =>
    have HI4 := Lib.hid (HI.out (by trivial))
    have HL := Lib.hid (show q = fcmp .lss .f32 (absF (trF (lineM ts ts.length))) 1073741824 from HQ.out.symm.trans (by unfold stab; rw [HP.out]; rfl))
    go_wp2_with fail
    generalize w2.alloc (MO a b c d) = w3 at HB3 HM3 HZ3 ⊢
    refine (iTrace_any a b c d _ HI4.out _).mono ?_
    rintro e w4 ⟨⟨t, rfl, ht⟩, hb4⟩
    have hbl : w2.heap.size < w3.heap.size := (Array.getElem?_eq_some_iff.1 HM3.out).1
    have HT := Lib.hid ht
    have HB4 := Lib.hid (HB3.out.trans (hb4.mono HB3.out.size))
    have HM4 := Lib.hid ((hb4.block w2.heap.size hbl).trans HM3.out)
    have HZ4 := Lib.hid ((hb4.block w.heap.size (Nat.lt_trans HS2.out hbl)).trans HZ3.out)
    clear ht hb4 hbl
    go_wp2_with fail
    refine (iAbs_any t _ HT.out _).mono ?_
    rintro e w' ⟨⟨u, rfl, hu⟩, n, rfl⟩
    obtain ⟨L, hLe⟩ : ∃ L, fcmp .lss .f32 (absF (trF (lineM ts ts.length))) 1073741824 = L := ⟨_, rfl⟩
    have HQL := Lib.hid (HL.out.trans hLe)
    cases L with
    | false =>
      have HF := Lib.hid (show q = false from HQL.out)
      go_wp2_with (first
        | (apply wpList_fcmp; rfl; rfl; rfl; rfl; (first | with_reducible assumption | exact Is.const rfl); (first | with_reducible assumption | exact Is.const rfl); (first | with_reducible assumption | exact rfl))
        | ((with_reducible show wpList _ _ _ (Oper.mk none (Op.store _ (Operand.tmp 2) _) _ _ _ _ :: _) _ _); refine wpList_store_row rfl 78 _ _ rfl w.heap.size (MC 0 0 0 0) rfl rfl 78 _ HZ4.out info_m4 rfl (mone _ _ _ _) ?_))
      have HZ5 := Lib.hid (setRow_heap (w4.drewN n) w.heap.size _ (MC 0 0 0 0) _ _ HZ4.out)
      refine bodyPost_ret (results_cell_row rfl _ _ w.heap.size 78 (MC 0 0 0 0) (0, 0) _ rfl HZ5.out Try.underlying78 rfl info_m4) rfl ?_
      unfold StabRes
      rw [HF.out]
      refine ⟨⟨0, 0, 0, 0, rfl, ?_, ?_⟩, below_setRow (below_drewN HB4.out _) (Nat.le_refl _) _⟩
      · intro h; cases h
      · intro _; exact ⟨rfl, rfl, rfl, rfl⟩
    | true =>
      have HF := Lib.hid (show q = true from HQL.out)
      go_wp2_with (first
        | (apply wpList_fcmp; rfl; rfl; rfl; rfl; (first | with_reducible assumption | exact Is.const rfl); (first | with_reducible assumption | exact Is.const rfl); (first | with_reducible assumption | exact rfl))
        | ((with_reducible show wpList _ _ _ (Oper.mk (some 20) _ _ _ _ _ :: _) _ _); refine wpList_load_row rfl 78 _ rfl w2.heap.size rfl 78 (MC a b c d) (0, 0) _ HM4.out Try.underlying78 rfl info_m4 ?_)
        | ((with_reducible show wpList _ _ _ (Oper.mk none (Op.store _ (Operand.tmp 2) _) _ _ _ _ :: _) _ _); refine wpList_store_row rfl 78 _ _ rfl w.heap.size (MC a b c d) rfl rfl 78 _ HZ4.out info_m4 rfl (mone _ _ _ _) ?_))
      have HZ5 := Lib.hid (setRow_heap (w4.drewN n) w.heap.size _ (MC a b c d) _ _ HZ4.out)
      refine bodyPost_ret (results_cell_row rfl _ _ w.heap.size 78 (MC a b c d) (0, 0) _ rfl HZ5.out Try.underlying78 rfl info_m4) rfl ?_
      unfold StabRes
      rw [HF.out]
      refine ⟨⟨a, b, c, d, rfl, ?_, ?_⟩, below_setRow (below_drewN HB4.out _) (Nat.le_refl _) _⟩
      · intro _; exact HI4.out
      · intro h; cases h
end Go.Proofs.Ytpnmledanloboaa
namespace Go.Proofs.Ytpnmledanloboaa
open Go.Fl Go.RowKit Ieee
set_option linter.unusedSimpArgs false
set_option linter.unusedVariables false

theorem run_eq_f32 {P : Program} (w : World) (d : Nat) {e : TypeId} (he : P.underlying e = some (.float .f32)) (a b : Nat) : (Op.equalIn (d + 1) e (.float .f32 a) (.float .f32 b)).run P w = .ok (fcmp .eql .f32 a b) w := by
  simp [Op.equalIn, run_underlying he, Op.floatEq, fcmp]
theorem items_f32 {P : Program} {e : TypeId} (d : Nat) (he : P.underlying e = some (.float .f32)) (ha : ∀ w, (isAgg e).run P w = .ok false w) (xs ys : Array Value) (p q : Nat → Nat) (w : World) :
    ∀ is : List Nat, (∀ i ∈ is, xs[i]? = some (.float .f32 (p i)) ∧ ys[i]? = some (.float .f32 (q i))) → (Op.eqItems (d + 1) e 1 xs ys is).run P w = .ok (is.all fun i => fcmp .eql .f32 (p i) (q i)) w
  | [], _ => by simp [Op.eqItems]
  | i :: is, h => by
    have hp : (part e xs (i * 1)).run P w = .ok (.float .f32 (p i)) w := by
      rw [Nat.mul_one]
      simp [part, ha, (h i (by simp)).1]
    have hq : (part e ys (i * 1)).run P w = .ok (.float .f32 (q i)) w := by
      rw [Nat.mul_one]
      simp [part, ha, (h i (by simp)).2]
    simp only [Op.eqItems, Sem.run_bind, hp, hq, Result.andThen_ok, run_eq_f32 w d he]
    cases hb : fcmp .eql .f32 (p i) (q i) with
    | false => simp [hb]
    | true => simp [hb, items_f32 d he ha xs ys p q w is (fun j hj => h j (by simp [hj]))]
def zB (a b c d : Nat) : Bool := (List.range 4).all fun i => fcmp .eql .f32 ([a, b, c, d].getD i 0) 0
theorem eq_zero4 (a b c d : Nat) (w : World) : (Op.equalIn 10000 78 (.agg (MC a b c d)) (.agg (MC 0 0 0 0))).run Try.prog w = .ok (zB a b c d) w := by
  obtain ⟨i, hi⟩ := Option.isSome_iff_exists.1 (show (Try.prog.info? 23).isSome = true by kernel_rfl)
  rw [show (10000 : Nat) = 9999 + 1 from rfl, run_equalIn_array w 9999 _ _ Try.underlying78 hi]
  rw [show Try.prog.cellsOf 23 = 1 by kernel_rfl]
  refine items_f32 9998 Try.underlying23 Try.isAgg23 _ _ (fun i => [a, b, c, d].getD i 0) (fun _ => 0) w _ (fun i hi => ?_)
  have h4 := List.mem_range.1 hi
  have : i = 0 ∨ i = 1 ∨ i = 2 ∨ i = 3 := by omega
  rcases this with rfl | rfl | rfl | rfl <;> exact ⟨rfl, rfl⟩
theorem run_neq4 (a b c d : Nat) (w : World) : (binOp .neq 78 (.agg (MC a b c d)) (.agg (MC 0 0 0 0))).run Try.prog w = .ok (.bool (!zB a b c d)) w := by
  have := eq_zero4 a b c d w
  simp only [binOp]
  simp [Op.equal, Op.maxDepth, this]
theorem run_eql4 (a b c d : Nat) (w : World) : (binOp .eql 78 (.agg (MC a b c d)) (.agg (MC 0 0 0 0))).run Try.prog w = .ok (.bool (zB a b c d)) w := by
  have := eq_zero4 a b c d w
  simp only [binOp]
  simp [Op.equal, Op.maxDepth, this]
theorem eql_zero {a X : Nat} (h : Is .f32 a X) (e : fcmp .eql .f32 a 0 = true) : r32 X = 0 := by
  have h1 : fcmp .eql .f32 X 0 = true := by
    have := h.order is_nil
    unfold fcmp at e ⊢
    dsimp only at e ⊢
    rw [← this]; exact e
  cases hn : nan .f32 X with
  | true => rw [fcmp_nan_left .eql (by decide) .f32 0 hn] at h1; cases h1
  | false =>
    rw [fcmp_eql .f32 hn (by decide), key0] at h1
    have h2 := of_decide_eq_true h1
    unfold key at h2
    change (if neg FloatKind.f32.format X = true then -(r32 X : Int) else (r32 X : Int)) = 0 at h2
    split at h2 <;> omega
theorem zB_is {a b c d : Nat} {M : Nat → Nat} (h : Is4 a b c d M) (e : zB a b c d = true) : allZ M := by
  unfold zB at e
  rw [List.all_eq_true] at e
  exact ⟨eql_zero h.i0 (e 0 (by simp)), eql_zero h.i1 (e 1 (by simp)), eql_zero h.i2 (e 2 (by simp)), eql_zero h.i3 (e 3 (by simp))⟩
theorem zB_nil : zB 0 0 0 0 = true := by decide +kernel
/-- A stable line's matrix, told from zeros. -/
theorem stab_zB {a b c d : Nat} {ts : List El} {q : Bool} (h1 : q = true → Is4 a b c d (lineM ts ts.length)) (h2 : q = false → (a = 0 ∧ b = 0 ∧ c = 0 ∧ d = 0)) : zB a b c d = !q := by
  cases q with
  | false => obtain ⟨rfl, rfl, rfl, rfl⟩ := h2 rfl; exact zB_nil
  | true =>
    cases hz : zB a b c d with
    | false => rfl
    | true => exact absurd (zB_is (h1 rfl) hz) (line_nz ts _)

abbrev okIsStable (ts : List El) : Bool := stab ts
set_option maxHeartbeats 1000000 in
theorem iIsStable_any (B : Nat) (v : Value) (ts : List El) (w : World) (hv : EOwn B w v ts) (h : oksE ts) (hn : ts.length ≤ 1048576) : Calls Try.prog 38 #[v] w fun e w' => e = .returned (.bool (okIsStable ts)) ∧ Below w.heap.size w w' := by
  have HV := Lib.hid hv; have HO := Lib.hid h
  clear hv h
  obtain ⟨q, hq⟩ : ∃ q, stab ts = q := ⟨_, rfl⟩
  unfold okIsStable
  rw [hq]
  have HQ := Lib.hid hq
  clear hq
  go_enter Try.func38, Try.ntmps38
  go_wp2_with fail
  refine (iStable_any B v ts _ HV.out HO.out hn).mono ?_
  rw [HQ.out]
  rintro e w2 hp
  unfold StabRes at hp
  obtain ⟨⟨a, b, c, d, rfl, h1, h2⟩, hb⟩ := hp
  have HB := Lib.hid hb
  have HZ := Lib.hid (stab_zB h1 h2)
  have hne := run_neq4 a b c d
  clear h1 h2 hb
  go_wp2_with fail
  go_ret
  exact ⟨by rw [HZ.out]; simp, HB.out⟩
set_option maxHeartbeats 1000000 in
set_option maxRecDepth 100000 in
theorem sStable_any (v : Value) (a b c d : Nat) (M : Nat → Nat) (w : World) (hv : FS .f32 w v [a, b, c, d]) (hM : Is4 a b c d M) : Calls Try.prog 73 #[v] w fun e w' => e = .returned (.bool (fcmp .lss .f32 (absF (trF M)) 1073741824)) ∧ ∃ n, w' = w.drewN n := by
  obtain ⟨i0, i1, i2, i3⟩ := hM
  obtain ⟨B, o, cap, rfl, hb, ⟨c0, c1, c2, c3⟩, _⟩ := fs4 hv
  have I2 := is_two
  unfold trF
  clear hv
  go_enter Try.func73, Try.ntmps73
  go_wp2_with (first | ((with_reducible apply Loose.wp_start); kernel_rfl; kernel_rfl) | ((with_reducible apply Loose.start_cons)) | ((with_reducible apply Loose.start_nil)) | ((with_reducible apply Loose.walk_nil); intro n) | ((with_reducible apply Loose.walk_skip); exact rfl; (go_simp; first | done | exact rfl)) | ((with_reducible apply Loose.step_fc); rfl; rfl; rfl; rfl; (first | with_reducible assumption | exact Is.const rfl); (first | with_reducible assumption | exact Is.const rfl); (first | with_reducible assumption | exact rfl); exact rfl; (go_simp; first | done | exact rfl)) | ((with_reducible apply Loose.step_fa); rfl; rfl; rfl; rfl; (first | with_reducible assumption | exact Is.const rfl); (first | with_reducible assumption | exact Is.const rfl); exact rfl; (intro r; go_simp; first | done | exact rfl); intro r hr) | ((with_reducible apply Loose.step_wid); rfl; rfl; (first | with_reducible assumption | exact Is.const rfl); exact U32; exact U64; exact rfl; (intro r; go_simp; first | done | exact rfl); intro r hr) | ((with_reducible apply Loose.step_nar); rfl; rfl; (first | with_reducible assumption | exact Is.const rfl); exact U64; exact U32; (with_reducible assumption); exact rfl; (intro r; go_simp; first | done | exact rfl); intro r hr) | ((with_reducible apply Loose.step_assign); rfl; rfl; (with_reducible assumption); exact rfl; (intro r; go_simp; first | done | exact rfl); intro r hr) | ((with_reducible apply Loose.step_move); rfl; rfl; (with_reducible assumption); exact rfl; (intro r; go_simp; first | done | exact rfl); intro r hr) | ((with_reducible apply Loose.step_same); rfl; rfl; exact U32; exact U32; (first | with_reducible assumption | exact Is.const rfl); exact rfl; (intro r; go_simp; first | done | exact rfl); intro r hr) | ((with_reducible apply Loose.step_same); rfl; rfl; exact U64; exact U64; (first | with_reducible assumption | exact Is.const rfl); exact rfl; (intro r; go_simp; first | done | exact rfl); intro r hr) | ((with_reducible apply Loose.step_callF); rfl; (intro n; go_simp; first | exact ⟨rfl, rfl⟩ | exact rfl); (intro n; go_at_call 105; exact sSize_any _ _ (by assumption) _); exact rfl; (intro r; go_simp; first | done | exact rfl); intro r hr) | ((with_reducible apply Loose.step_eq); rfl; (intro n; go_simp; first | done | exact rfl); exact rfl; (go_simp; first | done | exact rfl)))
  go_ret
  exact ⟨rfl, _, rfl⟩
theorem fres4P {B : Nat} {w : World} {v : Value} {F : Nat → Nat} (h : FRes B w v 4 F) : ∃ a b c d, Is4 a b c d F ∧ FS .f32 w v [a, b, c, d] := by
  obtain ⟨rs, hl, he, ho⟩ := h
  obtain ⟨a, b, c, d, rfl⟩ := four_of hl
  exact ⟨a, b, c, d, ⟨he 0 (by simp), he 1 (by simp), he 2 (by simp), he 3 (by simp)⟩, fown_FS ho he.lt⟩
set_option maxHeartbeats 1000000 in
theorem sIsStable_any (B : Nat) (v : Value) (ts : List El) (w : World) (hv : EOwn B w v ts) (h : oksE ts) (hn : ts.length ≤ 1048576) : Calls Try.prog 37 #[v] w fun e w' => e = .returned (.bool (okIsStable ts)) ∧ Below w.heap.size w w' := by
  have HV := Lib.hid hv; have HO := Lib.hid h
  clear hv h
  unfold okIsStable
  obtain ⟨p, hp⟩ : ∃ p, okLine ts = p := ⟨_, rfl⟩
  have HP := Lib.hid hp
  obtain ⟨L, hL⟩ : ∃ L, fcmp .lss .f32 (absF (trF (lineM ts ts.length))) 1073741824 = L := ⟨_, rfl⟩
  have HL := Lib.hid hL
  have HQ := Lib.hid (show stab ts = (p && L) by unfold stab; rw [hp, hL])
  rw [HQ.out]
  clear hp hL HQ
  go_enter Try.func37, Try.ntmps37
  go_wp2_with fail
  refine (sLine_any B v ts _ HV.out HO.out hn).mono ?_
  rw [HP.out]
  rintro e w2 ⟨rfl, n, rfl⟩
  have HV2 := Lib.hid (e_below HV.out (below_drewN (Below.refl w.heap.size w) n))
  have HD2 := Lib.hid (below_drewN (Below.refl w.heap.size w) n)
  cases p with
  | false =>
    go_wp2_with fail
    go_ret
    exact ⟨rfl, HD2.out⟩
  | true =>
    go_wp2_with fail
    refine (sMatrix_any B v ts _ HV2.out HO.out hn).mono ?_
    rintro e w3 ⟨⟨r, rfl, hr⟩, hb⟩
    obtain ⟨a, b, c, d, h4, hf⟩ := fres4P hr
    have H4 := Lib.hid h4; have HF := Lib.hid hf
    have HB := Lib.hid (HD2.out.trans (hb.mono (Nat.le_refl _)))
    clear hr hb h4 hf
    go_wp2_with fail
    refine (sStable_any r a b c d _ _ HF.out H4.out).mono ?_
    rw [HL.out]
    rintro e w' ⟨rfl, n3, rfl⟩
    go_wp2_with fail
    go_ret
    exact ⟨by simp, below_drewN HB.out _⟩
end Go.Proofs.Ytpnmledanloboaa
