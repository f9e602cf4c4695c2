/-
  Stable rings: the answers of both sides.
-/
import Derived.Test.YtdoohjmjbkkmkaaStb
namespace Go.Proofs.Ytdoohjmjbkkmkaa
open Go.Fl Go.RowKit Ieee
set_option linter.unusedSimpArgs false
set_option linter.unusedVariables false

theorem run_eq_f32 {P : Program} (w : World) (d : Nat) {e : TypeId} (he : P.underlying e = some (.float .f32)) (a b : Nat) : (Op.equalIn (d + 1) e (.float .f32 a) (.float .f32 b)).run P w = .ok (fcmp .eql .f32 a b) w := by
  simp [Op.equalIn, run_underlying he, Op.floatEq, fcmp]
theorem items_f32 {P : Program} {e : TypeId} (d : Nat) (he : P.underlying e = some (.float .f32)) (ha : ∀ w, (isAgg e).run P w = .ok false w) (xs ys : Array Value) (p q : Nat → Nat) (w : World) :
    ∀ is : List Nat, (∀ i ∈ is, xs[i]? = some (.float .f32 (p i)) ∧ ys[i]? = some (.float .f32 (q i))) → (Op.eqItems (d + 1) e 1 xs ys is).run P w = .ok (is.all fun i => fcmp .eql .f32 (p i) (q i)) w
  | [], _ => by simp [Op.eqItems]
  | i :: is, h => by
    have hp : (part e xs (i * 1)).run P w = .ok (.float .f32 (p i)) w := by
      rw [Nat.mul_one]
      simp [part, ha, (h i (by simp)).1]
    have hq : (part e ys (i * 1)).run P w = .ok (.float .f32 (q i)) w := by
      rw [Nat.mul_one]
      simp [part, ha, (h i (by simp)).2]
    simp only [Op.eqItems, Sem.run_bind, hp, hq, Result.andThen_ok, run_eq_f32 w d he]
    cases hb : fcmp .eql .f32 (p i) (q i) with
    | false => simp [hb]
    | true => simp [hb, items_f32 d he ha xs ys p q w is (fun j hj => h j (by simp [hj]))]
def zB (a b c d : Nat) : Bool := (List.range 4).all fun i => fcmp .eql .f32 ([a, b, c, d].getD i 0) 0
theorem eq_zero4 (a b c d : Nat) (w : World) : (Op.equalIn 10000 78 (.agg (MC a b c d)) (.agg (MC 0 0 0 0))).run Try.prog w = .ok (zB a b c d) w := by
  obtain ⟨i, hi⟩ := Option.isSome_iff_exists.1 (show (Try.prog.info? 23).isSome = true by kernel_rfl)
  rw [show (10000 : Nat) = 9999 + 1 from rfl, run_equalIn_array w 9999 _ _ Try.underlying78 hi]
  rw [show Try.prog.cellsOf 23 = 1 by kernel_rfl]
  refine items_f32 9998 Try.underlying23 Try.isAgg23 _ _ (fun i => [a, b, c, d].getD i 0) (fun _ => 0) w _ (fun i hi => ?_)
  have h4 := List.mem_range.1 hi
  have : i = 0 ∨ i = 1 ∨ i = 2 ∨ i = 3 := by omega
  rcases this with rfl | rfl | rfl | rfl <;> exact ⟨rfl, rfl⟩
theorem run_neq4 (a b c d : Nat) (w : World) : (binOp .neq 78 (.agg (MC a b c d)) (.agg (MC 0 0 0 0))).run Try.prog w = .ok (.bool (!zB a b c d)) w := by
  have := eq_zero4 a b c d w
  simp only [binOp]
  simp [Op.equal, Op.maxDepth, this]
theorem run_eql4 (a b c d : Nat) (w : World) : (binOp .eql 78 (.agg (MC a b c d)) (.agg (MC 0 0 0 0))).run Try.prog w = .ok (.bool (zB a b c d)) w := by
  have := eq_zero4 a b c d w
  simp only [binOp]
  simp [Op.equal, Op.maxDepth, this]
theorem eql_zero {a X : Nat} (h : Is .f32 a X) (e : fcmp .eql .f32 a 0 = true) : r32 X = 0 := by
  have h1 : fcmp .eql .f32 X 0 = true := by
    have := h.order is_nil
    unfold fcmp at e ⊢
    dsimp only at e ⊢
    rw [← this]; exact e
  cases hn : nan .f32 X with
  | true => rw [fcmp_nan_left .eql (by decide) .f32 0 hn] at h1; cases h1
  | false =>
    rw [fcmp_eql .f32 hn (by decide), key0] at h1
    have h2 := of_decide_eq_true h1
    unfold key at h2
    change (if neg FloatKind.f32.format X = true then -(r32 X : Int) else (r32 X : Int)) = 0 at h2
    split at h2 <;> omega
theorem zB_is {a b c d : Nat} {M : Nat → Nat} (h : Is4 a b c d M) (e : zB a b c d = true) : allZ M := by
  unfold zB at e
  rw [List.all_eq_true] at e
  exact ⟨eql_zero h.i0 (e 0 (by simp)), eql_zero h.i1 (e 1 (by simp)), eql_zero h.i2 (e 2 (by simp)), eql_zero h.i3 (e 3 (by simp))⟩
theorem zB_nil : zB 0 0 0 0 = true := by decide +kernel
/-- A stable line's matrix, told from zeros. -/
theorem stab_zB {a b c d : Nat} {ts : List El} {q : Bool} (h1 : q = true → Is4 a b c d (lineM ts ts.length)) (h2 : q = false → (a = 0 ∧ b = 0 ∧ c = 0 ∧ d = 0)) : zB a b c d = !q := by
  cases q with
  | false => obtain ⟨rfl, rfl, rfl, rfl⟩ := h2 rfl; exact zB_nil
  | true =>
    cases hz : zB a b c d with
    | false => rfl
    | true => exact absurd (zB_is (h1 rfl) hz) (line_nz ts _)

abbrev okIsStable (ts : List El) : Bool := stab ts
set_option maxHeartbeats 1000000 in
theorem iIsStable_any (B : Nat) (v : Value) (ts : List El) (w : World) (hv : EOwn B w v ts) (h : oksE ts) (hn : ts.length ≤ 1048576) : Calls Try.prog 38 #[v] w fun e w' => e = .returned (.bool (okIsStable ts)) ∧ Below w.heap.size w w' := by
  have HV := Lib.hid hv; have HO := Lib.hid h
  clear hv h
  obtain ⟨q, hq⟩ : ∃ q, stab ts = q := ⟨_, rfl⟩
  unfold okIsStable
  rw [hq]
  have HQ := Lib.hid hq
  clear hq
  go_enter Try.func38, Try.ntmps38
  go_wp2_with fail
  refine (iStable_any B v ts _ HV.out HO.out hn).mono ?_
  rw [HQ.out]
  rintro e w2 hp
  unfold StabRes at hp
  obtain ⟨⟨a, b, c, d, rfl, h1, h2⟩, hb⟩ := hp
  have HB := Lib.hid hb
  have HZ := Lib.hid (stab_zB h1 h2)
  have hne := run_neq4 a b c d
  clear h1 h2 hb
  go_wp2_with fail
  go_ret
  exact ⟨by rw [HZ.out]; simp, HB.out⟩
set_option maxHeartbeats 1000000 in
set_option maxRecDepth 100000 in
theorem sStable_any (v : Value) (a b c d : Nat) (M : Nat → Nat) (w : World) (hv : FS .f32 w v [a, b, c, d]) (hM : Is4 a b c d M) : Calls Try.prog 73 #[v] w fun e w' => e = .returned (.bool (fcmp .lss .f32 (absF (trF M)) 1073741824)) ∧ ∃ n, w' = w.drewN n := by
  obtain ⟨i0, i1, i2, i3⟩ := hM
  obtain ⟨B, o, cap, rfl, hb, ⟨c0, c1, c2, c3⟩, _⟩ := fs4 hv
  have I2 := is_two
  unfold trF
  clear hv
  go_enter Try.func73, Try.ntmps73
  go_wp2_with (first | ((with_reducible apply Loose.wp_start); kernel_rfl; kernel_rfl) | ((with_reducible apply Loose.start_cons)) | ((with_reducible apply Loose.start_nil)) | ((with_reducible apply Loose.walk_nil); intro n) | ((with_reducible apply Loose.walk_skip); exact rfl; (go_simp; first | done | exact rfl)) | ((with_reducible apply Loose.step_fc); rfl; rfl; rfl; rfl; (first | with_reducible assumption | exact Is.const rfl); (first | with_reducible assumption | exact Is.const rfl); (first | with_reducible assumption | exact rfl); exact rfl; (go_simp; first | done | exact rfl)) | ((with_reducible apply Loose.step_fa); rfl; rfl; rfl; rfl; (first | with_reducible assumption | exact Is.const rfl); (first | with_reducible assumption | exact Is.const rfl); exact rfl; (intro r; go_simp; first | done | exact rfl); intro r hr) | ((with_reducible apply Loose.step_wid); rfl; rfl; (first | with_reducible assumption | exact Is.const rfl); exact U32; exact U64; exact rfl; (intro r; go_simp; first | done | exact rfl); intro r hr) | ((with_reducible apply Loose.step_nar); rfl; rfl; (first | with_reducible assumption | exact Is.const rfl); exact U64; exact U32; (with_reducible assumption); exact rfl; (intro r; go_simp; first | done | exact rfl); intro r hr) | ((with_reducible apply Loose.step_assign); rfl; rfl; (with_reducible assumption); exact rfl; (intro r; go_simp; first | done | exact rfl); intro r hr) | ((with_reducible apply Loose.step_move); rfl; rfl; (with_reducible assumption); exact rfl; (intro r; go_simp; first | done | exact rfl); intro r hr) | ((with_reducible apply Loose.step_same); rfl; rfl; exact U32; exact U32; (first | with_reducible assumption | exact Is.const rfl); exact rfl; (intro r; go_simp; first | done | exact rfl); intro r hr) | ((with_reducible apply Loose.step_same); rfl; rfl; exact U64; exact U64; (first | with_reducible assumption | exact Is.const rfl); exact rfl; (intro r; go_simp; first | done | exact rfl); intro r hr) | ((with_reducible apply Loose.step_callF); rfl; (intro n; go_simp; first | exact ⟨rfl, rfl⟩ | exact rfl); (intro n; go_at_call 105; exact sSize_any _ _ (by assumption) _); exact rfl; (intro r; go_simp; first | done | exact rfl); intro r hr) | ((with_reducible apply Loose.step_eq); rfl; (intro n; go_simp; first | done | exact rfl); exact rfl; (go_simp; first | done | exact rfl)))
  go_ret
  exact ⟨rfl, _, rfl⟩
theorem fres4 {B : Nat} {w : World} {v : Value} {F : Nat → Nat} (h : FRes B w v 4 F) : ∃ a b c d, Is4 a b c d F ∧ FS .f32 w v [a, b, c, d] := by
  obtain ⟨rs, hl, he, ho⟩ := h
  obtain ⟨a, b, c, d, rfl⟩ := four_of hl
  exact ⟨a, b, c, d, ⟨he 0 (by simp), he 1 (by simp), he 2 (by simp), he 3 (by simp)⟩, fown_FS ho he.lt⟩
set_option maxHeartbeats 1000000 in
theorem sIsStable_any (B : Nat) (v : Value) (ts : List El) (w : World) (hv : EOwn B w v ts) (h : oksE ts) (hn : ts.length ≤ 1048576) : Calls Try.prog 37 #[v] w fun e w' => e = .returned (.bool (okIsStable ts)) ∧ Below w.heap.size w w' := by
  have HV := Lib.hid hv; have HO := Lib.hid h
  clear hv h
  unfold okIsStable
  obtain ⟨p, hp⟩ : ∃ p, okLine ts = p := ⟨_, rfl⟩
  have HP := Lib.hid hp
  obtain ⟨L, hL⟩ : ∃ L, fcmp .lss .f32 (absF (trF (lineM ts ts.length))) 1073741824 = L := ⟨_, rfl⟩
  have HL := Lib.hid hL
  have HQ := Lib.hid (show stab ts = (p && L) by unfold stab; rw [hp, hL])
  rw [HQ.out]
  clear hp hL HQ
  go_enter Try.func37, Try.ntmps37
  go_wp2_with fail
  refine (sLine_any B v ts _ HV.out HO.out hn).mono ?_
  rw [HP.out]
  rintro e w2 ⟨rfl, n, rfl⟩
  have HV2 := Lib.hid (e_below HV.out (below_drewN (Below.refl w.heap.size w) n))
  have HD2 := Lib.hid (below_drewN (Below.refl w.heap.size w) n)
  cases p with
  | false =>
    go_wp2_with fail
    go_ret
    exact ⟨rfl, HD2.out⟩
  | true =>
    go_wp2_with fail
    refine (sMatrix_any B v ts _ HV2.out HO.out hn).mono ?_
    rintro e w3 ⟨⟨r, rfl, hr⟩, hb⟩
    obtain ⟨a, b, c, d, h4, hf⟩ := fres4 hr
    have H4 := Lib.hid h4; have HF := Lib.hid hf
    have HB := Lib.hid (HD2.out.trans (hb.mono (Nat.le_refl _)))
    clear hr hb h4 hf
    go_wp2_with fail
    refine (sStable_any r a b c d _ _ HF.out H4.out).mono ?_
    rw [HL.out]
    rintro e w' ⟨rfl, n3, rfl⟩
    go_wp2_with fail
    go_ret
    exact ⟨by simp, below_drewN HB.out _⟩
end Go.Proofs.Ytdoohjmjbkkmkaa
