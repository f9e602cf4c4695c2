/-
  A half: by quotient and by product.
  Tunes, of the program and of the model.
-/
import Derived.Test.YtpnmledanloboaaZer
import Derived.Test.YtpnmledanloboaaStc
import Derived.Test.YtpnmledanloboaaNg
import Derived.Test.YtpnmledanloboaaRoot
import Derived.Test.YtpnmledanloboaaAngC
import Derived.Test.YtpnmledanloboaaAngS
namespace Go.Proofs.Ytpnmledanloboaa
open Go.Fl Go.RowKit Ieee
set_option linter.unusedSimpArgs false
set_option linter.unusedVariables false

theorem log2_shift {m : Nat} (h : m ≠ 0) (k : Nat) : (m * 2 ^ k).log2 = m.log2 + k := by
  have hp := Nat.two_pow_pos k
  have h0 : m * 2 ^ k ≠ 0 := fun e => by rcases Nat.mul_eq_zero.1 e with e | e <;> omega
  refine Nat.le_antisymm ?_ ?_
  · have : m * 2 ^ k < 2 ^ (m.log2 + k + 1) := by
      have h1 : m < 2 ^ (m.log2 + 1) := Nat.lt_log2_self
      calc m * 2 ^ k < 2 ^ (m.log2 + 1) * 2 ^ k := Nat.mul_lt_mul_of_pos_right h1 hp
        _ = _ := by rw [← Nat.pow_add]; congr 1; omega
    have := (Nat.log2_lt h0).2 this
    omega
  · refine (Nat.le_log2 h0).2 ?_
    rw [Nat.pow_add]
    exact Nat.mul_le_mul_right _ (Nat.log2_self_le h)
theorem cut_exact (s : Bool) (m : Nat) {k d : Nat} (h0 : m ≠ 0) (h : d ≤ k) : Toward.even.cut s (m * 2 ^ k) d = m * 2 ^ (k - d) := by
  unfold Toward.cut
  have e : min d ((m * 2 ^ k).log2 + 2) = d := by rw [log2_shift h0]; omega
  rw [e, Nat.shiftLeft_eq, Nat.one_mul]
  have hp := Nat.two_pow_pos d
  have e2 : m * 2 ^ k = (m * 2 ^ (k - d)) * 2 ^ d := by rw [Nat.mul_assoc, ← Nat.pow_add]; congr 2; omega
  rw [e2]
  dsimp only
  rw [Nat.mul_div_cancel _ hp, Nat.mul_mod_left]
  have h1 : decide (2 ^ d < 2 * 0) = false := decide_eq_false (by omega)
  have h2 : (2 ^ d == 2 * 0) = false := by rw [beq_eq_false_iff_ne]; omega
  simp [h1, h2]
theorem cut_scale (s : Bool) {m : Nat} (h0 : m ≠ 0) (k d : Nat) : Toward.even.cut s (m * 2 ^ k) (d + k) = Toward.even.cut s m d := by
  unfold Toward.cut
  have e : min (d + k) ((m * 2 ^ k).log2 + 2) = min d (m.log2 + 2) + k := by rw [log2_shift h0]; omega
  rw [e]
  generalize min d (m.log2 + 2) = g
  simp only [Nat.shiftLeft_eq, Nat.one_mul]
  have hp := Nat.two_pow_pos k
  have hg := Nat.two_pow_pos g
  rw [Nat.pow_add, Nat.mul_div_mul_right _ _ hp, Nat.mul_mod_mul_right]
  have e1 : (decide (2 ^ g * 2 ^ k < 2 * (m % 2 ^ g * 2 ^ k))) = decide (2 ^ g < 2 * (m % 2 ^ g)) := by
    apply decide_eq_decide.2
    rw [← Nat.mul_assoc]
    exact Nat.mul_lt_mul_right hp
  have e2 : ((2 ^ g * 2 ^ k == 2 * (m % 2 ^ g * 2 ^ k))) = (2 ^ g == 2 * (m % 2 ^ g)) := by
    rw [Bool.eq_iff_iff, beq_iff_eq, beq_iff_eq, ← Nat.mul_assoc]
    exact Nat.mul_right_cancel_iff hp
  rw [e1, e2]
theorem near_shift (f : Format) (s : Bool) (m k : Nat) (p : Int) : f.nearest s (m * 2 ^ k) p = f.nearest s m (p + k) := by
  by_cases h0 : m = 0
  · subst h0; rw [Nat.zero_mul]; unfold Format.nearest; rw [if_pos rfl, if_pos rfl]
  have hp := Nat.two_pow_pos k
  have h1 : m * 2 ^ k ≠ 0 := fun e => by rcases Nat.mul_eq_zero.1 e with e | e <;> omega
  unfold Format.nearest
  rw [if_neg h0, if_neg h1, log2_shift h0]
  have e1 : p + ((m.log2 + k : Nat) : Int) - (f.fractionBits : Int) = p + k + m.log2 - f.fractionBits := by omega
  rw [e1]
  dsimp only
  generalize max (p + (k : Int) + (m.log2 : Int) - (f.fractionBits : Int)) f.leastPlace = l
  congr 3
  by_cases c1 : l ≤ p
  · have a1 : (l - p).toNat = 0 := by omega
    have a2 : (l - (p + k)).toNat = 0 := by omega
    have a3 : (p + k - l).toNat = (p - l).toNat + k := by omega
    rw [a1, a2, a3, Nat.shiftLeft_eq, Nat.shiftLeft_eq, Nat.pow_add, Nat.mul_comm (2 ^ (p - l).toNat), Nat.mul_assoc]
  · have a0 : (p - l).toNat = 0 := by omega
    rw [a0, Nat.shiftLeft_eq, Nat.pow_zero, Nat.mul_one]
    by_cases c2 : l ≤ p + k
    · have a2 : (l - (p + k)).toNat = 0 := by omega
      have a3 : (p + k - l).toNat = k - (l - p).toNat := by omega
      rw [a2, a3, Nat.shiftLeft_eq, cut_exact s m h0 (by omega)]
      have := cut_exact s m (k := k - (l - p).toNat) (d := 0) h0 (Nat.zero_le _)
      rw [this, Nat.sub_zero]
    · have a2 : (p + k - l).toNat = 0 := by omega
      have a3 : (l - p).toNat = (l - (p + k)).toNat + k := by omega
      rw [a2, a3, Nat.shiftLeft_eq, Nat.pow_zero, Nat.mul_one, cut_scale s h0]
theorem read_two : FloatKind.f32.format.read 1073741824 = .number false 8388608 (-22) := by decide +kernel
theorem read_half : FloatKind.f32.format.read 1056964608 = .number false 8388608 (-24) := by decide +kernel
theorem mag_lt (r : Nat) : (mag FloatKind.f32.format r).log2 ≤ 23 := mag_log2 FloatKind.f32.format r
theorem half_eq (x : Nat) : fop .quo .f32 x 1073741824 = fop .mul .f32 1056964608 x := by
  cases hn : nan .f32 x with
  | true => unfold fop; rw [fb_nan_left .quo .f32 _ hn, fb_nan_right .mul .f32 _ hn]
  | false =>
    unfold fop floatBits Format.div Format.mul
    dsimp only
    rw [read_two, read_half]
    rcases fin_or_inf hn with h | h
    · rw [read_fin h]
      have hl := mag_lt (r32 x)
      generalize mag FloatKind.f32.format (r32 x) = m at hl
      generalize FloatKind.f32.format.leastPlace + (up FloatKind.f32.format (r32 x) : Int) = i
      generalize neg FloatKind.f32.format x = s
      unfold Datum.quotient Datum.product
      dsimp only
      rw [if_neg (by decide)]
      have e0 : (8388608 : Nat).log2 = 23 := by decide
      have e1 : FloatKind.f32.format.fractionBits = 23 := rfl
      rw [e0, e1, Option.map_some, Option.map_some]
      dsimp only
      unfold Format.write
      dsimp only
      obtain ⟨t, ht⟩ : ∃ t, 23 + 2 + 23 - m.log2 = t + 23 := ⟨25 - m.log2, by omega⟩
      rw [ht, Nat.shiftLeft_eq]
      have e2 : m * 2 ^ (t + 23) = (m * 2 ^ t) * 8388608 := by
        have h23 : (8388608 : Nat) = 2 ^ 23 := by decide
        rw [h23, Nat.pow_add, Nat.mul_assoc]
      rw [e2, Nat.mul_div_cancel _ (by decide), Nat.mul_mod_left]
      have e3 : 2 * (m * 2 ^ t) + ((0 : Nat) != 0).toNat = m * 2 ^ (t + 1) := by
        rw [show ((0 : Nat) != 0) = false from rfl, Nat.pow_succ]
        show 2 * (m * 2 ^ t) + 0 = _
        rw [Nat.add_zero, Nat.mul_comm 2, Nat.mul_assoc]
      have e4 : 8388608 * m = m * 2 ^ 23 := by
        have h23 : (8388608 : Nat) = 2 ^ 23 := by decide
        rw [h23, Nat.mul_comm]
      rw [e3, e4, near_shift, near_shift]
      have e5 : (s ^^ false) = (false ^^ s) := by cases s <;> rfl
      rw [e5]
      exact congrArg (fun p : Int => FloatKind.f32.format.nearest (false ^^ s) m p) (by omega)
    · rw [read_inf h]
      generalize neg FloatKind.f32.format x = s
      unfold Datum.quotient Datum.product
      dsimp only
      rw [if_neg (by decide)]
end Go.Proofs.Ytpnmledanloboaa
namespace Go.Proofs.Ytpnmledanloboaa
open Go.Fl Go.RowKit Ieee
set_option linter.unusedSimpArgs false
set_option linter.unusedVariables false

def halfTr (M : Nat → Nat) : Nat := fop .mul .f32 1056964608 (trF M)
def rootC (C : Nat) : Nat := nar (fsqrt (wid (fop .sub .f32 1065353216 (fop .mul .f32 C C))))
def tuneF (M : Nat → Nat) : Nat := if fcmp .lss .f32 (M 1) 0 = true then fneg .f32 (angT (rootC (halfTr M)) (halfTr M)) else angT (rootC (halfTr M)) (halfTr M)
abbrev okTuneOf (ts : List El) : Bool := stab ts
def valTuneOf (ts : List El) : Nat := if stab ts then tuneF (lineM ts ts.length) else 0
theorem is_half : Is .f32 1056964608 1056964608 := Is.const (by decide +kernel)
theorem iHalf_any (x X : Nat) (ix : Is .f32 x X) (w : World) : Calls Try.prog 77 #[.float .f32 x] w fun e w' => (∃ r, e = .returned (.float .f32 r) ∧ Is .f32 r (fop .mul .f32 1056964608 X)) ∧ ∃ n, w' = w.drewN n := by
  have I2 := is_two
  rw [← half_eq]
  go_enter Try.func77, Try.ntmps77
  go_wp2_with (apply wpList_farith; rfl; rfl; rfl; rfl; (first | with_reducible assumption | exact Is.const rfl); (first | with_reducible assumption | exact Is.const rfl); intro r n hr)
  go_ret
  exact ⟨⟨_, rfl, hr⟩, _, rfl⟩
set_option maxHeartbeats 1000000 in
set_option maxRecDepth 100000 in
theorem iTuneOf_any (B : Nat) (v : Value) (ts : List El) (w : World) (hv : EOwn B w v ts) (h : oksE ts) (hn : ts.length ≤ 1048576) : Calls Try.prog 40 #[v] w fun e w' => (∃ r, e = .returned (.tuple #[.float .f32 r, .bool (okTuneOf ts)]) ∧ Is .f32 r (valTuneOf ts)) ∧ Below w.heap.size w w' := by
  have HV := Lib.hid hv; have HO := Lib.hid h
  clear hv h
  have I1 := is_one
  have IZ := is_nil
  obtain ⟨q, hq⟩ : ∃ q, stab ts = q := ⟨_, rfl⟩
  have HQ := Lib.hid hq
  obtain ⟨T, hT⟩ : ∃ T, valTuneOf ts = T := ⟨_, rfl⟩
  unfold okTuneOf
  rw [hq, hT]
  have HT := Lib.hid (show T = if q = true then tuneF (lineM ts ts.length) else 0 from hT.symm.trans (by unfold valTuneOf; rw [hq]))
  clear hq hT
  go_enter Try.func40, Try.ntmps40
  go_wp2_with fail
  refine (iStable_any B v ts _ HV.out HO.out hn).mono ?_
  rw [HQ.out]
  rintro e w2 hp
  unfold StabRes at hp
  obtain ⟨⟨a, b, c, d, rfl, h1, h2⟩, hb⟩ := hp
  have HB := Lib.hid hb
  have HZ := Lib.hid (stab_zB h1 h2)
  have HI := Lib.hid h1
  have heq := run_eql4 a b c d
  have hzq : zB a b c d = !q := HZ.out
  rw [hzq] at heq
  clear h1 h2 hb hzq
  have HB3 := Lib.hid (HB.out.alloc HB.out.size (MO a b c d))
  have HM3 := Lib.hid (heap_alloc_new w2 (MO a b c d))
  cases q with
  | false =>
    obtain rfl : T = 0 := HT.out
    go_wp2_with fail
    go_ret2
    exact ⟨⟨_, rfl, is_nil⟩, HB3.out⟩
  | true =>
    have HI4 := Lib.hid (HI.out rfl)
    have HTT := Lib.hid (show T = tuneF (lineM ts ts.length) from HT.out)
    generalize lineM ts ts.length = M at HI4 HTT
    go_wp2_with fail
    generalize w2.alloc (MO a b c d) = w3 at HB3 HM3 ⊢
    refine (iTrace_any a b c d _ HI4.out _).mono ?_
    rintro e w4 ⟨⟨t, rfl, ht⟩, hb4⟩
    have hbl : w2.heap.size < w3.heap.size := (Array.getElem?_eq_some_iff.1 HM3.out).1
    have HTR := Lib.hid ht
    have HB4 := Lib.hid (HB3.out.trans (hb4.mono HB3.out.size))
    have HM4 := Lib.hid ((hb4.block w2.heap.size hbl).trans HM3.out)
    have c1 : w4.cell? ⟨w2.heap.size, 1, none⟩ = some (.float .f32 b) := by rw [Joins.cell_of_block HM4.out]; rfl
    have c1' : ∀ n, (w4.drewN n).cell? ⟨w2.heap.size, 1, none⟩ = some (.float .f32 b) := fun n => c1
    have i1 := HI4.out.i1
    clear ht hb4 hbl heq
    go_wp2_with fail
    refine (iHalf_any t _ HTR.out _).mono ?_
    rintro e w' ⟨⟨x, rfl, hx⟩, n1, rfl⟩
    have hx' : Is .f32 x (halfTr M) := hx
    clear hx
    have HTF := Lib.hid HTT.out
    unfold tuneF rootC at HTF
    generalize halfTr M = C at hx' HTF
    go_wp2_with (apply wpList_farith; rfl; rfl; rfl; rfl; (first | with_reducible assumption | exact Is.const rfl); (first | with_reducible assumption | exact Is.const rfl); intro r n hr)
    refine (iRoot_any _ _ (by assumption) _).mono ?_
    rintro e w' ⟨⟨y, rfl, hy⟩, n2, rfl⟩
    go_wp2_with fail
    refine (iAngle_any y _ x _ hy hx' _).mono ?_
    rintro e w' ⟨⟨z, rfl, hz⟩, n3, rfl⟩
    cases hl : fcmp .lss .f32 (M 1) 0 with
    | true =>
      rw [hl, if_pos rfl] at HTF
      go_wp2_with (first | (apply wpList_fcmp; rfl; rfl; rfl; rfl; (first | with_reducible assumption | exact Is.const rfl); (first | with_reducible assumption | exact Is.const rfl); (first | with_reducible assumption | exact rfl)) | (apply wpList_fneg; rfl; rfl; have hg := Is.fneg (by assumption)))
      go_ret2
      exact ⟨⟨_, rfl, by rw [HTF.out]; exact ng_is hz⟩, below_drewN HB4.out _⟩
    | false =>
      rw [hl, if_neg (by decide)] at HTF
      go_wp2_with (first | (apply wpList_fcmp; rfl; rfl; rfl; rfl; (first | with_reducible assumption | exact Is.const rfl); (first | with_reducible assumption | exact Is.const rfl); (first | with_reducible assumption | exact rfl)) | (apply wpList_fneg; rfl; rfl; have hg := Is.fneg (by assumption)))
      go_ret2
      exact ⟨⟨_, rfl, by rw [HTF.out]; exact hz⟩, below_drewN HB4.out _⟩
set_option maxHeartbeats 1000000 in
set_option maxRecDepth 100000 in
theorem sTuneOf_any (B : Nat) (v : Value) (ts : List El) (w : World) (hv : EOwn B w v ts) (h : oksE ts) (hn : ts.length ≤ 1048576) : Calls Try.prog 39 #[v] w fun e w' => (∃ r, e = .returned (.tuple #[.float .f32 r, .bool (okTuneOf ts)]) ∧ Is .f32 r (valTuneOf ts)) ∧ Below w.heap.size w w' := by
  have HV := Lib.hid hv; have HO := Lib.hid h
  clear hv h
  have I1 := is_one
  have IZ := is_nil
  have IH := is_half
  obtain ⟨p, hp⟩ : ∃ p, okLine ts = p := ⟨_, rfl⟩
  have HP := Lib.hid hp
  obtain ⟨L, hL⟩ : ∃ L, fcmp .lss .f32 (absF (trF (lineM ts ts.length))) 1073741824 = L := ⟨_, rfl⟩
  have HL := Lib.hid hL
  obtain ⟨q, hq⟩ : ∃ q, stab ts = q := ⟨_, rfl⟩
  have HQ := Lib.hid (show q = (p && L) by rw [← hq]; unfold stab; rw [hp, hL])
  obtain ⟨T, hT⟩ : ∃ T, valTuneOf ts = T := ⟨_, rfl⟩
  unfold okTuneOf
  rw [hq, hT]
  have HT := Lib.hid (show T = if q = true then tuneF (lineM ts ts.length) else 0 from hT.symm.trans (by unfold valTuneOf; rw [hq]))
  clear hq hT hp hL
  go_enter Try.func39, Try.ntmps39
  go_wp2_with fail
  refine (sLine_any B v ts _ HV.out HO.out hn).mono ?_
  rw [HP.out]
  rintro e w2 ⟨rfl, n, rfl⟩
  have HV2 := Lib.hid (e_below HV.out (below_drewN (Below.refl w.heap.size w) n))
  have HD2 := Lib.hid (below_drewN (Below.refl w.heap.size w) n)
  cases p with
  | false =>
    obtain rfl : q = false := HQ.out
    obtain rfl : T = 0 := HT.out
    go_wp2_with fail
    go_ret2
    exact ⟨⟨_, rfl, is_nil⟩, HD2.out⟩
  | true =>
    go_wp2_with fail
    refine (sMatrix_any B v ts _ HV2.out HO.out hn).mono ?_
    rintro e w3 ⟨⟨r, rfl, hr⟩, hb⟩
    obtain ⟨a, b, c, d, h4, hf⟩ := fres4P hr
    have H4 := Lib.hid h4; have HF := Lib.hid hf
    have HB := Lib.hid (HD2.out.trans (hb.mono (Nat.le_refl _)))
    clear hr hb h4 hf
    go_wp2_with fail
    refine (sStable_any r a b c d _ _ HF.out H4.out).mono ?_
    rw [HL.out]
    rintro e w' ⟨rfl, n3, rfl⟩
    cases L with
    | false =>
      obtain rfl : q = false := HQ.out
      obtain rfl : T = 0 := HT.out
      go_wp2_with fail
      go_ret2
      exact ⟨⟨_, rfl, is_nil⟩, below_drewN HB.out _⟩
    | true =>
      obtain rfl : q = true := HQ.out
      have HTT := Lib.hid (show T = tuneF (lineM ts ts.length) from HT.out)
      generalize lineM ts ts.length = M at H4 HTT
      obtain ⟨i0, i1, i2, i3⟩ := H4.out
      obtain ⟨g, o, cap, rfl, hb, ⟨c0, c1, c2, c3⟩, _⟩ := fs4 HF.out
      have HTF := Lib.hid HTT.out
      unfold tuneF rootC halfTr trF at HTF
      clear HF
      go_wp2_with (first | ((with_reducible apply Loose.wp_start); kernel_rfl; kernel_rfl) | ((with_reducible apply Loose.start_cons)) | ((with_reducible apply Loose.start_nil)) | ((with_reducible apply Loose.walk_nil); intro n) | ((with_reducible apply Loose.walk_skip); exact rfl; (go_simp; first | done | exact rfl)) | ((with_reducible apply Loose.step_fc); rfl; rfl; rfl; rfl; (first | with_reducible assumption | exact Is.const rfl); (first | with_reducible assumption | exact Is.const rfl); (first | with_reducible assumption | exact rfl); exact rfl; (go_simp; first | done | exact rfl)) | ((with_reducible apply Loose.step_fa); rfl; rfl; rfl; rfl; (first | with_reducible assumption | exact Is.const rfl); (first | with_reducible assumption | exact Is.const rfl); exact rfl; (intro r; go_simp; first | done | exact rfl); intro r hr) | ((with_reducible apply Loose.step_wid); rfl; rfl; (first | with_reducible assumption | exact Is.const rfl); exact U32; exact U64; exact rfl; (intro r; go_simp; first | done | exact rfl); intro r hr) | ((with_reducible apply Loose.step_nar); rfl; rfl; (first | with_reducible assumption | exact Is.const rfl); exact U64; exact U32; (with_reducible assumption); exact rfl; (intro r; go_simp; first | done | exact rfl); intro r hr) | ((with_reducible apply Loose.step_assign); rfl; rfl; (with_reducible assumption); exact rfl; (intro r; go_simp; first | done | exact rfl); intro r hr) | ((with_reducible apply Loose.step_move); rfl; rfl; (with_reducible assumption); exact rfl; (intro r; go_simp; first | done | exact rfl); intro r hr) | ((with_reducible apply Loose.step_same); rfl; rfl; exact U32; exact U32; (first | with_reducible assumption | exact Is.const rfl); exact rfl; (intro r; go_simp; first | done | exact rfl); intro r hr) | ((with_reducible apply Loose.step_same); rfl; rfl; exact U64; exact U64; (first | with_reducible assumption | exact Is.const rfl); exact rfl; (intro r; go_simp; first | done | exact rfl); intro r hr) | ((with_reducible apply Loose.step_eq); rfl; (intro n; go_simp; first | done | exact rfl); exact rfl; (go_simp; first | done | exact rfl)) | (apply wpList_farith; rfl; rfl; rfl; rfl; (first | with_reducible assumption | exact Is.const rfl); (first | with_reducible assumption | exact Is.const rfl); intro r n hr))
      refine (sSqrt_any _ _ (by assumption) _).mono ?_
      rintro e w' ⟨⟨y, rfl, hy⟩, n5, rfl⟩
      go_wp2_with fail
      refine (sAngle_any y _ _ _ hy (by assumption) _).mono ?_
      rintro e w' ⟨⟨z, rfl, hz⟩, n6, rfl⟩
      cases hl : fcmp .lss .f32 (M 1) 0 with
      | true =>
        rw [hl, if_pos rfl] at HTF
        go_wp2_with (apply wpList_fcmp; rfl; rfl; rfl; rfl; (first | with_reducible assumption | exact Is.const rfl); (first | with_reducible assumption | exact Is.const rfl); (first | with_reducible assumption | exact rfl))
        go_ret2
        exact ⟨⟨_, rfl, by rw [HTF.out]; exact ng_is hz⟩, below_drewN HB.out _⟩
      | false =>
        rw [hl, if_neg (by decide)] at HTF
        go_wp2_with (apply wpList_fcmp; rfl; rfl; rfl; rfl; (first | with_reducible assumption | exact Is.const rfl); (first | with_reducible assumption | exact Is.const rfl); (first | with_reducible assumption | exact rfl))
        go_ret2
        exact ⟨⟨_, rfl, by rw [HTF.out]; exact hz⟩, below_drewN HB.out _⟩
end Go.Proofs.Ytpnmledanloboaa
