/- FnTunes: for all two lists of bytes the law returns true: a drawn ring is stable exactly if the trace of its matrix is less than 2, and its tune is the angle of half of the trace, nearly. No condition. -/
import Derived.Test.YtpnmledanloboaaRows
import Derived.WalkKit
import Derived.ProofKit
import Derived.OpenShut
import Derived.ShutString
import Derived.ChangeOld
import Derived.Below
import Derived.Laws.Cover2
import Derived.Test.YtpnmledanloboaaTnt
import Derived.Test.YtpnmledanloboaaTurns
import Derived.Test.YtpnmledanloboaaMatT
import Derived.Test.YtpnmledanloboaaB9
import Derived.Test.YtpnmledanloboaaB9a
namespace Go.Proofs.Ytpnmledanloboaa.fnTunes
open Go.ChangeShapes Go.WideShapes Go.ChangeAt Go.RowKit Go.Fl
open Go.ChangeMaps (open_string shut_string)
set_option linter.unusedVariables false
set_option linter.unusedSimpArgs false
open Go.Nl (NS)

theorem dr_oks {ts : List El} (h : ∀ t ∈ ts, DrE t) : oksE ts := fun t ht => (h t ht).ok
theorem ok_qT : ∀ n ∈ QS2, okEl ⟨0, n, 0⟩ = true ∧ okEl ⟨3, n, 0⟩ = true := by decide +kernel
theorem ok_lT : ∀ n ∈ LS2, okEl ⟨1, n, 0⟩ = true := by decide +kernel
theorem okT {t : El} (h : DrE t) : okEl t = true := by
  obtain ⟨k, n, p⟩ := t
  obtain ⟨hp, h⟩ := h
  obtain rfl : p = 0 := hp
  rcases h with ⟨hk, hn⟩ | ⟨hk, hn⟩ | ⟨hk, hn⟩
  · obtain rfl : k = 0 := hk
    exact (ok_qT n (List.mem_append_left _ hn)).1
  · obtain rfl : k = 1 := hk
    exact ok_lT n hn
  · obtain rfl : k = 3 := hk
    exact (ok_qT n hn).2
theorem dr_lineT {ts : List El} (hd : ∀ t ∈ ts, DrE t) (hl : ts.length ≤ 4) : okLine ts = true := by
  unfold okLine
  rw [Bool.and_eq_true]
  exact ⟨decide_eq_true (by omega), List.all_eq_true.2 fun t ht => okT (hd t ht)⟩
/-- A returned matrix, and its trace. -/
theorem tr4 {B : Nat} {w : World} {v : Value} {F : Nat → Nat} (h : FResE B w v 4 F) : ∃ z, z.length = 4 ∧ FS .f32 w v z ∧ valTraceOf z = trF F := by
  obtain ⟨rs, hl, he, ho⟩ := h
  refine ⟨rs, hl, fownE_FS ho he.lt, ?_⟩
  unfold valTraceOf
  rw [if_pos hl]
  unfold trF atL
  rw [show cn .f32 (rs.getD 0 0) = F 0 from (he 0 (by omega)).eq, show cn .f32 (rs.getD 3 0) = F 3 from (he 3 (by omega)).eq]
theorem fop_lt32 (op : BinOp) (x y : Nat) : fop op .f32 x y < 2 ^ FloatKind.f32.format.width := by
  unfold fop
  split
  · rename_i r h
    have hwf := floatBits_wf h
    have h1 : r < 4294967296 := by simpa [Lit.wf] using hwf
    exact h1
  · decide
theorem tr_lt (M : Nat → Nat) : trF M < 2 ^ FloatKind.f32.format.width := fop_lt32 .add _ _
set_option maxHeartbeats 8000000 in
set_option maxRecDepth 100000 in
theorem walk (a0 : Option Addr) (len0 cap0 : Nat) (z0 : List Int) (a1 : Option Addr) (len1 cap1 : Nat) (z1 : List Int) (W : World) (w0 : NS .u8 W (.slice a0 len0 cap0) z0) (w1 : NS .u8 W (.slice a1 len1 cap1) z1) :
    Calls Try.prog 12 #[.slice a0 len0 cap0, .slice a1 len1 cap1] W fun e w' => e = .returned (.bool true) ∧ Below W.heap.size W w' := by
  have HC := Lib.hid w0
  clear w0 w1
  by_cases hl : (1048576 < len0 ∨ 1048576 < len1)
  · have HL := Lib.hid (show decide (1048576 < len0 ∨ 1048576 < len1) = true from decide_eq_true hl)
    clear hl
    go_enter Try.func12, Try.ntmps12
    go_wp2_with fail
    refine (zLong9_any _ _ _ _ _ _ _).mono ?_; rw [HL.out]; rintro e w' ⟨rfl, rfl⟩
    go_wp2_with fail
    go_ret
    exact ⟨rfl, Below.refl _ _⟩
  have HL := Lib.hid (show decide (1048576 < len0 ∨ 1048576 < len1) = false from decide_eq_false hl)
  clear hl
  go_enter Try.func12, Try.ntmps12
  go_wp2_with fail
  refine (zLong9_any _ _ _ _ _ _ _).mono ?_; rw [HL.out]; rintro e w' ⟨rfl, hw⟩
  obtain rfl := hw.symm
  clear HL hw
  go_wp2_with fail
  refine (sElements_any _ z0 _ HC.out).mono ?_
  rintro e v1 ⟨lv, ts, rfl, hl4, hdr, hO1, hb1⟩
  have HOK := Lib.hid (dr_oks hdr)
  have HLN := Lib.hid (dr_lineT hdr hl4)
  have HTR := Lib.hid (trace_rw hdr hl4)
  have HE1 := Lib.hid hO1
  have HB1 := Lib.hid hb1
  clear hO1 hb1 hdr
  go_wp2_with fail
  refine (iMatrixOf_any _ _ ts _ HE1.out HOK.out (by omega)).mono ?_
  rintro e v2 ⟨⟨vm, rfl, hm⟩, hb2⟩
  rw [show okMatrixOf ts = true from HLN.out]
  rw [show lenMatrixOf ts = 4 by unfold lenMatrixOf; rw [if_pos HLN.out]] at hm
  obtain ⟨zm, hz4, hzs, hzt⟩ := tr4 hm
  have HZS := Lib.hid hzs
  have HE2 := Lib.hid (e_below HE1.out hb2)
  have HB2 := Lib.hid (HB1.out.trans (hb2.mono HB1.out.size))
  clear hm hzs hb2 HE1 HB1
  go_wp2_with fail
  refine (iTraceOf_any _ zm _ HZS.out (by omega)).mono ?_
  rw [hzt, show okTraceOf zm = true from decide_eq_true hz4]
  rintro e v3 ⟨⟨tr, rfl, htr⟩, hb3⟩
  have HE3 := Lib.hid (e_below HE2.out hb3)
  have HB3 := Lib.hid (HB2.out.trans (hb3.mono HB2.out.size))
  clear hz4 hzt hb3 HE2 HB2 HZS
  go_wp2_with fail
  refine (iTuneOf_any _ _ ts _ HE3.out HOK.out (by omega)).mono ?_
  rintro e v4 ⟨⟨tu, rfl, htu⟩, hb4⟩
  have HE4 := Lib.hid (e_below HE3.out hb4)
  have HB4 := Lib.hid (HB3.out.trans (hb4.mono HB3.out.size))
  have hng := ng_is htr
  have I2 := is_two
  have I0 : Is .f32 0 0 := Is.const (by decide +kernel)
  have Iq : Is .f32 1048576000 1048576000 := Is.const (by decide +kernel)
  have Ih : Is .f32 1056964608 1056964608 := Is.const (by decide +kernel)
  have Im : Is .f32 3204448256 3204448256 := Is.const (by decide +kernel)
  have Iw : Is .f64 4611686018427387904 4611686018427387904 := Is.const (by decide +kernel)
  have Ic : Is .f64 4576918229304087675 4576918229304087675 := Is.const (by decide +kernel)
  clear hb4 HE3 HB3
  have HST := Lib.hid (show stab ts = (fcmp .lss .f32 (trF (lineM ts ts.length)) 1073741824 && fcmp .lss .f32 (fneg .f32 (trF (lineM ts ts.length))) 1073741824) by
    obtain ⟨q, hq, _⟩ := HTR.out
    unfold stab
    rw [HLN.out, Bool.true_and, stab_is hq (tr_lt _)])
  have e1 : okTuneOf ts = stab ts := rfl
  rw [e1]
  clear e1
  by_cases hs1 : fcmp .lss .f32 (trF (lineM ts ts.length)) 1073741824 = true
  case neg =>
    have hs1' : fcmp .lss .f32 (trF (lineM ts ts.length)) 1073741824 = false := by simpa using hs1
    have hst : stab ts = false := by rw [HST.out, hs1', Bool.false_and]
    rw [hst]
    clear hs1 htu
    -- BEGIN n1
    go_wp2_with (first | (apply wpList_farith; rfl; rfl; rfl; rfl; (first | with_reducible assumption | exact Is.const rfl); (first | with_reducible assumption | exact Is.const rfl); intro r n hr) | (apply wpList_fcmp; rfl; rfl; rfl; rfl; (first | with_reducible assumption | exact Is.const rfl); (first | with_reducible assumption | exact Is.const rfl); (first | with_reducible assumption | exact rfl)) | fail)
    refine (iIsStable_any _ _ ts _ HE4.out HOK.out (by omega)).mono ?_
    rintro e v5 ⟨rfl, hb5⟩
    rw [show okIsStable ts = false from hst]
    go_wp2_with fail
    go_ret
    exact ⟨rfl, HB4.out.trans (hb5.mono HB4.out.size)⟩
    -- END n1
  by_cases hs2 : fcmp .lss .f32 (fneg .f32 (trF (lineM ts ts.length))) 1073741824 = true
  case neg =>
    have hs2' : fcmp .lss .f32 (fneg .f32 (trF (lineM ts ts.length))) 1073741824 = false := by simpa using hs2
    have hst : stab ts = false := by rw [HST.out, hs1, hs2', Bool.true_and]
    rw [hst]
    clear hs2 htu
    -- BEGIN n2
    go_wp2_with (first | (apply wpList_farith; rfl; rfl; rfl; rfl; (first | with_reducible assumption | exact Is.const rfl); (first | with_reducible assumption | exact Is.const rfl); intro r n hr) | (apply wpList_fcmp; rfl; rfl; rfl; rfl; (first | with_reducible assumption | exact Is.const rfl); (first | with_reducible assumption | exact Is.const rfl); (first | with_reducible assumption | exact rfl)) | fail)
    refine (iIsStable_any _ _ ts _ HE4.out HOK.out (by omega)).mono ?_
    rintro e v5 ⟨rfl, hb5⟩
    rw [show okIsStable ts = false from hst]
    go_wp2_with fail
    go_ret
    exact ⟨rfl, HB4.out.trans (hb5.mono HB4.out.size)⟩
    -- END n2
  have hst : stab ts = true := by rw [HST.out, hs1, hs2]; rfl
  rw [hst]
  unfold valTuneOf at htu
  rw [if_pos hst] at htu
  obtain ⟨q, hq, _⟩ := HTR.out
  have q2 := (rw_lss hq rw_two).1 hs1
  have q1 : -2 < q := by have h := (rw_lss (rw_fneg hq (tr_lt _)) rw_two).1 hs2; grind
  obtain ⟨u, R, hu, ⟨u2, u1⟩, hR, hRn⟩ := tune_near hq q1 q2
  have hge : fcmp .geq .f32 (tuneF (lineM ts ts.length)) 3204448256 = true := by
    rw [fcmp_geq .f32 (rw_nan hu) (rw_nan rw_mhalf)]
    exact decide_eq_true (Int.not_lt.1 fun h => absurd ((rw_lt hu rw_mhalf).1 h) (Rat.not_lt.2 u1))
  have hle : fcmp .leq .f32 (tuneF (lineM ts ts.length)) 1056964608 = true := by
    rw [fcmp_leq .f32 (rw_nan hu) (rw_nan rw_half)]
    exact decide_eq_true (Int.not_lt.1 fun h => absurd ((rw_lt rw_half hu).1 h) (Rat.not_lt.2 u2))
  have hlast := cmp_tune hR hq hRn ⟨by grind, by grind⟩
  clear hq q1 q2 hu u1 u2 hR hRn HTR HST
  generalize tuneF (lineM ts ts.length) = X at *
  generalize trF (lineM ts ts.length) = T at *
  go_wp2_with (first | (apply wpList_farith; rfl; rfl; rfl; rfl; (first | with_reducible assumption | exact Is.const rfl); (first | with_reducible assumption | exact Is.const rfl); intro r n hr) | (apply wpList_fcmp; rfl; rfl; rfl; rfl; (first | with_reducible assumption | exact Is.const rfl); (first | with_reducible assumption | exact Is.const rfl); (first | with_reducible assumption | exact rfl)) | fail)
  refine (iIsStable_any _ _ ts _ HE4.out HOK.out (by omega)).mono ?_
  rintro e v5 ⟨rfl, hb5⟩
  rw [show okIsStable ts = true from hst]
  have HB5 := Lib.hid (HB4.out.trans (hb5.mono HB4.out.size))
  clear hb5
  go_wp2_with (first | (apply wpList_farith; rfl; rfl; rfl; rfl; (first | with_reducible assumption | exact Is.const rfl); (first | with_reducible assumption | exact Is.const rfl); intro r n hr) | (apply wpList_fcmp; rfl; rfl; rfl; rfl; (first | with_reducible assumption | exact Is.const rfl); (first | with_reducible assumption | exact Is.const rfl); (first | with_reducible assumption | exact rfl)) | fail)
  refine (sSineTurns_any _ _ (by assumption) _).mono ?_
  rintro e w6 ⟨⟨c, rfl, hc⟩, n6, rfl⟩
  go_wp2_with (first | (apply wpList_wid; rfl; rfl; (first | with_reducible assumption | exact Is.const rfl); exact U32; exact U64; intro r n hr) | (apply wpList_farith; rfl; rfl; rfl; rfl; (first | with_reducible assumption | exact Is.const rfl); (first | with_reducible assumption | exact Is.const rfl); intro r n hr) | (apply wpList_fcmp; rfl; rfl; rfl; rfl; (first | with_reducible assumption | exact Is.const rfl); (first | with_reducible assumption | exact Is.const rfl); (first | with_reducible assumption | exact rfl)) | fail)
  refine (gap9D_any _ _ _ _ (by assumption) (by assumption) _).mono ?_
  rintro e w7 ⟨⟨g1, rfl, hg1⟩, n7, rfl⟩
  go_wp2_with (first | (apply wpList_wid; rfl; rfl; (first | with_reducible assumption | exact Is.const rfl); exact U32; exact U64; intro r n hr) | (apply wpList_farith; rfl; rfl; rfl; rfl; (first | with_reducible assumption | exact Is.const rfl); (first | with_reducible assumption | exact Is.const rfl); intro r n hr) | (apply wpList_fcmp; rfl; rfl; rfl; rfl; (first | with_reducible assumption | exact Is.const rfl); (first | with_reducible assumption | exact Is.const rfl); (first | with_reducible assumption | exact rfl)) | fail)
  go_ret
  exact ⟨rfl, below_drewN HB5.out _⟩

/-! ### from the walk to the statement -/
theorem own : ownKnob Try.prog.godebug = none := by kernel_rfl
theorem laidOut : laidOutB Try.prog = true := by kernel_rfl
set_option maxRecDepth 100000 in
theorem lifted (os : Os) (started : os.Started) (H : Type) (enc : TypeId × Value → H) :
    ReturnsInHanded {} Try.checked os 12 .any (Rows.fnTunesSpec.pre6 enc Try.prog Try.f12 Rows.fnTunesRow.domain false) (Rows.fnTunesSpec.post enc Try.prog Try.f12 false true false false) := by
  refine returnsInHanded_of_change (C := Try.checked) own started (by kernel_rfl) Try.func12
    (ChangeSpec.witness6 (enc := enc) (C := Try.checked) false ⟨#[], #[.slice none 0 0, .slice none 0 0], []⟩ 8 (by kernel_rfl) (by kernel_rfl) (by kernel_rfl) (by kernel_rfl)) ?_
  intro W base args ds gs before hval0 hW hcnd _
  have hval : ∀ (j : Nat) t v, Try.f12.params[j]? = some t → args[j]? = some v → Value.okWide Try.prog W .any base t v := hval0
  have hW' := hW
  obtain ⟨p, q, hA0, hV, rfl, hfz, hnd⟩ := hW
  have hA : DataW.TrodAll enc Try.prog W 0 (fun _ => true) true Try.f12.params.toList args.toList ds p := hA0
  rw [Try.params12] at hA hval
  obtain ⟨v0, vs0, d0, ds0, p0, q0, hargs, rfl, rfl, h0, r0⟩ := trodAll_cons hA
  obtain ⟨v1, vs1, d1, ds1, p1, q1, rfl, rfl, rfl, h1, r1⟩ := trodAll_cons r0
  obtain ⟨rfl, rfl, rfl⟩ := trodAll_nil r1
  obtain rfl : args = #[v0, v1] := by cases args; simp_all
  obtain ⟨rfl, rfl⟩ := trodVars_none hV
  obtain ⟨a0, len0, cap0, rfl⟩ := okWide_slice Try.underlying52 (hval 0 52 v0 rfl rfl)
  have k0 := h0
  have lt0 : ∀ x ∈ p0, x.block < W.heap.size := by obtain ⟨m, hm⟩ := k0; exact DataW.trod_lt m _ _ _ hm
  obtain ⟨z0, w0⟩ : ∃ zs, Nl.NS .u8 W (.slice a0 len0 cap0) zs := Nl.open_nums Try.underlying52 Try.underlying5 (by kernel_rfl) h0
  obtain ⟨a1, len1, cap1, rfl⟩ := okWide_slice Try.underlying52 (hval 1 52 v1 rfl rfl)
  have k1 := h1
  have lt1 : ∀ x ∈ p1, x.block < W.heap.size := by obtain ⟨m, hm⟩ := k1; exact DataW.trod_lt m _ _ _ hm
  obtain ⟨z1, w1⟩ : ∃ zs, Nl.NS .u8 W (.slice a1 len1 cap1) zs := Nl.open_nums Try.underlying52 Try.underlying5 (by kernel_rfl) h1
  clear hA0 hval0
  refine (walk a0 len0 cap0 z0 a1 len1 cap1 z1 W w0 w1).mono fun e W' ⟨he, bel⟩ => ?_
  subst he
  exact ⟨_, rfl, _, _, _, [], _, [], hW', trodAll_mk1 (shut_bool Try.underlying4 _), (trodAll_cons_mk (Below.trod laidOut (by kernel_rfl) (of_decide_eq_true (by kernel_rfl)) k0 bel lt0) (trodAll_cons_mk (Below.trod laidOut (by kernel_rfl) (of_decide_eq_true (by kernel_rfl)) k1 bel lt1) trodAll_mk0)), rfl, bel.frame _, fun h => by cases h⟩

theorem over : Rows.fnTunesRow.holds Try.pinned (OpenSpec.ofChange Rows.fnTunesSpec) :=
  OpenClaim.holds_of_wide 12 Try.f12 rfl rfl rfl rfl rfl rfl rfl ⟨rfl, rfl, rfl, rfl, rfl⟩ rfl rfl rfl rfl rfl (by kernel_rfl) Try.func12 (by kernel_rfl)
    (of_decide_eq_true (by kernel_rfl)) (by unfold Func.isWrapper; first | (rw [if_pos (by decide +kernel)]; kernel_rfl) | (rw [if_neg (by decide +kernel)]; exact ⟨rfl, rfl⟩))
    (fun os started H enc _ => lifted os started H enc)

/-- The statement. -/
theorem proved : Rows.FnTunesSaid := over
#print axioms proved
end Go.Proofs.Ytpnmledanloboaa.fnTunes
