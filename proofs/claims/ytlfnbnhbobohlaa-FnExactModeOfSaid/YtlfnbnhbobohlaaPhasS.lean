/-
  Phasors: the contract of the model's function at short turns; both functions at every number.
-/
import Derived.Test.YtlfnbnhbobohlaaPhasC
namespace Go.Proofs.Ytlfnbnhbobohlaa
open Go.Fl Go.RowKit

theorem sWide_s (x Y : Nat) (ix : Is .f64 x Y) (hs : short Y) (w : World) : Calls Try.prog 119 #[.float .f64 x] w fun e w' => (∃ r, e = .returned (.float .f64 r) ∧ Is .f64 r (sineW Y)) ∧ ∃ n, w' = w.drewN n := sWide_short x Y ix hs.fin hs.long w

set_option maxHeartbeats 2000000 in
theorem sPh_t (x Y : Nat) (ix : Is .f64 x Y) (ht : floatToIntVal .f64 Y .i64 = some (tint Y)) (hq : fcmp .neq .f64 (fop .sub .f64 Y Y) 0 = false) (hg : fcmp .geq .f64 Y 4841369599423283200 = false) (hl : fcmp .leq .f64 Y 14064741636278059008 = false)
    (h0 : fcmp .lss .f64 (fop .sub .f64 Y (floatOfInt .f64 (tint Y))) 0 = true) (HB : Hid (Bd (fop .add .f64 (fop .sub .f64 Y (floatOfInt .f64 (tint Y))) 4607182418800017408) 1075)) (w : World) :
    Calls Try.prog 134 #[.float .f64 x] w fun e w' => PhOut (fop .add .f64 (fop .sub .f64 Y (floatOfInt .f64 (tint Y))) 4607182418800017408) e ∧ ∃ n, w' = w.drewN n := by
  have hi := intWord_is (tint Y)
  go_enter Try.func134, Try.ntmps134
  go_wp2_with (first | (apply wpList_toInt; rfl; rfl; (first | with_reducible assumption | exact Is.const rfl); exact U64; exact UI; (with_reducible assumption)) | (apply wpList_fcmp; rfl; rfl; rfl; rfl; (first | with_reducible assumption | exact Is.const rfl); (first | with_reducible assumption | exact Is.const rfl); (first | with_reducible assumption | exact rfl)) | (apply wpList_farith; rfl; rfl; rfl; rfl; (first | with_reducible assumption | exact Is.const rfl); (first | with_reducible assumption | exact Is.const rfl); intro r n hr))
  clear ht hq hg hl h0
  go_loopw [3, 4] (fun p k wr => ∃ (j : Nat), k = .int .i64 (j : Int) ∧ (∃ r, p = .float .f64 r ∧ Is .f64 r (quar (fop .add .f64 (fop .sub .f64 Y (floatOfInt .f64 (tint Y))) 4607182418800017408) j)) ∧ Hid (∀ i, i < j → fcmp .geq .f64 (quar (fop .add .f64 (fop .sub .f64 Y (floatOfInt .f64 (tint Y))) 4607182418800017408) i) 4598175219545276416 = true) ∧ ∃ n, wr = w.drewN n) (fun _ k _ => (9 - intOf k).toNat)
  case atStart => exact ⟨0, rfl, ⟨_, rfl, by assumption⟩, Lib.hid (fun i hi => absurd hi (Nat.not_lt_zero i)), _, rfl⟩
  case round =>
    obtain ⟨j, rfl, ⟨q, rfl, hq⟩, HA, m, rfl⟩ := hrel
    obtain ⟨hj, hb, -⟩ := quar_bd HB.out j HA.out
    by_cases hg : fcmp .geq .f64 (quar (fop .add .f64 (fop .sub .f64 Y (floatOfInt .f64 (tint Y))) 4607182418800017408) j) 4598175219545276416 = true
    · have hall : ∀ i, i < j + 1 → fcmp .geq .f64 (quar (fop .add .f64 (fop .sub .f64 Y (floatOfInt .f64 (tint Y))) 4607182418800017408) i) 4598175219545276416 = true := fun i hi => by
        rcases Nat.lt_succ_iff_lt_or_eq.1 hi with l | l
        · exact HA.out i l
        · rw [l]; exact hg
      have hj2 := (quar_bd HB.out (j + 1) hall).1
      have HB2 := Lib.hid hall
      clear hall hb
      go_wp2_with (first | (apply wpList_fcmp; rfl; rfl; rfl; rfl; (first | with_reducible assumption | exact Is.const rfl); (first | with_reducible assumption | exact Is.const rfl); (first | with_reducible assumption | exact rfl)) | (apply wpList_farith; rfl; rfl; rfl; rfl; (first | with_reducible assumption | exact Is.const rfl); (first | with_reducible assumption | exact Is.const rfl); intro r n hr))
      go_roundw
      case rel => exact ⟨j + 1, by go_num, ⟨_, rfl, by assumption⟩, HB2, _, rfl⟩
      case measure => simp [intOf]; omega
    · replace hg : fcmp .geq .f64 (quar (fop .add .f64 (fop .sub .f64 Y (floatOfInt .f64 (tint Y))) 4607182418800017408) j) 4598175219545276416 = false := by simpa using hg
      have HG := Lib.hid hg
      have h1 : short (quar (fop .add .f64 (fop .sub .f64 Y (floatOfInt .f64 (tint Y))) 4607182418800017408) j) := hb.short (by decide)
      have h2 : short (fop .sub .f64 4598175219545276416 (quar (fop .add .f64 (fop .sub .f64 Y (floatOfInt .f64 (tint Y))) 4607182418800017408) j)) := ((quart_bd2).sub hb (by decide)).short (by decide)
      have hcase : j = 0 ∨ j = 1 ∨ j = 2 ∨ j = 3 ∨ j = 4 ∨ j = 5 ∨ j = 6 ∨ j = 7 ∨ j = 8 := by omega
      clear hj hb
      rcases hcase with rfl | rfl | rfl | rfl | rfl | rfl | rfl | rfl | rfl
      · obtain ⟨h3, h4⟩ := tq_bd (j := 0) (sineW_bd h2) (sineW_bd h1)
        have f1 := h3.fits (by decide)
        have f2 := h4.fits (by decide)
        simp only [tqR, tqI, Nat.reduceEqDiff, if_false] at f1 f2
        clear h3 h4
        go_wp2_with (first | (apply wpList_fcmp; rfl; rfl; rfl; rfl; (first | with_reducible assumption | exact Is.const rfl); (first | with_reducible assumption | exact Is.const rfl); (first | with_reducible assumption | exact rfl)) | (apply wpList_farith; rfl; rfl; rfl; rfl; (first | with_reducible assumption | exact Is.const rfl); (first | with_reducible assumption | exact Is.const rfl); intro r n hr) | (go_at_call 119; ((with_reducible refine (sWide_s _ _ (by assumption) (by assumption) _).mono ?_); rintro e w' ⟨⟨r1, rfl, hr1⟩, n1, rfl⟩)) | (go_at_call 118; ((with_reducible refine (sNarrow_any _ _ (by assumption) (by assumption) _).mono ?_); rintro e w' ⟨⟨r2, rfl, hr2⟩, n2, rfl⟩)))
        go_ret
        exact ⟨⟨0, ⟨HA.out, HG.out⟩, _, _, rfl, by assumption, by assumption⟩, _, rfl⟩
      · obtain ⟨h3, h4⟩ := tq_bd (j := 1) (sineW_bd h2) (sineW_bd h1)
        have f1 := h3.fits (by decide)
        have f2 := h4.fits (by decide)
        simp only [tqR, tqI, Nat.reduceEqDiff, if_true, if_false] at f1 f2
        clear h3 h4
        go_wp2_with (first | (apply wpList_fcmp; rfl; rfl; rfl; rfl; (first | with_reducible assumption | exact Is.const rfl); (first | with_reducible assumption | exact Is.const rfl); (first | with_reducible assumption | exact rfl)) | (apply wpList_farith; rfl; rfl; rfl; rfl; (first | with_reducible assumption | exact Is.const rfl); (first | with_reducible assumption | exact Is.const rfl); intro r n hr) | (go_at_call 119; ((with_reducible refine (sWide_s _ _ (by assumption) (by assumption) _).mono ?_); rintro e w' ⟨⟨r1, rfl, hr1⟩, n1, rfl⟩)) | (go_at_call 118; ((with_reducible refine (sNarrow_any _ _ (by assumption) (by assumption) _).mono ?_); rintro e w' ⟨⟨r2, rfl, hr2⟩, n2, rfl⟩)))
        go_ret
        exact ⟨⟨1, ⟨HA.out, HG.out⟩, _, _, rfl, by assumption, by assumption⟩, _, rfl⟩
      · obtain ⟨h3, h4⟩ := tq_bd (j := 2) (sineW_bd h2) (sineW_bd h1)
        have f1 := h3.fits (by decide)
        have f2 := h4.fits (by decide)
        simp only [tqR, tqI, Nat.reduceEqDiff, if_true, if_false] at f1 f2
        clear h3 h4
        go_wp2_with (first | (apply wpList_fcmp; rfl; rfl; rfl; rfl; (first | with_reducible assumption | exact Is.const rfl); (first | with_reducible assumption | exact Is.const rfl); (first | with_reducible assumption | exact rfl)) | (apply wpList_farith; rfl; rfl; rfl; rfl; (first | with_reducible assumption | exact Is.const rfl); (first | with_reducible assumption | exact Is.const rfl); intro r n hr) | (go_at_call 119; ((with_reducible refine (sWide_s _ _ (by assumption) (by assumption) _).mono ?_); rintro e w' ⟨⟨r1, rfl, hr1⟩, n1, rfl⟩)) | (go_at_call 118; ((with_reducible refine (sNarrow_any _ _ (by assumption) (by assumption) _).mono ?_); rintro e w' ⟨⟨r2, rfl, hr2⟩, n2, rfl⟩)))
        go_ret
        exact ⟨⟨2, ⟨HA.out, HG.out⟩, _, _, rfl, by assumption, by assumption⟩, _, rfl⟩
      · obtain ⟨h3, h4⟩ := tq_bd (j := 3) (sineW_bd h2) (sineW_bd h1)
        have f1 := h3.fits (by decide)
        have f2 := h4.fits (by decide)
        simp only [tqR, tqI, Nat.reduceEqDiff, if_true, if_false] at f1 f2
        clear h3 h4
        go_wp2_with (first | (apply wpList_fcmp; rfl; rfl; rfl; rfl; (first | with_reducible assumption | exact Is.const rfl); (first | with_reducible assumption | exact Is.const rfl); (first | with_reducible assumption | exact rfl)) | (apply wpList_farith; rfl; rfl; rfl; rfl; (first | with_reducible assumption | exact Is.const rfl); (first | with_reducible assumption | exact Is.const rfl); intro r n hr) | (go_at_call 119; ((with_reducible refine (sWide_s _ _ (by assumption) (by assumption) _).mono ?_); rintro e w' ⟨⟨r1, rfl, hr1⟩, n1, rfl⟩)) | (go_at_call 118; ((with_reducible refine (sNarrow_any _ _ (by assumption) (by assumption) _).mono ?_); rintro e w' ⟨⟨r2, rfl, hr2⟩, n2, rfl⟩)))
        go_ret
        exact ⟨⟨3, ⟨HA.out, HG.out⟩, _, _, rfl, by assumption, by assumption⟩, _, rfl⟩
      · obtain ⟨h3, h4⟩ := tq_bd (j := 4) (sineW_bd h2) (sineW_bd h1)
        have f1 := h3.fits (by decide)
        have f2 := h4.fits (by decide)
        simp only [tqR, tqI, Nat.reduceEqDiff, if_false] at f1 f2
        clear h3 h4
        go_wp2_with (first | (apply wpList_fcmp; rfl; rfl; rfl; rfl; (first | with_reducible assumption | exact Is.const rfl); (first | with_reducible assumption | exact Is.const rfl); (first | with_reducible assumption | exact rfl)) | (apply wpList_farith; rfl; rfl; rfl; rfl; (first | with_reducible assumption | exact Is.const rfl); (first | with_reducible assumption | exact Is.const rfl); intro r n hr) | (go_at_call 119; ((with_reducible refine (sWide_s _ _ (by assumption) (by assumption) _).mono ?_); rintro e w' ⟨⟨r1, rfl, hr1⟩, n1, rfl⟩)) | (go_at_call 118; ((with_reducible refine (sNarrow_any _ _ (by assumption) (by assumption) _).mono ?_); rintro e w' ⟨⟨r2, rfl, hr2⟩, n2, rfl⟩)))
        go_ret
        exact ⟨⟨4, ⟨HA.out, HG.out⟩, _, _, rfl, by assumption, by assumption⟩, _, rfl⟩
      · obtain ⟨h3, h4⟩ := tq_bd (j := 5) (sineW_bd h2) (sineW_bd h1)
        have f1 := h3.fits (by decide)
        have f2 := h4.fits (by decide)
        simp only [tqR, tqI, Nat.reduceEqDiff, if_false] at f1 f2
        clear h3 h4
        go_wp2_with (first | (apply wpList_fcmp; rfl; rfl; rfl; rfl; (first | with_reducible assumption | exact Is.const rfl); (first | with_reducible assumption | exact Is.const rfl); (first | with_reducible assumption | exact rfl)) | (apply wpList_farith; rfl; rfl; rfl; rfl; (first | with_reducible assumption | exact Is.const rfl); (first | with_reducible assumption | exact Is.const rfl); intro r n hr) | (go_at_call 119; ((with_reducible refine (sWide_s _ _ (by assumption) (by assumption) _).mono ?_); rintro e w' ⟨⟨r1, rfl, hr1⟩, n1, rfl⟩)) | (go_at_call 118; ((with_reducible refine (sNarrow_any _ _ (by assumption) (by assumption) _).mono ?_); rintro e w' ⟨⟨r2, rfl, hr2⟩, n2, rfl⟩)))
        go_ret
        exact ⟨⟨5, ⟨HA.out, HG.out⟩, _, _, rfl, by assumption, by assumption⟩, _, rfl⟩
      · obtain ⟨h3, h4⟩ := tq_bd (j := 6) (sineW_bd h2) (sineW_bd h1)
        have f1 := h3.fits (by decide)
        have f2 := h4.fits (by decide)
        simp only [tqR, tqI, Nat.reduceEqDiff, if_false] at f1 f2
        clear h3 h4
        go_wp2_with (first | (apply wpList_fcmp; rfl; rfl; rfl; rfl; (first | with_reducible assumption | exact Is.const rfl); (first | with_reducible assumption | exact Is.const rfl); (first | with_reducible assumption | exact rfl)) | (apply wpList_farith; rfl; rfl; rfl; rfl; (first | with_reducible assumption | exact Is.const rfl); (first | with_reducible assumption | exact Is.const rfl); intro r n hr) | (go_at_call 119; ((with_reducible refine (sWide_s _ _ (by assumption) (by assumption) _).mono ?_); rintro e w' ⟨⟨r1, rfl, hr1⟩, n1, rfl⟩)) | (go_at_call 118; ((with_reducible refine (sNarrow_any _ _ (by assumption) (by assumption) _).mono ?_); rintro e w' ⟨⟨r2, rfl, hr2⟩, n2, rfl⟩)))
        go_ret
        exact ⟨⟨6, ⟨HA.out, HG.out⟩, _, _, rfl, by assumption, by assumption⟩, _, rfl⟩
      · obtain ⟨h3, h4⟩ := tq_bd (j := 7) (sineW_bd h2) (sineW_bd h1)
        have f1 := h3.fits (by decide)
        have f2 := h4.fits (by decide)
        simp only [tqR, tqI, Nat.reduceEqDiff, if_false] at f1 f2
        clear h3 h4
        go_wp2_with (first | (apply wpList_fcmp; rfl; rfl; rfl; rfl; (first | with_reducible assumption | exact Is.const rfl); (first | with_reducible assumption | exact Is.const rfl); (first | with_reducible assumption | exact rfl)) | (apply wpList_farith; rfl; rfl; rfl; rfl; (first | with_reducible assumption | exact Is.const rfl); (first | with_reducible assumption | exact Is.const rfl); intro r n hr) | (go_at_call 119; ((with_reducible refine (sWide_s _ _ (by assumption) (by assumption) _).mono ?_); rintro e w' ⟨⟨r1, rfl, hr1⟩, n1, rfl⟩)) | (go_at_call 118; ((with_reducible refine (sNarrow_any _ _ (by assumption) (by assumption) _).mono ?_); rintro e w' ⟨⟨r2, rfl, hr2⟩, n2, rfl⟩)))
        go_ret
        exact ⟨⟨7, ⟨HA.out, HG.out⟩, _, _, rfl, by assumption, by assumption⟩, _, rfl⟩
      · obtain ⟨h3, h4⟩ := tq_bd (j := 8) (sineW_bd h2) (sineW_bd h1)
        have f1 := h3.fits (by decide)
        have f2 := h4.fits (by decide)
        simp only [tqR, tqI, Nat.reduceEqDiff, if_false] at f1 f2
        clear h3 h4
        go_wp2_with (first | (apply wpList_fcmp; rfl; rfl; rfl; rfl; (first | with_reducible assumption | exact Is.const rfl); (first | with_reducible assumption | exact Is.const rfl); (first | with_reducible assumption | exact rfl)) | (apply wpList_farith; rfl; rfl; rfl; rfl; (first | with_reducible assumption | exact Is.const rfl); (first | with_reducible assumption | exact Is.const rfl); intro r n hr) | (go_at_call 119; ((with_reducible refine (sWide_s _ _ (by assumption) (by assumption) _).mono ?_); rintro e w' ⟨⟨r1, rfl, hr1⟩, n1, rfl⟩)) | (go_at_call 118; ((with_reducible refine (sNarrow_any _ _ (by assumption) (by assumption) _).mono ?_); rintro e w' ⟨⟨r2, rfl, hr2⟩, n2, rfl⟩)))
        go_ret
        exact ⟨⟨8, ⟨HA.out, HG.out⟩, _, _, rfl, by assumption, by assumption⟩, _, rfl⟩
set_option maxHeartbeats 2000000 in
theorem sPh_f (x Y : Nat) (ix : Is .f64 x Y) (ht : floatToIntVal .f64 Y .i64 = some (tint Y)) (hq : fcmp .neq .f64 (fop .sub .f64 Y Y) 0 = false) (hg : fcmp .geq .f64 Y 4841369599423283200 = false) (hl : fcmp .leq .f64 Y 14064741636278059008 = false)
    (h0 : fcmp .lss .f64 (fop .sub .f64 Y (floatOfInt .f64 (tint Y))) 0 = false) (HB : Hid (Bd (fop .sub .f64 Y (floatOfInt .f64 (tint Y))) 1075)) (w : World) :
    Calls Try.prog 134 #[.float .f64 x] w fun e w' => PhOut (fop .sub .f64 Y (floatOfInt .f64 (tint Y))) e ∧ ∃ n, w' = w.drewN n := by
  have hi := intWord_is (tint Y)
  go_enter Try.func134, Try.ntmps134
  go_wp2_with (first | (apply wpList_toInt; rfl; rfl; (first | with_reducible assumption | exact Is.const rfl); exact U64; exact UI; (with_reducible assumption)) | (apply wpList_fcmp; rfl; rfl; rfl; rfl; (first | with_reducible assumption | exact Is.const rfl); (first | with_reducible assumption | exact Is.const rfl); (first | with_reducible assumption | exact rfl)) | (apply wpList_farith; rfl; rfl; rfl; rfl; (first | with_reducible assumption | exact Is.const rfl); (first | with_reducible assumption | exact Is.const rfl); intro r n hr))
  clear ht hq hg hl h0
  go_loopw [3, 4] (fun p k wr => ∃ (j : Nat), k = .int .i64 (j : Int) ∧ (∃ r, p = .float .f64 r ∧ Is .f64 r (quar (fop .sub .f64 Y (floatOfInt .f64 (tint Y))) j)) ∧ Hid (∀ i, i < j → fcmp .geq .f64 (quar (fop .sub .f64 Y (floatOfInt .f64 (tint Y))) i) 4598175219545276416 = true) ∧ ∃ n, wr = w.drewN n) (fun _ k _ => (9 - intOf k).toNat)
  case atStart => exact ⟨0, rfl, ⟨_, rfl, by assumption⟩, Lib.hid (fun i hi => absurd hi (Nat.not_lt_zero i)), _, rfl⟩
  case round =>
    obtain ⟨j, rfl, ⟨q, rfl, hq⟩, HA, m, rfl⟩ := hrel
    obtain ⟨hj, hb, -⟩ := quar_bd HB.out j HA.out
    by_cases hg : fcmp .geq .f64 (quar (fop .sub .f64 Y (floatOfInt .f64 (tint Y))) j) 4598175219545276416 = true
    · have hall : ∀ i, i < j + 1 → fcmp .geq .f64 (quar (fop .sub .f64 Y (floatOfInt .f64 (tint Y))) i) 4598175219545276416 = true := fun i hi => by
        rcases Nat.lt_succ_iff_lt_or_eq.1 hi with l | l
        · exact HA.out i l
        · rw [l]; exact hg
      have hj2 := (quar_bd HB.out (j + 1) hall).1
      have HB2 := Lib.hid hall
      clear hall hb
      go_wp2_with (first | (apply wpList_fcmp; rfl; rfl; rfl; rfl; (first | with_reducible assumption | exact Is.const rfl); (first | with_reducible assumption | exact Is.const rfl); (first | with_reducible assumption | exact rfl)) | (apply wpList_farith; rfl; rfl; rfl; rfl; (first | with_reducible assumption | exact Is.const rfl); (first | with_reducible assumption | exact Is.const rfl); intro r n hr))
      go_roundw
      case rel => exact ⟨j + 1, by go_num, ⟨_, rfl, by assumption⟩, HB2, _, rfl⟩
      case measure => simp [intOf]; omega
    · replace hg : fcmp .geq .f64 (quar (fop .sub .f64 Y (floatOfInt .f64 (tint Y))) j) 4598175219545276416 = false := by simpa using hg
      have HG := Lib.hid hg
      have h1 : short (quar (fop .sub .f64 Y (floatOfInt .f64 (tint Y))) j) := hb.short (by decide)
      have h2 : short (fop .sub .f64 4598175219545276416 (quar (fop .sub .f64 Y (floatOfInt .f64 (tint Y))) j)) := ((quart_bd2).sub hb (by decide)).short (by decide)
      have hcase : j = 0 ∨ j = 1 ∨ j = 2 ∨ j = 3 ∨ j = 4 ∨ j = 5 ∨ j = 6 ∨ j = 7 ∨ j = 8 := by omega
      clear hj hb
      rcases hcase with rfl | rfl | rfl | rfl | rfl | rfl | rfl | rfl | rfl
      · obtain ⟨h3, h4⟩ := tq_bd (j := 0) (sineW_bd h2) (sineW_bd h1)
        have f1 := h3.fits (by decide)
        have f2 := h4.fits (by decide)
        simp only [tqR, tqI, Nat.reduceEqDiff, if_false] at f1 f2
        clear h3 h4
        go_wp2_with (first | (apply wpList_fcmp; rfl; rfl; rfl; rfl; (first | with_reducible assumption | exact Is.const rfl); (first | with_reducible assumption | exact Is.const rfl); (first | with_reducible assumption | exact rfl)) | (apply wpList_farith; rfl; rfl; rfl; rfl; (first | with_reducible assumption | exact Is.const rfl); (first | with_reducible assumption | exact Is.const rfl); intro r n hr) | (go_at_call 119; ((with_reducible refine (sWide_s _ _ (by assumption) (by assumption) _).mono ?_); rintro e w' ⟨⟨r1, rfl, hr1⟩, n1, rfl⟩)) | (go_at_call 118; ((with_reducible refine (sNarrow_any _ _ (by assumption) (by assumption) _).mono ?_); rintro e w' ⟨⟨r2, rfl, hr2⟩, n2, rfl⟩)))
        go_ret
        exact ⟨⟨0, ⟨HA.out, HG.out⟩, _, _, rfl, by assumption, by assumption⟩, _, rfl⟩
      · obtain ⟨h3, h4⟩ := tq_bd (j := 1) (sineW_bd h2) (sineW_bd h1)
        have f1 := h3.fits (by decide)
        have f2 := h4.fits (by decide)
        simp only [tqR, tqI, Nat.reduceEqDiff, if_true, if_false] at f1 f2
        clear h3 h4
        go_wp2_with (first | (apply wpList_fcmp; rfl; rfl; rfl; rfl; (first | with_reducible assumption | exact Is.const rfl); (first | with_reducible assumption | exact Is.const rfl); (first | with_reducible assumption | exact rfl)) | (apply wpList_farith; rfl; rfl; rfl; rfl; (first | with_reducible assumption | exact Is.const rfl); (first | with_reducible assumption | exact Is.const rfl); intro r n hr) | (go_at_call 119; ((with_reducible refine (sWide_s _ _ (by assumption) (by assumption) _).mono ?_); rintro e w' ⟨⟨r1, rfl, hr1⟩, n1, rfl⟩)) | (go_at_call 118; ((with_reducible refine (sNarrow_any _ _ (by assumption) (by assumption) _).mono ?_); rintro e w' ⟨⟨r2, rfl, hr2⟩, n2, rfl⟩)))
        go_ret
        exact ⟨⟨1, ⟨HA.out, HG.out⟩, _, _, rfl, by assumption, by assumption⟩, _, rfl⟩
      · obtain ⟨h3, h4⟩ := tq_bd (j := 2) (sineW_bd h2) (sineW_bd h1)
        have f1 := h3.fits (by decide)
        have f2 := h4.fits (by decide)
        simp only [tqR, tqI, Nat.reduceEqDiff, if_true, if_false] at f1 f2
        clear h3 h4
        go_wp2_with (first | (apply wpList_fcmp; rfl; rfl; rfl; rfl; (first | with_reducible assumption | exact Is.const rfl); (first | with_reducible assumption | exact Is.const rfl); (first | with_reducible assumption | exact rfl)) | (apply wpList_farith; rfl; rfl; rfl; rfl; (first | with_reducible assumption | exact Is.const rfl); (first | with_reducible assumption | exact Is.const rfl); intro r n hr) | (go_at_call 119; ((with_reducible refine (sWide_s _ _ (by assumption) (by assumption) _).mono ?_); rintro e w' ⟨⟨r1, rfl, hr1⟩, n1, rfl⟩)) | (go_at_call 118; ((with_reducible refine (sNarrow_any _ _ (by assumption) (by assumption) _).mono ?_); rintro e w' ⟨⟨r2, rfl, hr2⟩, n2, rfl⟩)))
        go_ret
        exact ⟨⟨2, ⟨HA.out, HG.out⟩, _, _, rfl, by assumption, by assumption⟩, _, rfl⟩
      · obtain ⟨h3, h4⟩ := tq_bd (j := 3) (sineW_bd h2) (sineW_bd h1)
        have f1 := h3.fits (by decide)
        have f2 := h4.fits (by decide)
        simp only [tqR, tqI, Nat.reduceEqDiff, if_true, if_false] at f1 f2
        clear h3 h4
        go_wp2_with (first | (apply wpList_fcmp; rfl; rfl; rfl; rfl; (first | with_reducible assumption | exact Is.const rfl); (first | with_reducible assumption | exact Is.const rfl); (first | with_reducible assumption | exact rfl)) | (apply wpList_farith; rfl; rfl; rfl; rfl; (first | with_reducible assumption | exact Is.const rfl); (first | with_reducible assumption | exact Is.const rfl); intro r n hr) | (go_at_call 119; ((with_reducible refine (sWide_s _ _ (by assumption) (by assumption) _).mono ?_); rintro e w' ⟨⟨r1, rfl, hr1⟩, n1, rfl⟩)) | (go_at_call 118; ((with_reducible refine (sNarrow_any _ _ (by assumption) (by assumption) _).mono ?_); rintro e w' ⟨⟨r2, rfl, hr2⟩, n2, rfl⟩)))
        go_ret
        exact ⟨⟨3, ⟨HA.out, HG.out⟩, _, _, rfl, by assumption, by assumption⟩, _, rfl⟩
      · obtain ⟨h3, h4⟩ := tq_bd (j := 4) (sineW_bd h2) (sineW_bd h1)
        have f1 := h3.fits (by decide)
        have f2 := h4.fits (by decide)
        simp only [tqR, tqI, Nat.reduceEqDiff, if_false] at f1 f2
        clear h3 h4
        go_wp2_with (first | (apply wpList_fcmp; rfl; rfl; rfl; rfl; (first | with_reducible assumption | exact Is.const rfl); (first | with_reducible assumption | exact Is.const rfl); (first | with_reducible assumption | exact rfl)) | (apply wpList_farith; rfl; rfl; rfl; rfl; (first | with_reducible assumption | exact Is.const rfl); (first | with_reducible assumption | exact Is.const rfl); intro r n hr) | (go_at_call 119; ((with_reducible refine (sWide_s _ _ (by assumption) (by assumption) _).mono ?_); rintro e w' ⟨⟨r1, rfl, hr1⟩, n1, rfl⟩)) | (go_at_call 118; ((with_reducible refine (sNarrow_any _ _ (by assumption) (by assumption) _).mono ?_); rintro e w' ⟨⟨r2, rfl, hr2⟩, n2, rfl⟩)))
        go_ret
        exact ⟨⟨4, ⟨HA.out, HG.out⟩, _, _, rfl, by assumption, by assumption⟩, _, rfl⟩
      · obtain ⟨h3, h4⟩ := tq_bd (j := 5) (sineW_bd h2) (sineW_bd h1)
        have f1 := h3.fits (by decide)
        have f2 := h4.fits (by decide)
        simp only [tqR, tqI, Nat.reduceEqDiff, if_false] at f1 f2
        clear h3 h4
        go_wp2_with (first | (apply wpList_fcmp; rfl; rfl; rfl; rfl; (first | with_reducible assumption | exact Is.const rfl); (first | with_reducible assumption | exact Is.const rfl); (first | with_reducible assumption | exact rfl)) | (apply wpList_farith; rfl; rfl; rfl; rfl; (first | with_reducible assumption | exact Is.const rfl); (first | with_reducible assumption | exact Is.const rfl); intro r n hr) | (go_at_call 119; ((with_reducible refine (sWide_s _ _ (by assumption) (by assumption) _).mono ?_); rintro e w' ⟨⟨r1, rfl, hr1⟩, n1, rfl⟩)) | (go_at_call 118; ((with_reducible refine (sNarrow_any _ _ (by assumption) (by assumption) _).mono ?_); rintro e w' ⟨⟨r2, rfl, hr2⟩, n2, rfl⟩)))
        go_ret
        exact ⟨⟨5, ⟨HA.out, HG.out⟩, _, _, rfl, by assumption, by assumption⟩, _, rfl⟩
      · obtain ⟨h3, h4⟩ := tq_bd (j := 6) (sineW_bd h2) (sineW_bd h1)
        have f1 := h3.fits (by decide)
        have f2 := h4.fits (by decide)
        simp only [tqR, tqI, Nat.reduceEqDiff, if_false] at f1 f2
        clear h3 h4
        go_wp2_with (first | (apply wpList_fcmp; rfl; rfl; rfl; rfl; (first | with_reducible assumption | exact Is.const rfl); (first | with_reducible assumption | exact Is.const rfl); (first | with_reducible assumption | exact rfl)) | (apply wpList_farith; rfl; rfl; rfl; rfl; (first | with_reducible assumption | exact Is.const rfl); (first | with_reducible assumption | exact Is.const rfl); intro r n hr) | (go_at_call 119; ((with_reducible refine (sWide_s _ _ (by assumption) (by assumption) _).mono ?_); rintro e w' ⟨⟨r1, rfl, hr1⟩, n1, rfl⟩)) | (go_at_call 118; ((with_reducible refine (sNarrow_any _ _ (by assumption) (by assumption) _).mono ?_); rintro e w' ⟨⟨r2, rfl, hr2⟩, n2, rfl⟩)))
        go_ret
        exact ⟨⟨6, ⟨HA.out, HG.out⟩, _, _, rfl, by assumption, by assumption⟩, _, rfl⟩
      · obtain ⟨h3, h4⟩ := tq_bd (j := 7) (sineW_bd h2) (sineW_bd h1)
        have f1 := h3.fits (by decide)
        have f2 := h4.fits (by decide)
        simp only [tqR, tqI, Nat.reduceEqDiff, if_false] at f1 f2
        clear h3 h4
        go_wp2_with (first | (apply wpList_fcmp; rfl; rfl; rfl; rfl; (first | with_reducible assumption | exact Is.const rfl); (first | with_reducible assumption | exact Is.const rfl); (first | with_reducible assumption | exact rfl)) | (apply wpList_farith; rfl; rfl; rfl; rfl; (first | with_reducible assumption | exact Is.const rfl); (first | with_reducible assumption | exact Is.const rfl); intro r n hr) | (go_at_call 119; ((with_reducible refine (sWide_s _ _ (by assumption) (by assumption) _).mono ?_); rintro e w' ⟨⟨r1, rfl, hr1⟩, n1, rfl⟩)) | (go_at_call 118; ((with_reducible refine (sNarrow_any _ _ (by assumption) (by assumption) _).mono ?_); rintro e w' ⟨⟨r2, rfl, hr2⟩, n2, rfl⟩)))
        go_ret
        exact ⟨⟨7, ⟨HA.out, HG.out⟩, _, _, rfl, by assumption, by assumption⟩, _, rfl⟩
      · obtain ⟨h3, h4⟩ := tq_bd (j := 8) (sineW_bd h2) (sineW_bd h1)
        have f1 := h3.fits (by decide)
        have f2 := h4.fits (by decide)
        simp only [tqR, tqI, Nat.reduceEqDiff, if_false] at f1 f2
        clear h3 h4
        go_wp2_with (first | (apply wpList_fcmp; rfl; rfl; rfl; rfl; (first | with_reducible assumption | exact Is.const rfl); (first | with_reducible assumption | exact Is.const rfl); (first | with_reducible assumption | exact rfl)) | (apply wpList_farith; rfl; rfl; rfl; rfl; (first | with_reducible assumption | exact Is.const rfl); (first | with_reducible assumption | exact Is.const rfl); intro r n hr) | (go_at_call 119; ((with_reducible refine (sWide_s _ _ (by assumption) (by assumption) _).mono ?_); rintro e w' ⟨⟨r1, rfl, hr1⟩, n1, rfl⟩)) | (go_at_call 118; ((with_reducible refine (sNarrow_any _ _ (by assumption) (by assumption) _).mono ?_); rintro e w' ⟨⟨r2, rfl, hr2⟩, n2, rfl⟩)))
        go_ret
        exact ⟨⟨8, ⟨HA.out, HG.out⟩, _, _, rfl, by assumption, by assumption⟩, _, rfl⟩

theorem sPh_short (x Y : Nat) (ix : Is .f64 x Y) (hs : short Y) (w : World) :
    Calls Try.prog 134 #[.float .f64 x] w fun e w' => PhOut (partT Y) e ∧ ∃ n, w' = w.drewN n := by
  have ht := hs.toInt
  have hq : fcmp .neq .f64 (fop .sub .f64 Y Y) 0 = false := by rw [fcmp_neq_not, sub_self, hs.fin]; rfl
  have h2 := long_two hs.fin
  rw [hs.long, Bool.or_eq_false_iff] at h2
  have hb := partT_bd hs
  by_cases h0 : fcmp .lss .f64 (fop .sub .f64 Y (floatOfInt .f64 (tint Y))) 0 = true
  · have e : partT Y = fop .add .f64 (fop .sub .f64 Y (floatOfInt .f64 (tint Y))) 4607182418800017408 := by unfold partT part0; rw [if_pos h0]; rfl
    rw [e] at hb ⊢
    exact sPh_t x Y ix ht hq h2.1 h2.2 h0 (Lib.hid hb) w
  · have e : partT Y = fop .sub .f64 Y (floatOfInt .f64 (tint Y)) := by unfold partT part0; rw [if_neg h0]
    rw [e] at hb ⊢
    exact sPh_f x Y ix ht hq h2.1 h2.2 (by simpa using h0) (Lib.hid hb) w

/-- The two parts of a phasor: what both functions return. -/
def Ph (Y : Nat) (e : Ending) : Prop := (fin .f64 Y = false ∧ Cx .f32 (qn .f32) (qn .f32) e) ∨ (fin .f64 Y = true ∧ longB Y = true ∧ Cx .f32 1065353216 0 e) ∨ (fin .f64 Y = true ∧ longB Y = false ∧ PhOut (partT Y) e)

theorem Ph.shape {Y : Nat} {e : Ending} (h : Ph Y e) : ∃ a b, e = .returned (.complex .f32 a b) := by
  rcases h with ⟨_, a, b, h, _⟩ | ⟨_, _, a, b, h, _⟩ | ⟨_, _, _, _, a, b, h, _⟩ <;> exact ⟨a, b, h⟩

theorem Ph.one {Y : Nat} {e e' : Ending} (h : Ph Y e) (k : Ph Y e') : ∃ X1 X2, Cx .f32 X1 X2 e ∧ Cx .f32 X1 X2 e' := by
  rcases h with ⟨a, h⟩ | ⟨a, b, h⟩ | ⟨a, b, j, hj, h⟩ <;> rcases k with ⟨c, k⟩ | ⟨c, d, k⟩ | ⟨c, d, i, hi, k⟩ <;>
    first
    | (rw [a] at c; cases c; done)
    | (rw [b] at d; cases d; done)
    | exact ⟨_, _, h, k⟩
    | (obtain rfl := hj.one hi; exact ⟨_, _, h, k⟩)

theorem iPh_any (x Y : Nat) (ix : Is .f64 x Y) (w : World) : Calls Try.prog 138 #[.float .f64 x] w fun e w' => Ph Y e ∧ ∃ n, w' = w.drewN n := by
  by_cases hf : fin .f64 Y = true
  · by_cases hl : longB Y = true
    · exact (iPh_long x Y ix hf hl w).mono fun e w' ⟨h, hw⟩ => ⟨.inr (.inl ⟨hf, hl, h⟩), hw⟩
    · have hl' : longB Y = false := by simpa using hl
      exact (iPh_short x Y ix (short_of hf hl') w).mono fun e w' ⟨h, hw⟩ => ⟨.inr (.inr ⟨hf, hl', h⟩), hw⟩
  · have hf' : fin .f64 Y = false := by simpa using hf
    exact (iPh_nan x Y ix hf' w).mono fun e w' ⟨h, hw⟩ => ⟨.inl ⟨hf', h⟩, hw⟩

theorem sPh1_any (x Y : Nat) (ix : Is .f64 x Y) (w : World) : Calls Try.prog 134 #[.float .f64 x] w fun e w' => Ph Y e ∧ ∃ n, w' = w.drewN n := by
  by_cases hf : fin .f64 Y = true
  · by_cases hl : longB Y = true
    · exact (sPh_long x Y ix hf hl w).mono fun e w' ⟨h, hw⟩ => ⟨.inr (.inl ⟨hf, hl, h⟩), hw⟩
    · have hl' : longB Y = false := by simpa using hl
      exact (sPh_short x Y ix (short_of hf hl') w).mono fun e w' ⟨h, hw⟩ => ⟨.inr (.inr ⟨hf, hl', h⟩), hw⟩
  · have hf' : fin .f64 Y = false := by simpa using hf
    exact (sPh_nan x Y ix hf' w).mono fun e w' ⟨h, hw⟩ => ⟨.inl ⟨hf', h⟩, hw⟩


theorem sameC2_any (a b c d A B : Nat) (ia : Is .f64 a A) (ib : Is .f64 b B) (ic : Is .f64 c A) (id : Is .f64 d B) (w : World) :
    Calls Try.prog 31 #[.complex .f64 a b, .complex .f64 c d] w fun e w' => e = .returned (.bool true) ∧ ∃ n, w' = w.drewN n := by
  go_enter Try.func31, Try.ntmps31
  go_wp2_with (go_at_call 41; ((with_reducible refine (sameFloat_any _ _ _ (by assumption) (by assumption) _).mono ?_); rintro e w' ⟨rfl, n, rfl⟩))
  go_ret
  exact ⟨rfl, _, rfl⟩
end Go.Proofs.Ytlfnbnhbobohlaa
