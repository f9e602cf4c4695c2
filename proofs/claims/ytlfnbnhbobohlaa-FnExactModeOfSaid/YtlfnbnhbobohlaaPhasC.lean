/-
  Phasors: contracts of the program's functions and of the model's.
-/
import Derived.Test.YtlfnbnhbobohlaaPhas
namespace Go.Proofs.Ytlfnbnhbobohlaa
open Go.Fl Go.RowKit

/-- A complex number whose parts are, nearly, X and Y. -/
def Cx (k : FloatKind) (X Y : Nat) (e : Ending) : Prop := ∃ a b, e = .returned (.complex k a b) ∧ Is k a X ∧ Is k b Y

theorem tq_any (c C s S j : Nat) (hj : j ≤ 8) (ic : Is .f64 c C) (is : Is .f64 s S) (w : World) :
    Calls Try.prog 155 #[.float .f64 c, .float .f64 s, .int .i64 (j : Int)] w fun e w' => Cx .f64 (tqR j C S) (tqI j C S) e ∧ ∃ n, w' = w.drewN n := by
  have hcase : j = 0 ∨ j = 1 ∨ j = 2 ∨ j = 3 ∨ j = 4 ∨ j = 5 ∨ j = 6 ∨ j = 7 ∨ j = 8 := by omega
  clear hj
  rcases hcase with rfl | rfl | rfl | rfl | rfl | rfl | rfl | rfl | rfl
  all_goals
    simp only [tqR, tqI, Nat.reduceEqDiff, if_true, if_false]
    go_enter Try.func155, Try.ntmps155
    go_wp2_with (first | (apply wpList_farith; rfl; rfl; rfl; rfl; (first | with_reducible assumption | exact Is.const rfl); (first | with_reducible assumption | exact Is.const rfl); intro r n hr))
    go_ret
    first | exact ⟨⟨_, _, rfl, by assumption, by assumption⟩, 0, rfl⟩ | exact ⟨⟨_, _, rfl, by assumption, by assumption⟩, _, rfl⟩

theorem nc_any (a A b B : Nat) (ia : Is .f64 a A) (ib : Is .f64 b B) (hA : fits A) (hB : fits B) (w : World) :
    Calls Try.prog 154 #[.complex .f64 a b] w fun e w' => Cx .f32 (nar A) (nar B) e ∧ ∃ n, w' = w.drewN n := by
  go_enter Try.func154, Try.ntmps154
  go_wp2_with (go_at_call 107; refine (iNarrow_any _ _ (by assumption) (by assumption) _).mono ?_; rintro e w' ⟨⟨r, rfl, hr⟩, n, rfl⟩)
  go_ret
  exact ⟨⟨_, _, rfl, by assumption, by assumption⟩, _, rfl⟩

def phR (F j : Nat) : Nat := nar (tqR j (sineW (fop .sub .f64 4598175219545276416 (quar F j))) (sineW (quar F j)))
def phI (F j : Nat) : Nat := nar (tqI j (sineW (fop .sub .f64 4598175219545276416 (quar F j))) (sineW (quar F j)))
def PhOut (F : Nat) (e : Ending) : Prop := ∃ j, QStop F j ∧ Cx .f32 (phR F j) (phI F j) e

set_option maxHeartbeats 1000000 in
theorem iPh_part (x Y F : Nat) (ix : Is .f64 x Y) (hf : fin .f64 Y = true) (hl : longB Y = false) (HB : Hid (Bd F 1075))
    (HP : Hid (∀ w, Calls Try.prog 144 #[.float .f64 x] w fun e w' => (∃ r, e = .returned (.float .f64 r) ∧ Is .f64 r F) ∧ ∃ n, w' = w.drewN n)) (w : World) :
    Calls Try.prog 138 #[.float .f64 x] w fun e w' => PhOut F e ∧ ∃ n, w' = w.drewN n := by
  go_enter Try.func138, Try.ntmps138
  go_wp2_with (first | (go_at_call 121; refine (iWide_any _ _ ix _).mono ?_; rintro e w' ⟨rfl, rfl⟩; (try rw [hf])) | (go_at_call 123; refine (iLong_any _ _ ix _).mono ?_; rintro e w' ⟨rfl, rfl⟩; (try rw [hl])) | (go_at_call 144; refine (HP.out _).mono ?_; rintro e w' ⟨⟨r, rfl, hr⟩, n, rfl⟩))
  clear hf hl
  go_loopw [4, 5] (fun p k wr => ∃ (j : Nat), k = .int .i64 (j : Int) ∧ (∃ r, p = .float .f64 r ∧ Is .f64 r (quar F j)) ∧ Hid (∀ i, i < j → fcmp .geq .f64 (quar F i) 4598175219545276416 = true) ∧ ∃ n, wr = w.drewN n) (fun _ k _ => (9 - intOf k).toNat)
  case atStart => exact ⟨0, rfl, ⟨_, rfl, by assumption⟩, Lib.hid (fun i hi => absurd hi (Nat.not_lt_zero i)), _, rfl⟩
  case round =>
    obtain ⟨j, rfl, ⟨q, rfl, hq⟩, HA, m, rfl⟩ := hrel
    obtain ⟨hj, hb, -⟩ := quar_bd HB.out j HA.out
    by_cases hg : fcmp .geq .f64 (quar F j) 4598175219545276416 = true
    · have hall : ∀ i, i < j + 1 → fcmp .geq .f64 (quar F i) 4598175219545276416 = true := fun i hi => by
        rcases Nat.lt_succ_iff_lt_or_eq.1 hi with l | l
        · exact HA.out i l
        · rw [l]; exact hg
      have hj2 := (quar_bd HB.out (j + 1) hall).1
      have HB2 := Lib.hid hall
      clear hall hb
      go_wp2_with (first | (apply wpList_fcmp; rfl; rfl; rfl; rfl; (first | with_reducible assumption | exact Is.const rfl); (first | with_reducible assumption | exact Is.const rfl); (first | with_reducible assumption | exact rfl)) | (apply wpList_farith; rfl; rfl; rfl; rfl; (first | with_reducible assumption | exact Is.const rfl); (first | with_reducible assumption | exact Is.const rfl); intro r n hr))
      go_roundw
      case rel => exact ⟨j + 1, by go_num, ⟨_, rfl, by assumption⟩, HB2, _, rfl⟩
      case measure => simp [intOf]; omega
    · replace hg : fcmp .geq .f64 (quar F j) 4598175219545276416 = false := by simpa using hg
      have HG := Lib.hid hg
      have h1 : short (quar F j) := hb.short (by decide)
      have h2 : short (fop .sub .f64 4598175219545276416 (quar F j)) := ((quart_bd2).sub hb (by decide)).short (by decide)
      obtain ⟨h3, h4⟩ := tq_bd (j := j) (sineW_bd h2) (sineW_bd h1)
      have f1 := h3.fits (by decide)
      have f2 := h4.fits (by decide)
      clear h3 h4 hb
      go_wp2_with (first | (apply wpList_fcmp; rfl; rfl; rfl; rfl; (first | with_reducible assumption | exact Is.const rfl); (first | with_reducible assumption | exact Is.const rfl); (first | with_reducible assumption | exact rfl)) | (apply wpList_farith; rfl; rfl; rfl; rfl; (first | with_reducible assumption | exact Is.const rfl); (first | with_reducible assumption | exact Is.const rfl); intro r n hr) | (go_at_call 124; ((with_reducible refine (iSineOf_any _ _ (by assumption) (by assumption) _).mono ?_); rintro e w' ⟨⟨r1, rfl, hr1⟩, n1, rfl⟩)) | (go_at_call 155; ((with_reducible refine (tq_any _ _ _ _ _ hj (by assumption) (by assumption) _).mono ?_); rintro e w' ⟨⟨a, b, rfl, ha, hb⟩, n3, rfl⟩)) | (go_at_call 154; ((with_reducible refine (nc_any _ _ _ _ (by assumption) (by assumption) f1 f2 _).mono ?_); rintro e w' ⟨⟨a2, b2, rfl, ha2, hb2⟩, n4, rfl⟩)))
      go_ret
      exact ⟨⟨j, ⟨HA.out, HG.out⟩, _, _, rfl, ha2, hb2⟩, _, rfl⟩

theorem iPh_short (x Y : Nat) (ix : Is .f64 x Y) (hs : short Y) (w : World) :
    Calls Try.prog 138 #[.float .f64 x] w fun e w' => PhOut (partT Y) e ∧ ∃ n, w' = w.drewN n :=
  iPh_part x Y (partT Y) ix hs.fin hs.long (Lib.hid (partT_bd hs)) (Lib.hid (part_any x Y ix hs)) w

theorem iPh_nan (x Y : Nat) (ix : Is .f64 x Y) (hf : fin .f64 Y = false) (w : World) :
    Calls Try.prog 138 #[.float .f64 x] w fun e w' => Cx .f32 (qn .f32) (qn .f32) e ∧ ∃ n, w' = w.drewN n := by
  have hni := nan_is
  have hfn := fits_nan
  have HN := Lib.hid nar_nan
  go_enter Try.func138, Try.ntmps138
  go_wp2_with (first | (apply wpList_nar; rfl; rfl; (first | with_reducible assumption | exact Is.const rfl); exact U64; exact U32; (with_reducible assumption); intro r n hr) | (go_at_call 121; refine (iWide_any _ _ ix _).mono ?_; rintro e w' ⟨rfl, rfl⟩; (try rw [hf])) | (go_at_call 122; refine (nan_any _).mono ?_; rintro e w' ⟨rfl, rfl⟩))
  go_ret
  exact ⟨⟨_, _, rfl, by rw [← HN.out]; assumption, by rw [← HN.out]; assumption⟩, _, rfl⟩

theorem iPh_long (x Y : Nat) (ix : Is .f64 x Y) (hf : fin .f64 Y = true) (hl : longB Y = true) (w : World) :
    Calls Try.prog 138 #[.float .f64 x] w fun e w' => Cx .f32 1065353216 0 e ∧ ∃ n, w' = w.drewN n := by
  go_enter Try.func138, Try.ntmps138
  go_wp2_with (first | (go_at_call 121; refine (iWide_any _ _ ix _).mono ?_; rintro e w' ⟨rfl, rfl⟩; (try rw [hf])) | (go_at_call 123; refine (iLong_any _ _ ix _).mono ?_; rintro e w' ⟨rfl, rfl⟩; (try rw [hl])))
  go_ret
  exact ⟨⟨_, _, rfl, Is.const rfl, Is.const rfl⟩, 0, rfl⟩

/-! ### the model's -/
theorem sFrom_qn (w : World) : Calls Try.prog 153 #[.int .i64 2143289344] w fun e w' => e = .returned (.float .f32 2143289344) ∧ w = w' := by
  go_enter Try.func153, Try.ntmps153
  go_wp2
  go_ret
  exact ⟨rfl, rfl⟩
theorem qn32_is : Is .f32 2143289344 (qn .f32) := ⟨cn_nan _ (by decide), by decide⟩

theorem sPh_nan (x Y : Nat) (ix : Is .f64 x Y) (hf : fin .f64 Y = false) (w : World) :
    Calls Try.prog 134 #[.float .f64 x] w fun e w' => Cx .f32 (qn .f32) (qn .f32) e ∧ ∃ n, w' = w.drewN n := by
  have hq : fcmp .neq .f64 (fop .sub .f64 Y Y) 0 = true := by rw [fcmp_neq_not, sub_self, hf]; rfl
  clear hf
  go_enter Try.func134, Try.ntmps134
  go_wp2_with (first | (apply wpList_fcmp; rfl; rfl; rfl; rfl; (first | with_reducible assumption | exact Is.const rfl); (first | with_reducible assumption | exact Is.const rfl); (first | with_reducible assumption | exact rfl)) | (apply wpList_farith; rfl; rfl; rfl; rfl; (first | with_reducible assumption | exact Is.const rfl); (first | with_reducible assumption | exact Is.const rfl); intro r n hr) | (go_at_call 153; refine (sFrom_qn _).mono ?_; rintro e w' ⟨rfl, rfl⟩))
  go_ret
  exact ⟨⟨_, _, rfl, qn32_is, qn32_is⟩, _, rfl⟩

theorem sPh_long (x Y : Nat) (ix : Is .f64 x Y) (hf : fin .f64 Y = true) (hl : longB Y = true) (w : World) :
    Calls Try.prog 134 #[.float .f64 x] w fun e w' => Cx .f32 1065353216 0 e ∧ ∃ n, w' = w.drewN n := by
  have hq : fcmp .neq .f64 (fop .sub .f64 Y Y) 0 = false := by rw [fcmp_neq_not, sub_self, hf]; rfl
  have h2 := long_two hf
  rw [hl] at h2
  by_cases hg : fcmp .geq .f64 Y 4841369599423283200 = true
  · clear h2 hf
    go_enter Try.func134, Try.ntmps134
    go_wp2_with (first | (apply wpList_fcmp; rfl; rfl; rfl; rfl; (first | with_reducible assumption | exact Is.const rfl); (first | with_reducible assumption | exact Is.const rfl); (first | with_reducible assumption | exact rfl)) | (apply wpList_farith; rfl; rfl; rfl; rfl; (first | with_reducible assumption | exact Is.const rfl); (first | with_reducible assumption | exact Is.const rfl); intro r n hr))
    go_ret
    exact ⟨⟨_, _, rfl, Is.const rfl, Is.const rfl⟩, _, rfl⟩
  · have hg' : fcmp .geq .f64 Y 4841369599423283200 = false := by simpa using hg
    rw [hg', Bool.false_or] at h2
    clear hf hg
    go_enter Try.func134, Try.ntmps134
    go_wp2_with (first | (apply wpList_fcmp; rfl; rfl; rfl; rfl; (first | with_reducible assumption | exact Is.const rfl); (first | with_reducible assumption | exact Is.const rfl); (first | with_reducible assumption | exact rfl)) | (apply wpList_farith; rfl; rfl; rfl; rfl; (first | with_reducible assumption | exact Is.const rfl); (first | with_reducible assumption | exact Is.const rfl); intro r n hr))
    go_ret
    exact ⟨⟨_, _, rfl, Is.const rfl, Is.const rfl⟩, _, rfl⟩
end Go.Proofs.Ytlfnbnhbobohlaa
