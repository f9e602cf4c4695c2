/-
  How far a mode has gone, of the program and of the model.
-/
import Derived.Test.YtlfnbnhbobohlaaMdo
import Derived.Test.YtlfnbnhbobohlaaAnO
import Derived.Test.YtlfnbnhbobohlaaAnS
namespace Go.Proofs.Ytlfnbnhbobohlaa
open Go.Fl Go.RowKit
open Go.Joins (ownsRow_le)
set_option linter.unusedSimpArgs false
set_option linter.unusedVariables false

/-- The shorter way around. -/
def slideF (d : Nat) : Nat := if fcmp .lss .f32 d 3204448256 = true then fop .add .f32 d 1065353216 else if fcmp .gtr .f32 d 1056964608 = true then fop .sub .f32 d 1065353216 else d
def angM (a b : Int) (xs : List Nat) (m : Int) : Nat := angT (val2ModeOf a b xs m) (valModeOf a b xs m)
def okSlideOf (a b : Int) (xs ys : List Nat) (m : Int) : Bool := okModeOf a b xs m && okModeOf a b ys m
def valSlideOf (a b : Int) (xs ys : List Nat) (m : Int) : Nat := if okSlideOf a b xs ys m then slideF (fop .sub .f32 (angM a b ys m) (angM a b xs m)) else 0
theorem okSl_yes {a b : Int} {xs ys : List Nat} {m : Int} (h1 : okModeOf a b xs m = true) (h2 : okModeOf a b ys m = true) : okSlideOf a b xs ys m = true ∧ valSlideOf a b xs ys m = slideF (fop .sub .f32 (angM a b ys m) (angM a b xs m)) := by
  have e : okSlideOf a b xs ys m = true := by unfold okSlideOf; rw [h1, h2]; rfl
  exact ⟨e, by unfold valSlideOf; rw [if_pos e]⟩
theorem okSl_no {a b : Int} {xs ys : List Nat} {m : Int} (h : okModeOf a b xs m = false ∨ okModeOf a b ys m = false) : okSlideOf a b xs ys m = false ∧ valSlideOf a b xs ys m = 0 := by
  have e : okSlideOf a b xs ys m = false := by unfold okSlideOf; rcases h with h | h <;> rw [h] <;> simp
  exact ⟨e, by unfold valSlideOf; rw [if_neg (by rw [e]; simp)]⟩
theorem slide_lo {d : Nat} (h : fcmp .lss .f32 d 3204448256 = true) : slideF d = fop .add .f32 d 1065353216 := by unfold slideF; rw [if_pos h]
theorem slide_hi {d : Nat} (h : fcmp .lss .f32 d 3204448256 = false) (h2 : fcmp .gtr .f32 d 1056964608 = true) : slideF d = fop .sub .f32 d 1065353216 := by unfold slideF; rw [if_neg (by rw [h]; simp), if_pos h2]
theorem slide_no {d : Nat} (h : fcmp .lss .f32 d 3204448256 = false) (h2 : fcmp .gtr .f32 d 1056964608 = false) : slideF d = d := by unfold slideF; rw [if_neg (by rw [h]; simp), if_neg (by rw [h2]; simp)]

set_option maxHeartbeats 2000000 in
set_option maxRecDepth 100000 in
theorem iSlideOf_any (a b : Int) (u : Value) (xs : List Nat) (v : Value) (ys : List Nat) (m : Int) (w : World) (hu : FS .f32 w u xs) (hn : xs.length ≤ 1048576) (hv : FS .f32 w v ys) (hn2 : ys.length ≤ 1048576) (hm : -9223372036854775808 ≤ m ∧ m ≤ 9223372036854775807) :
    Calls Try.prog 47 #[GV a b, u, v, .int .i64 m] w fun e w' => (∃ r, e = .returned (.tuple #[.float .f32 r, .bool (okSlideOf a b xs ys m)]) ∧ Is .f32 r (valSlideOf a b xs ys m)) ∧ Below w.heap.size w w' := by
  obtain ⟨ok, hok⟩ : ∃ ok, okSlideOf a b xs ys m = ok := ⟨_, rfl⟩
  obtain ⟨X, hX⟩ : ∃ X, valSlideOf a b xs ys m = X := ⟨_, rfl⟩
  rw [hok, hX]
  have HOK := Lib.hid hok; have HX := Lib.hid hX; have HM := Lib.hid hm; have HU := Lib.hid hu; have HV := Lib.hid hv; have HN := Lib.hid hn; have HN2 := Lib.hid hn2
  obtain ⟨p, hp⟩ : ∃ p, okModeOf a b xs m = p := ⟨_, rfl⟩
  obtain ⟨q, hq⟩ : ∃ q, okModeOf a b ys m = q := ⟨_, rfl⟩
  have HPP := Lib.hid hp; have HQQ := Lib.hid hq
  clear hok hX hm hp hq hn hn2
  obtain ⟨a1, c1, rfl, _⟩ := hu
  obtain ⟨a2, c2, rfl, _⟩ := hv
  have HP := Lib.hid (gp_new w a b 27)
  have HB0 := Lib.hid ((Below.refl w.heap.size w).alloc (Nat.le_refl _) (.cells #[.int .i64 a, .int .i64 b] 27))
  go_enter Try.func47, Try.ntmps47
  go_wp2_with fail
  generalize w.alloc (.cells #[.int .i64 a, .int .i64 b] 27) = w1 at HB0 HP ⊢
  refine (iModeOf_any a b _ xs m _ (HU.out.below HB0.out) HN.out HM.out).mono ?_; rw [HPP.out]; rintro e w2 ⟨⟨r1, s1, rfl, hr1, hs1⟩, hb2⟩
  have HB2 := Lib.hid (HB0.out.trans (hb2.mono HB0.out.size))
  have HP2 := Lib.hid (GP.below HP.out hb2)
  have c0 := HP2.out.cells.1; have c1' := HP2.out.cells.2
  clear hb2
  go_wp2_with fail
  refine (iModeOf_any a b _ ys m _ (HV.out.below HB2.out) HN2.out HM.out).mono ?_; rw [HQQ.out]; rintro e w3 ⟨⟨r2, s2, rfl, hr2, hs2⟩, hb3⟩
  have HB3 := Lib.hid (HB2.out.trans (hb3.mono HB2.out.size))
  clear hb3 c0 c1'
  cases p with
  | false =>
    have HR := Lib.hid (okSl_no (ys := ys) (.inl HPP.out))
    obtain rfl : ok = false := HOK.out.symm.trans HR.out.1
    obtain rfl : X = 0 := HX.out.symm.trans HR.out.2
    go_wp2_with fail
    go_ret2
    exact ⟨⟨_, rfl, Is.const rfl⟩, HB3.out⟩
  | true =>
    cases q with
    | false =>
      have HR := Lib.hid (okSl_no (xs := xs) (.inr HQQ.out))
      obtain rfl : ok = false := HOK.out.symm.trans HR.out.1
      obtain rfl : X = 0 := HX.out.symm.trans HR.out.2
      go_wp2_with fail
      go_ret2
      exact ⟨⟨_, rfl, Is.const rfl⟩, HB3.out⟩
    | true =>
      have HR := Lib.hid (okSl_yes HPP.out HQQ.out)
      obtain rfl : ok = true := HOK.out.symm.trans HR.out.1
      obtain rfl : X = slideF (fop .sub .f32 (angM a b ys m) (angM a b xs m)) := HX.out.symm.trans HR.out.2
      have HA1 := Lib.hid (show angT (val2ModeOf a b xs m) (valModeOf a b xs m) = angM a b xs m from rfl)
      have HA2 := Lib.hid (show angT (val2ModeOf a b ys m) (valModeOf a b ys m) = angM a b ys m from rfl)
      clear HR HX
      go_wp2_with fail
      refine (iAngleOf_any _ _ _ _ hs2 hr2 _).mono ?_; rw [HA2.out]; rintro e w' ⟨⟨x, rfl, hx⟩, n1, rfl⟩
      go_wp2_with fail
      refine (iAngleOf_any _ _ _ _ hs1 hr1 _).mono ?_; rw [HA1.out]; rintro e w' ⟨⟨y, rfl, hy⟩, n2, rfl⟩
      clear hr1 hs1 hr2 hs2
      cases l1 : fcmp .lss .f32 (fop .sub .f32 (angM a b ys m) (angM a b xs m)) 3204448256 with
      | true =>
        have HS := Lib.hid (slide_lo l1)
        go_wp2_with (first | (apply wpList_farith; rfl; rfl; rfl; rfl; (first | with_reducible assumption | exact Is.const rfl); (first | with_reducible assumption | exact Is.const rfl); intro r n hr) | (apply wpList_fcmp; rfl; rfl; rfl; rfl; (first | with_reducible assumption | exact Is.const rfl); (first | with_reducible assumption | exact Is.const rfl); (first | with_reducible assumption | exact rfl)) | fail)
        go_ret2
        exact ⟨⟨_, rfl, by rw [HS.out]; assumption⟩, below_drewN HB3.out _⟩
      | false =>
        cases l2 : fcmp .gtr .f32 (fop .sub .f32 (angM a b ys m) (angM a b xs m)) 1056964608 with
        | true =>
          have HS := Lib.hid (slide_hi l1 l2)
          go_wp2_with (first | (apply wpList_farith; rfl; rfl; rfl; rfl; (first | with_reducible assumption | exact Is.const rfl); (first | with_reducible assumption | exact Is.const rfl); intro r n hr) | (apply wpList_fcmp; rfl; rfl; rfl; rfl; (first | with_reducible assumption | exact Is.const rfl); (first | with_reducible assumption | exact Is.const rfl); (first | with_reducible assumption | exact rfl)) | fail)
          go_ret2
          exact ⟨⟨_, rfl, by rw [HS.out]; assumption⟩, below_drewN HB3.out _⟩
        | false =>
          have HS := Lib.hid (slide_no l1 l2)
          go_wp2_with (first | (apply wpList_farith; rfl; rfl; rfl; rfl; (first | with_reducible assumption | exact Is.const rfl); (first | with_reducible assumption | exact Is.const rfl); intro r n hr) | (apply wpList_fcmp; rfl; rfl; rfl; rfl; (first | with_reducible assumption | exact Is.const rfl); (first | with_reducible assumption | exact Is.const rfl); (first | with_reducible assumption | exact rfl)) | fail)
          go_ret2
          exact ⟨⟨_, rfl, by rw [HS.out]; assumption⟩, below_drewN HB3.out _⟩

set_option maxHeartbeats 2000000 in
set_option maxRecDepth 100000 in
theorem sSlideOf_any (a b : Int) (u : Value) (xs : List Nat) (v : Value) (ys : List Nat) (m : Int) (w : World) (hu : FS .f32 w u xs) (hn : xs.length ≤ 1048576) (hv : FS .f32 w v ys) (hn2 : ys.length ≤ 1048576) (hm : -9223372036854775808 ≤ m ∧ m ≤ 9223372036854775807) :
    Calls Try.prog 46 #[GV a b, u, v, .int .i64 m] w fun e w' => (∃ r, e = .returned (.tuple #[.float .f32 r, .bool (okSlideOf a b xs ys m)]) ∧ Is .f32 r (valSlideOf a b xs ys m)) ∧ Below w.heap.size w w' := by
  obtain ⟨ok, hok⟩ : ∃ ok, okSlideOf a b xs ys m = ok := ⟨_, rfl⟩
  obtain ⟨X, hX⟩ : ∃ X, valSlideOf a b xs ys m = X := ⟨_, rfl⟩
  rw [hok, hX]
  have HOK := Lib.hid hok; have HX := Lib.hid hX; have HM := Lib.hid hm; have HU := Lib.hid hu; have HV := Lib.hid hv; have HN := Lib.hid hn; have HN2 := Lib.hid hn2
  obtain ⟨p, hp⟩ : ∃ p, okModeOf a b xs m = p := ⟨_, rfl⟩
  obtain ⟨q, hq⟩ : ∃ q, okModeOf a b ys m = q := ⟨_, rfl⟩
  have HPP := Lib.hid hp; have HQQ := Lib.hid hq
  clear hok hX hm hp hq hn hn2
  obtain ⟨a1, c1, rfl, _⟩ := hu
  obtain ⟨a2, c2, rfl, _⟩ := hv
  have HP := Lib.hid (gp_new w a b 27)
  have HB0 := Lib.hid ((Below.refl w.heap.size w).alloc (Nat.le_refl _) (.cells #[.int .i64 a, .int .i64 b] 27))
  go_enter Try.func46, Try.ntmps46
  go_wp2_with fail
  generalize w.alloc (.cells #[.int .i64 a, .int .i64 b] 27) = w1 at HB0 HP ⊢
  refine (sModeOf_any a b _ xs m _ (HU.out.below HB0.out) HN.out HM.out).mono ?_; rw [HPP.out]; rintro e w2 ⟨⟨r1, s1, rfl, hr1, hs1⟩, hb2⟩
  have HB2 := Lib.hid (HB0.out.trans (hb2.mono HB0.out.size))
  have HP2 := Lib.hid (GP.below HP.out hb2)
  have c0 := HP2.out.cells.1; have c1' := HP2.out.cells.2
  clear hb2
  go_wp2_with fail
  refine (sModeOf_any a b _ ys m _ (HV.out.below HB2.out) HN2.out HM.out).mono ?_; rw [HQQ.out]; rintro e w3 ⟨⟨r2, s2, rfl, hr2, hs2⟩, hb3⟩
  have HB3 := Lib.hid (HB2.out.trans (hb3.mono HB2.out.size))
  clear hb3 c0 c1'
  cases p with
  | false =>
    have HR := Lib.hid (okSl_no (ys := ys) (.inl HPP.out))
    obtain rfl : ok = false := HOK.out.symm.trans HR.out.1
    obtain rfl : X = 0 := HX.out.symm.trans HR.out.2
    go_wp2_with fail
    go_ret2
    exact ⟨⟨_, rfl, Is.const rfl⟩, HB3.out⟩
  | true =>
    cases q with
    | false =>
      have HR := Lib.hid (okSl_no (xs := xs) (.inr HQQ.out))
      obtain rfl : ok = false := HOK.out.symm.trans HR.out.1
      obtain rfl : X = 0 := HX.out.symm.trans HR.out.2
      go_wp2_with fail
      go_ret2
      exact ⟨⟨_, rfl, Is.const rfl⟩, HB3.out⟩
    | true =>
      have HR := Lib.hid (okSl_yes HPP.out HQQ.out)
      obtain rfl : ok = true := HOK.out.symm.trans HR.out.1
      obtain rfl : X = slideF (fop .sub .f32 (angM a b ys m) (angM a b xs m)) := HX.out.symm.trans HR.out.2
      have HA1 := Lib.hid (show angT (val2ModeOf a b xs m) (valModeOf a b xs m) = angM a b xs m from rfl)
      have HA2 := Lib.hid (show angT (val2ModeOf a b ys m) (valModeOf a b ys m) = angM a b ys m from rfl)
      clear HR HX
      go_wp2_with fail
      refine (sAngleOf_any _ _ _ _ hs2 hr2 _).mono ?_; rw [HA2.out]; rintro e w' ⟨⟨x, rfl, hx⟩, n1, rfl⟩
      go_wp2_with fail
      refine (sAngleOf_any _ _ _ _ hs1 hr1 _).mono ?_; rw [HA1.out]; rintro e w' ⟨⟨y, rfl, hy⟩, n2, rfl⟩
      clear hr1 hs1 hr2 hs2
      cases l1 : fcmp .lss .f32 (fop .sub .f32 (angM a b ys m) (angM a b xs m)) 3204448256 with
      | true =>
        have HS := Lib.hid (slide_lo l1)
        go_wp2_with (first | (apply wpList_farith; rfl; rfl; rfl; rfl; (first | with_reducible assumption | exact Is.const rfl); (first | with_reducible assumption | exact Is.const rfl); intro r n hr) | (apply wpList_fcmp; rfl; rfl; rfl; rfl; (first | with_reducible assumption | exact Is.const rfl); (first | with_reducible assumption | exact Is.const rfl); (first | with_reducible assumption | exact rfl)) | fail)
        go_ret2
        exact ⟨⟨_, rfl, by rw [HS.out]; assumption⟩, below_drewN HB3.out _⟩
      | false =>
        cases l2 : fcmp .gtr .f32 (fop .sub .f32 (angM a b ys m) (angM a b xs m)) 1056964608 with
        | true =>
          have HS := Lib.hid (slide_hi l1 l2)
          go_wp2_with (first | (apply wpList_farith; rfl; rfl; rfl; rfl; (first | with_reducible assumption | exact Is.const rfl); (first | with_reducible assumption | exact Is.const rfl); intro r n hr) | (apply wpList_fcmp; rfl; rfl; rfl; rfl; (first | with_reducible assumption | exact Is.const rfl); (first | with_reducible assumption | exact Is.const rfl); (first | with_reducible assumption | exact rfl)) | fail)
          go_ret2
          exact ⟨⟨_, rfl, by rw [HS.out]; assumption⟩, below_drewN HB3.out _⟩
        | false =>
          have HS := Lib.hid (slide_no l1 l2)
          go_wp2_with (first | (apply wpList_farith; rfl; rfl; rfl; rfl; (first | with_reducible assumption | exact Is.const rfl); (first | with_reducible assumption | exact Is.const rfl); intro r n hr) | (apply wpList_fcmp; rfl; rfl; rfl; rfl; (first | with_reducible assumption | exact Is.const rfl); (first | with_reducible assumption | exact Is.const rfl); (first | with_reducible assumption | exact rfl)) | fail)
          go_ret2
          exact ⟨⟨_, rfl, by rw [HS.out]; assumption⟩, below_drewN HB3.out _⟩
end Go.Proofs.Ytlfnbnhbobohlaa
