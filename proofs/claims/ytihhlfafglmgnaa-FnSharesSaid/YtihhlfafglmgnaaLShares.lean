/- FnShares: for all two lists of bytes the law returns true: what they draw is a grid and a place; its shares are not less than 0 and add up to 1, its corners are corners, and the place has the same shares a whole grid further. No condition. -/
import Derived.Test.YtihhlfafglmgnaaRows
import Derived.WalkKit
import Derived.ProofKit
import Derived.OpenShut
import Derived.ShutString
import Derived.ChangeOld
import Derived.Below
import Derived.Laws.Cover2
import Derived.Test.YtihhlfafglmgnaaSat
import Derived.Test.YtihhlfafglmgnaaAdd
import Derived.Test.YtihhlfafglmgnaaSam
import Derived.Test.YtihhlfafglmgnaaPlc
import Derived.Test.YtihhlfafglmgnaaR8
namespace Go.Proofs.Ytihhlfafglmgnaa.fnShares
open Go.ChangeShapes Go.WideShapes Go.ChangeAt Go.RowKit Go.Fl
open Go.ChangeMaps (open_string shut_string)
set_option linter.unusedVariables false
open Go.Nl (NS)

set_option maxRecDepth 100000 in
theorem tab_in : ((List.range 56).all fun n => fcmp .geq .f32 (E8 n) 0 && (!decide (n < 32) || fcmp .lss .f32 (E8 n) (floatOfInt .f32 4)) && (!decide (n < 40) || fcmp .lss .f32 (E8 n) (floatOfInt .f32 5)) && (!decide (n < 48) || fcmp .lss .f32 (E8 n) (floatOfInt .f32 6)) && fcmp .lss .f32 (E8 n) (floatOfInt .f32 7)) = true := by decide +kernel
theorem in_e8 (a n : Int) (ha : 4 ≤ a) (ha' : a ≤ 7) (h0 : 0 ≤ n) (h1 : n < 8 * a) : fcmp .geq .f32 (E8 n) 0 = true ∧ fcmp .lss .f32 (E8 n) (floatOfInt .f32 a) = true := by
  have h := List.all_eq_true.1 tab_in n.toNat (List.mem_range.2 (by omega))
  simp only [show ((n.toNat : Nat) : Int) = n by omega, Bool.and_eq_true, Bool.or_eq_true, Bool.not_eq_true', decide_eq_false_iff_not] at h
  refine ⟨h.1.1.1.1, ?_⟩
  have : a = 4 ∨ a = 5 ∨ a = 6 ∨ a = 7 := by omega
  rcases this with rfl | rfl | rfl | rfl
  · exact h.1.1.1.2.resolve_left (by omega)
  · exact h.1.1.2.resolve_left (by omega)
  · exact h.1.2.resolve_left (by omega)
  · exact h.2

theorem FourC.below {w w' : World} {g : Nat} {v0 v1 v2 v3 : Value} (h : FourC w g v0 v1 v2 v3) (hb : Below w.heap.size w w') : FourC w' g v0 v1 v2 v3 := by
  have hg : g < w.heap.size := block_lt_of_cell h.1
  exact ⟨by rw [hb.cell (p := ⟨g, 0, none⟩) hg]; exact h.1, by rw [hb.cell (p := ⟨g, 1, none⟩) hg]; exact h.2.1, by rw [hb.cell (p := ⟨g, 2, none⟩) hg]; exact h.2.2.1, by rw [hb.cell (p := ⟨g, 3, none⟩) hg]; exact h.2.2.2⟩

theorem emod_facts' (s n : Int) (h : 0 < s) : 0 ≤ n % s ∧ n % s < s := ⟨Int.emod_nonneg _ (by omega), Int.emod_lt_of_pos _ h⟩
/-- The sum of the first shares. -/
def sumAt (s0 s1 s2 s3 : Nat) : Nat → Nat
  | 0 => 0
  | 1 => fop .add .f32 0 s0
  | 2 => fop .add .f32 (fop .add .f32 0 s0) s1
  | 3 => fop .add .f32 (fop .add .f32 (fop .add .f32 0 s0) s1) s2
  | _ => fop .add .f32 (fop .add .f32 (fop .add .f32 (fop .add .f32 0 s0) s1) s2) s3
theorem sh_neq {x : Nat} (h : okSh4 x = true) : fcmp .neq .f32 x x = false := by
  simp only [okSh4, Bool.and_eq_true] at h
  rw [fcmp_neq_self]
  exact nan_of_fin h.1.1.2
theorem sh_lss {x : Nat} (h : okSh4 x = true) : fcmp .lss .f32 x 0 = false := by
  simp only [okSh4, Bool.and_eq_true, Bool.not_eq_true'] at h
  exact h.1.2
theorem corn_lt (a b x y : Int) (ha : 4 ≤ a) (hb : 4 ≤ b) : cornIx a b x y < a * b := by
  unfold cornIx
  have h1 := emod_facts a x ha
  have h2 := emod_facts b y hb
  have h3 : a * (y % b + 1) ≤ a * b := Int.mul_le_mul_of_nonneg_left (by omega) (by omega)
  rw [Int.mul_add, Int.mul_one] at h3
  omega

set_option maxHeartbeats 2000000 in
set_option maxRecDepth 100000 in
theorem walk (a0 : Option Addr) (len0 cap0 : Nat) (z0 : List Int) (a1 : Option Addr) (len1 cap1 : Nat) (z1 : List Int) (w : World) (w0 : NS .u8 w (.slice a0 len0 cap0) z0) (w1 : NS .u8 w (.slice a1 len1 cap1) z1) :
    Calls Try.prog 14 #[.slice a0 len0 cap0, .slice a1 len1 cap1] w fun e w' => e = .returned (.bool true) ∧ Below w.heap.size w w' := by
  have HC := Lib.hid w0
  have HM := Lib.hid w1
  clear w0 w1
  by_cases hl : (48 < len0 ∨ 48 < len1)
  · have HL := Lib.hid (show decide (48 < len0 ∨ 48 < len1) = true from decide_eq_true hl)
    clear hl
    go_enter Try.func14, Try.ntmps14
    go_wp2_with fail
    refine (lLong_any _ _ _ _ _ _ _).mono ?_; rw [HL.out]; rintro e w' ⟨rfl, rfl⟩
    go_wp2_with fail
    go_ret
    exact ⟨rfl, Below.refl _ _⟩
  have HL := Lib.hid (show decide (48 < len0 ∨ 48 < len1) = false from decide_eq_false hl)
  clear hl
  go_enter Try.func14, Try.ntmps14
  go_wp2_with fail
  refine (lLong_any _ _ _ _ _ _ _).mono ?_; rw [HL.out]; rintro e w' ⟨rfl, rfl⟩
  go_wp2_with fail
  refine (sR8Grid_any _ z0 _ HC.out).mono ?_; rintro e v1 ⟨a, b, ha, ha', hb, hb', rfl, hb1⟩
  have hp2 := gp_new v1 a b 28
  have hal := (Below.refl v1.heap.size v1).alloc (Nat.le_refl _) (.cells #[.int .i64 a, .int .i64 b] 28)
  go_wp2_with fail
  generalize v1.alloc (.cells #[.int .i64 a, .int .i64 b] 28) = v2 at hp2 hal ⊢
  have HB2 := Lib.hid (hb1.trans (hal.mono hb1.size))
  have HP := Lib.hid hp2
  clear hp2 hal hb1
  refine (sPlace_any _ z1 0 (by omega) (by omega) _ (HM.out.below HB2.out)).mono ?_; rintro e v3 ⟨n, m, n0, n1, m0, m1, rfl, hb3⟩
  have D3 := Lib.hid hb3
  have g0 := (HP.out.ever _ hb3).1; have g1 := (HP.out.ever _ hb3).2
  clear hb3
  go_wp2_with fail
  refine (iSharesAt_e8 a b ha ha' hb (by omega) n m (by omega) (by omega) (by omega) (by omega) _).mono ?_; rintro e v4 ⟨p1, q1, hp1, hq1, rfl, fc1, fs1, hb4⟩
  have D4 := Lib.hid (D3.out.trans (hb4.mono D3.out.size))
  have FC1 := Lib.hid fc1; have FS1 := Lib.hid fs1
  clear g0 g1 hb4 fc1 fs1
  have g0 := (HP.out.ever _ D4.out).1; have g1 := (HP.out.ever _ D4.out).2
  have hcs := csum_e8 Try.prog 54 n m a b n0 n1 m0 m1 ha ha' hb hb' v4
  go_wp2_with fail
  refine (iSharesAt_e8 a b ha ha' hb (by omega) (n + 8 * a) (m - 8 * b) (by omega) (by omega) (by omega) (by omega) _).mono ?_; rintro e v5 ⟨p2, q2, hp2, hq2, rfl, fc2, fs2, hb5⟩
  rw [mod_add, mod_sub] at fc2
  rw [show (n + 8 * a) % 8 = n % 8 by omega, show (m - 8 * b) % 8 = m % 8 by omega] at fs2
  have D5 := Lib.hid (D4.out.trans (hb5.mono D4.out.size))
  have FC2 := Lib.hid fc2; have FS2 := Lib.hid fs2
  have FC1 := Lib.hid (FourC.below FC1.out hb5); have FS1 := Lib.hid (FourC.below FS1.out hb5)
  clear g0 g1 hb5 fc2 fs2 hcs
  have g0 := (HP.out.ever _ D5.out).1; have g1 := (HP.out.ever _ D5.out).2
  go_wp2_with fail
  refine (iWrapPlace_e8 a b ha ha' hb (by omega) n m (by omega) (by omega) (by omega) (by omega) _).mono ?_; rintro e v6 ⟨rfl, hb6⟩
  have D6 := Lib.hid (D5.out.trans (hb6.mono D5.out.size))
  have FC1 := Lib.hid (FourC.below FC1.out hb6); have FS1 := Lib.hid (FourC.below FS1.out hb6)
  have FC2 := Lib.hid (FourC.below FC2.out hb6); have FS2 := Lib.hid (FourC.below FS2.out hb6)
  clear g0 g1 hb6
  have g0 := (HP.out.ever _ D6.out).1; have g1 := (HP.out.ever _ D6.out).2
  have bn := emod_facts' (8 * a) n (by omega)
  have bm := emod_facts' (8 * b) m (by omega)
  have HSF := Lib.hid (sh_facts (n % 8) (m % 8) (Int.emod_nonneg _ (by omega)) (Int.emod_lt_of_pos _ (by omega)) (Int.emod_nonneg _ (by omega)) (Int.emod_lt_of_pos _ (by omega)))
  have hcn : ∀ N : Int, 0 ≤ N → N < 8 * a → N % (8 * a) = N := fun N h h' => Int.emod_eq_of_lt h h'
  have hcm : ∀ N : Int, 0 ≤ N → N < 8 * b → N % (8 * b) = N := fun N h h' => Int.emod_eq_of_lt h h'
  generalize hN : n % (8 * a) = N at bn FC1 FC2 ⊢
  generalize hM : m % (8 * b) = M at bm FC1 FC2 ⊢
  generalize sh0 (n % 8) (m % 8) = s0 at HSF FS1 FS2
  generalize sh1 (n % 8) (m % 8) = s1 at HSF FS1 FS2
  generalize sh2 (n % 8) (m % 8) = s2 at HSF FS1 FS2
  generalize sh3 (n % 8) (m % 8) = s3 at HSF FS1 FS2
  go_wp2_with fail
  refine (iWrapPlace_e8 a b ha ha' hb (by omega) N M (by omega) (by omega) (by omega) (by omega) _).mono ?_; rintro e v7 ⟨rfl, hb7⟩
  rw [hcn N bn.1 bn.2, hcm M bm.1 bm.2]
  have D7 := Lib.hid (D6.out.trans (hb7.mono D6.out.size))
  have FC1 := Lib.hid (FourC.below FC1.out hb7); have FS1 := Lib.hid (FourC.below FS1.out hb7)
  have FC2 := Lib.hid (FourC.below FC2.out hb7); have FS2 := Lib.hid (FourC.below FS2.out hb7)
  clear g0 g1 hb7
  have g0 := (HP.out.ever _ D7.out).1; have g1 := (HP.out.ever _ D7.out).2
  go_wp2_with fail
  refine (iCellOf_e8 a b ha ha' hb (by omega) n m (by omega) (by omega) (by omega) (by omega) _).mono ?_; rintro e v8 ⟨rfl, hb8⟩
  rw [hN, hM]
  have D8 := Lib.hid (D7.out.trans (hb8.mono D7.out.size))
  have FC1 := Lib.hid (FourC.below FC1.out hb8); have FS1 := Lib.hid (FourC.below FS1.out hb8)
  have FC2 := Lib.hid (FourC.below FC2.out hb8); have FS2 := Lib.hid (FourC.below FS2.out hb8)
  have HN1 := Lib.hid bn; have HM1 := Lib.hid bm
  have e0 := Lib.hid (And.intro (cornIx_nn a b (N / 8) (M / 8) ha hb) (corn_lt a b (N / 8) (M / 8) ha hb))
  have e1 := Lib.hid (And.intro (cornIx_nn a b (N / 8 + 1) (M / 8) ha hb) (corn_lt a b (N / 8 + 1) (M / 8) ha hb))
  have e2 := Lib.hid (And.intro (cornIx_nn a b (N / 8) (M / 8 + 1) ha hb) (corn_lt a b (N / 8) (M / 8 + 1) ha hb))
  have e3 := Lib.hid (And.intro (cornIx_nn a b (N / 8 + 1) (M / 8 + 1) ha hb) (corn_lt a b (N / 8 + 1) (M / 8 + 1) ha hb))
  generalize cornIx a b (N / 8) (M / 8) = c0 at e0 FC1 FC2 ⊢
  generalize cornIx a b (N / 8 + 1) (M / 8) = c1 at e1 FC1 FC2
  generalize cornIx a b (N / 8) (M / 8 + 1) = c2 at e2 FC1 FC2
  generalize cornIx a b (N / 8 + 1) (M / 8 + 1) = c3 at e3 FC1 FC2
  clear g0 g1 hb8 hcn hcm hN hM bn bm
  have g0 := (HP.out.ever _ D8.out).1; have g1 := (HP.out.ever _ D8.out).2
  go_wp2_with fail
  refine (iValidGrid_any a b _).mono ?_; rw [show gridOk a b = true from decide_eq_true (by omega)]; rintro e v9 ⟨rfl, hb9⟩
  have D9 := Lib.hid (D8.out.trans (hb9.mono D8.out.size))
  have FC1 := Lib.hid (FourC.below FC1.out hb9); have FS1 := Lib.hid (FourC.below FS1.out hb9)
  have FC2 := Lib.hid (FourC.below FC2.out hb9); have FS2 := Lib.hid (FourC.below FS2.out hb9)
  clear g0 g1 hb9
  have y0 := FC1.out.1
  go_wp2_with fail
  have in1 := is_e8 N (by have := HN1.out; omega) (by have := HN1.out; omega)
  have im1 := is_e8 M (by have := HM1.out; omega) (by have := HM1.out; omega)
  refine (iSameComplex_any _ _ _ _ _ _ _ _ in1.1 im1.1 in1.1 im1.1 _).mono ?_; rw [show decide (E8 N = E8 N ∧ E8 M = E8 M) = true by simp]; rintro e w' ⟨rfl, t0, rfl⟩
  have IN := Lib.hid in1.1; have IM := Lib.hid im1.1
  clear in1 im1 y0
  go_wp2_with fail
  go_loopw [19, 20] (fun s i wr => ∃ k : Nat, k ≤ 4 ∧ i = .int .i64 (k : Int) ∧ (∃ r, s = .float .f32 r ∧ Is .f32 r (sumAt s0 s1 s2 s3 k)) ∧ ∃ t, wr = v9.drewN t) (fun _ i _ => (4 - intOf i).toNat)
  case atStart => exact ⟨0, by omega, rfl, ⟨_, rfl, Is.const rfl⟩, _, rfl⟩
  case round =>
    obtain ⟨k, hk, rfl, ⟨r, rfl, hr⟩, t, rfl⟩ := hrel
    have g0 := (HP.out.ever _ D9.out).1; have g1 := (HP.out.ever _ D9.out).2
    have hm1 : 0 ≤ a * b := Int.mul_nonneg (by omega) (by omega)
    have hm2 : a * b ≤ 7 * 6 := Int.mul_le_mul (by omega) (by omega) (by omega) (by omega)
    have hw1 : wrap64 (a * b) = a * b := wrap64_of (by omega) (by omega)
    have hw2 : IntKind.i64.wrap (a * b) = a * b := by rw [wrap_i64]; exact hw1
    by_cases hlt : k < 4
    · have h4 : k = 0 ∨ k = 1 ∨ k = 2 ∨ k = 3 := by omega
      clear hk hlt hm1 hm2
      rcases h4 with rfl | rfl | rfl | rfl
      · have x1 := FC1.out.1; have x2 := FC2.out.1; have x3 := FS1.out.1; have x4 := FS2.out.1
        have q1' : ¬ c0 < 0 := by have := e0.out; omega
        have q2' : ¬ a * b ≤ c0 := by have := e0.out; omega
        have f1 := is_sh HSF.out.1
        have f2 := sh_neq HSF.out.1
        have f3 := sh_lss HSF.out.1
        have HS := Lib.hid (show sumAt s0 s1 s2 s3 (0 + 1) = fop .add .f32 (sumAt s0 s1 s2 s3 0) s0 from rfl)
        go_wp2_with (first | ((with_reducible apply Loose.wp_start); kernel_rfl; kernel_rfl) | ((with_reducible apply Loose.start_cons)) | ((with_reducible apply Loose.start_nil)) | ((with_reducible apply Loose.walk_nil); intro n) | ((with_reducible apply Loose.walk_skip); exact rfl; (go_simp; first | done | exact rfl)) | ((with_reducible apply Loose.step_fc); rfl; rfl; rfl; rfl; (first | with_reducible assumption | exact Is.const rfl); (first | with_reducible assumption | exact Is.const rfl); (first | with_reducible assumption | exact rfl); exact rfl; (go_simp; first | done | exact rfl)) | ((with_reducible apply Loose.step_fa); rfl; rfl; rfl; rfl; (first | with_reducible assumption | exact Is.const rfl); (first | with_reducible assumption | exact Is.const rfl); exact rfl; (intro r; go_simp; first | done | exact rfl); intro r hr) | ((with_reducible apply Loose.step_wid); rfl; rfl; (first | with_reducible assumption | exact Is.const rfl); exact U32; exact U64; exact rfl; (intro r; go_simp; first | done | exact rfl); intro r hr) | ((with_reducible apply Loose.step_nar); rfl; rfl; (first | with_reducible assumption | exact Is.const rfl); exact U64; exact U32; (with_reducible assumption); exact rfl; (intro r; go_simp; first | done | exact rfl); intro r hr) | ((with_reducible apply Loose.step_assign); rfl; rfl; (with_reducible assumption); exact rfl; (intro r; go_simp; first | done | exact rfl); intro r hr) | ((with_reducible apply Loose.step_move); rfl; rfl; (with_reducible assumption); exact rfl; (intro r; go_simp; first | done | exact rfl); intro r hr) | ((with_reducible apply Loose.step_same); rfl; rfl; exact U32; exact U32; (first | with_reducible assumption | exact Is.const rfl); exact rfl; (intro r; go_simp; first | done | exact rfl); intro r hr) | ((with_reducible apply Loose.step_same); rfl; rfl; exact U64; exact U64; (first | with_reducible assumption | exact Is.const rfl); exact rfl; (intro r; go_simp; first | done | exact rfl); intro r hr) | ((with_reducible apply Loose.step_eq); rfl; (intro n; go_simp; first | done | exact rfl); exact rfl; (go_simp; first | done | exact rfl)) | (apply wpList_fcmp; rfl; rfl; rfl; rfl; (first | with_reducible assumption | exact Is.const rfl); (first | with_reducible assumption | exact Is.const rfl); (first | with_reducible assumption | exact rfl)) | (apply wpList_farith; rfl; rfl; rfl; rfl; (first | with_reducible assumption | exact Is.const rfl); (first | with_reducible assumption | exact Is.const rfl); intro r n hr))
        go_roundw
        case rel => exact ⟨0 + 1, by omega, by go_num, ⟨_, rfl, by rw [HS.out]; assumption⟩, _, rfl⟩
        case measure => simp [intOf]
      · have x1 := FC1.out.2.1; have x2 := FC2.out.2.1; have x3 := FS1.out.2.1; have x4 := FS2.out.2.1
        have q1' : ¬ c1 < 0 := by have := e1.out; omega
        have q2' : ¬ a * b ≤ c1 := by have := e1.out; omega
        have f1 := is_sh HSF.out.2.1
        have f2 := sh_neq HSF.out.2.1
        have f3 := sh_lss HSF.out.2.1
        have HS := Lib.hid (show sumAt s0 s1 s2 s3 (1 + 1) = fop .add .f32 (sumAt s0 s1 s2 s3 1) s1 from rfl)
        go_wp2_with (first | ((with_reducible apply Loose.wp_start); kernel_rfl; kernel_rfl) | ((with_reducible apply Loose.start_cons)) | ((with_reducible apply Loose.start_nil)) | ((with_reducible apply Loose.walk_nil); intro n) | ((with_reducible apply Loose.walk_skip); exact rfl; (go_simp; first | done | exact rfl)) | ((with_reducible apply Loose.step_fc); rfl; rfl; rfl; rfl; (first | with_reducible assumption | exact Is.const rfl); (first | with_reducible assumption | exact Is.const rfl); (first | with_reducible assumption | exact rfl); exact rfl; (go_simp; first | done | exact rfl)) | ((with_reducible apply Loose.step_fa); rfl; rfl; rfl; rfl; (first | with_reducible assumption | exact Is.const rfl); (first | with_reducible assumption | exact Is.const rfl); exact rfl; (intro r; go_simp; first | done | exact rfl); intro r hr) | ((with_reducible apply Loose.step_wid); rfl; rfl; (first | with_reducible assumption | exact Is.const rfl); exact U32; exact U64; exact rfl; (intro r; go_simp; first | done | exact rfl); intro r hr) | ((with_reducible apply Loose.step_nar); rfl; rfl; (first | with_reducible assumption | exact Is.const rfl); exact U64; exact U32; (with_reducible assumption); exact rfl; (intro r; go_simp; first | done | exact rfl); intro r hr) | ((with_reducible apply Loose.step_assign); rfl; rfl; (with_reducible assumption); exact rfl; (intro r; go_simp; first | done | exact rfl); intro r hr) | ((with_reducible apply Loose.step_move); rfl; rfl; (with_reducible assumption); exact rfl; (intro r; go_simp; first | done | exact rfl); intro r hr) | ((with_reducible apply Loose.step_same); rfl; rfl; exact U32; exact U32; (first | with_reducible assumption | exact Is.const rfl); exact rfl; (intro r; go_simp; first | done | exact rfl); intro r hr) | ((with_reducible apply Loose.step_same); rfl; rfl; exact U64; exact U64; (first | with_reducible assumption | exact Is.const rfl); exact rfl; (intro r; go_simp; first | done | exact rfl); intro r hr) | ((with_reducible apply Loose.step_eq); rfl; (intro n; go_simp; first | done | exact rfl); exact rfl; (go_simp; first | done | exact rfl)) | (apply wpList_fcmp; rfl; rfl; rfl; rfl; (first | with_reducible assumption | exact Is.const rfl); (first | with_reducible assumption | exact Is.const rfl); (first | with_reducible assumption | exact rfl)) | (apply wpList_farith; rfl; rfl; rfl; rfl; (first | with_reducible assumption | exact Is.const rfl); (first | with_reducible assumption | exact Is.const rfl); intro r n hr))
        go_roundw
        case rel => exact ⟨1 + 1, by omega, by go_num, ⟨_, rfl, by rw [HS.out]; assumption⟩, _, rfl⟩
        case measure => simp [intOf]
      · have x1 := FC1.out.2.2.1; have x2 := FC2.out.2.2.1; have x3 := FS1.out.2.2.1; have x4 := FS2.out.2.2.1
        have q1' : ¬ c2 < 0 := by have := e2.out; omega
        have q2' : ¬ a * b ≤ c2 := by have := e2.out; omega
        have f1 := is_sh HSF.out.2.2.1
        have f2 := sh_neq HSF.out.2.2.1
        have f3 := sh_lss HSF.out.2.2.1
        have HS := Lib.hid (show sumAt s0 s1 s2 s3 (2 + 1) = fop .add .f32 (sumAt s0 s1 s2 s3 2) s2 from rfl)
        go_wp2_with (first | ((with_reducible apply Loose.wp_start); kernel_rfl; kernel_rfl) | ((with_reducible apply Loose.start_cons)) | ((with_reducible apply Loose.start_nil)) | ((with_reducible apply Loose.walk_nil); intro n) | ((with_reducible apply Loose.walk_skip); exact rfl; (go_simp; first | done | exact rfl)) | ((with_reducible apply Loose.step_fc); rfl; rfl; rfl; rfl; (first | with_reducible assumption | exact Is.const rfl); (first | with_reducible assumption | exact Is.const rfl); (first | with_reducible assumption | exact rfl); exact rfl; (go_simp; first | done | exact rfl)) | ((with_reducible apply Loose.step_fa); rfl; rfl; rfl; rfl; (first | with_reducible assumption | exact Is.const rfl); (first | with_reducible assumption | exact Is.const rfl); exact rfl; (intro r; go_simp; first | done | exact rfl); intro r hr) | ((with_reducible apply Loose.step_wid); rfl; rfl; (first | with_reducible assumption | exact Is.const rfl); exact U32; exact U64; exact rfl; (intro r; go_simp; first | done | exact rfl); intro r hr) | ((with_reducible apply Loose.step_nar); rfl; rfl; (first | with_reducible assumption | exact Is.const rfl); exact U64; exact U32; (with_reducible assumption); exact rfl; (intro r; go_simp; first | done | exact rfl); intro r hr) | ((with_reducible apply Loose.step_assign); rfl; rfl; (with_reducible assumption); exact rfl; (intro r; go_simp; first | done | exact rfl); intro r hr) | ((with_reducible apply Loose.step_move); rfl; rfl; (with_reducible assumption); exact rfl; (intro r; go_simp; first | done | exact rfl); intro r hr) | ((with_reducible apply Loose.step_same); rfl; rfl; exact U32; exact U32; (first | with_reducible assumption | exact Is.const rfl); exact rfl; (intro r; go_simp; first | done | exact rfl); intro r hr) | ((with_reducible apply Loose.step_same); rfl; rfl; exact U64; exact U64; (first | with_reducible assumption | exact Is.const rfl); exact rfl; (intro r; go_simp; first | done | exact rfl); intro r hr) | ((with_reducible apply Loose.step_eq); rfl; (intro n; go_simp; first | done | exact rfl); exact rfl; (go_simp; first | done | exact rfl)) | (apply wpList_fcmp; rfl; rfl; rfl; rfl; (first | with_reducible assumption | exact Is.const rfl); (first | with_reducible assumption | exact Is.const rfl); (first | with_reducible assumption | exact rfl)) | (apply wpList_farith; rfl; rfl; rfl; rfl; (first | with_reducible assumption | exact Is.const rfl); (first | with_reducible assumption | exact Is.const rfl); intro r n hr))
        go_roundw
        case rel => exact ⟨2 + 1, by omega, by go_num, ⟨_, rfl, by rw [HS.out]; assumption⟩, _, rfl⟩
        case measure => simp [intOf]
      · have x1 := FC1.out.2.2.2; have x2 := FC2.out.2.2.2; have x3 := FS1.out.2.2.2; have x4 := FS2.out.2.2.2
        have q1' : ¬ c3 < 0 := by have := e3.out; omega
        have q2' : ¬ a * b ≤ c3 := by have := e3.out; omega
        have f1 := is_sh HSF.out.2.2.2.1
        have f2 := sh_neq HSF.out.2.2.2.1
        have f3 := sh_lss HSF.out.2.2.2.1
        have HS := Lib.hid (show sumAt s0 s1 s2 s3 (3 + 1) = fop .add .f32 (sumAt s0 s1 s2 s3 3) s3 from rfl)
        go_wp2_with (first | ((with_reducible apply Loose.wp_start); kernel_rfl; kernel_rfl) | ((with_reducible apply Loose.start_cons)) | ((with_reducible apply Loose.start_nil)) | ((with_reducible apply Loose.walk_nil); intro n) | ((with_reducible apply Loose.walk_skip); exact rfl; (go_simp; first | done | exact rfl)) | ((with_reducible apply Loose.step_fc); rfl; rfl; rfl; rfl; (first | with_reducible assumption | exact Is.const rfl); (first | with_reducible assumption | exact Is.const rfl); (first | with_reducible assumption | exact rfl); exact rfl; (go_simp; first | done | exact rfl)) | ((with_reducible apply Loose.step_fa); rfl; rfl; rfl; rfl; (first | with_reducible assumption | exact Is.const rfl); (first | with_reducible assumption | exact Is.const rfl); exact rfl; (intro r; go_simp; first | done | exact rfl); intro r hr) | ((with_reducible apply Loose.step_wid); rfl; rfl; (first | with_reducible assumption | exact Is.const rfl); exact U32; exact U64; exact rfl; (intro r; go_simp; first | done | exact rfl); intro r hr) | ((with_reducible apply Loose.step_nar); rfl; rfl; (first | with_reducible assumption | exact Is.const rfl); exact U64; exact U32; (with_reducible assumption); exact rfl; (intro r; go_simp; first | done | exact rfl); intro r hr) | ((with_reducible apply Loose.step_assign); rfl; rfl; (with_reducible assumption); exact rfl; (intro r; go_simp; first | done | exact rfl); intro r hr) | ((with_reducible apply Loose.step_move); rfl; rfl; (with_reducible assumption); exact rfl; (intro r; go_simp; first | done | exact rfl); intro r hr) | ((with_reducible apply Loose.step_same); rfl; rfl; exact U32; exact U32; (first | with_reducible assumption | exact Is.const rfl); exact rfl; (intro r; go_simp; first | done | exact rfl); intro r hr) | ((with_reducible apply Loose.step_same); rfl; rfl; exact U64; exact U64; (first | with_reducible assumption | exact Is.const rfl); exact rfl; (intro r; go_simp; first | done | exact rfl); intro r hr) | ((with_reducible apply Loose.step_eq); rfl; (intro n; go_simp; first | done | exact rfl); exact rfl; (go_simp; first | done | exact rfl)) | (apply wpList_fcmp; rfl; rfl; rfl; rfl; (first | with_reducible assumption | exact Is.const rfl); (first | with_reducible assumption | exact Is.const rfl); (first | with_reducible assumption | exact rfl)) | (apply wpList_farith; rfl; rfl; rfl; rfl; (first | with_reducible assumption | exact Is.const rfl); (first | with_reducible assumption | exact Is.const rfl); intro r n hr))
        go_roundw
        case rel => exact ⟨3 + 1, by omega, by go_num, ⟨_, rfl, by rw [HS.out]; assumption⟩, _, rfl⟩
        case measure => simp [intOf]
    · have hk4 : k = 4 := by omega
      subst hk4
      have hs : sumAt s0 s1 s2 s3 4 = 1065353216 := HSF.out.2.2.2.2
      rw [hs] at hr
      have i1 := in_e8 a N ha ha' HN1.out.1 HN1.out.2
      have i2 := in_e8 b M hb (by omega) HM1.out.1 HM1.out.2
      have j1 := i1.1; have j2 := i1.2; have j3 := i2.1; have j4 := i2.2
      have k1 := IN.out; have k2 := IM.out
      have k3 := side32 a (by omega) (by omega)
      have k4 := side32 b (by omega) (by omega)
      have hq : fcmp .eql .f32 1065353216 1065353216 = true := by decide +kernel
      clear i1 i2 hm1 hm2 hw1 hw2
      go_wp2_with (first | (apply wpList_fcmp; rfl; rfl; rfl; rfl; (first | with_reducible assumption | exact Is.const rfl); (first | with_reducible assumption | exact Is.const rfl); (first | with_reducible assumption | exact rfl)) | ((with_reducible apply Loose.wp_start); kernel_rfl; kernel_rfl) | ((with_reducible apply Loose.start_cons)) | ((with_reducible apply Loose.start_nil)) | ((with_reducible apply Loose.walk_nil); intro n) | ((with_reducible apply Loose.walk_skip); exact rfl; (go_simp; first | done | exact rfl)) | ((with_reducible apply Loose.step_fc); rfl; rfl; rfl; rfl; (first | with_reducible assumption | exact Is.const rfl); (first | with_reducible assumption | exact Is.const rfl); (first | with_reducible assumption | exact rfl); exact rfl; (go_simp; first | done | exact rfl)) | ((with_reducible apply Loose.step_fa); rfl; rfl; rfl; rfl; (first | with_reducible assumption | exact Is.const rfl); (first | with_reducible assumption | exact Is.const rfl); exact rfl; (intro r; go_simp; first | done | exact rfl); intro r hr) | ((with_reducible apply Loose.step_wid); rfl; rfl; (first | with_reducible assumption | exact Is.const rfl); exact U32; exact U64; exact rfl; (intro r; go_simp; first | done | exact rfl); intro r hr) | ((with_reducible apply Loose.step_nar); rfl; rfl; (first | with_reducible assumption | exact Is.const rfl); exact U64; exact U32; (with_reducible assumption); exact rfl; (intro r; go_simp; first | done | exact rfl); intro r hr) | ((with_reducible apply Loose.step_assign); rfl; rfl; (with_reducible assumption); exact rfl; (intro r; go_simp; first | done | exact rfl); intro r hr) | ((with_reducible apply Loose.step_move); rfl; rfl; (with_reducible assumption); exact rfl; (intro r; go_simp; first | done | exact rfl); intro r hr) | ((with_reducible apply Loose.step_same); rfl; rfl; exact U32; exact U32; (first | with_reducible assumption | exact Is.const rfl); exact rfl; (intro r; go_simp; first | done | exact rfl); intro r hr) | ((with_reducible apply Loose.step_same); rfl; rfl; exact U64; exact U64; (first | with_reducible assumption | exact Is.const rfl); exact rfl; (intro r; go_simp; first | done | exact rfl); intro r hr) | ((with_reducible apply Loose.step_eq); rfl; (intro n; go_simp; first | done | exact rfl); exact rfl; (go_simp; first | done | exact rfl)))
      go_ret
      exact ⟨rfl, below_drewN (HB2.out.trans (D9.out.mono HB2.out.size)) _⟩

/-! ### from the walk to the statement -/
theorem own : ownKnob Try.prog.godebug = none := by kernel_rfl
theorem laidOut : laidOutB Try.prog = true := by kernel_rfl
set_option maxRecDepth 100000 in
theorem lifted (os : Os) (started : os.Started) (H : Type) (enc : TypeId × Value → H) :
    ReturnsInHanded {} Try.checked os 14 .any (Rows.fnSharesSpec.pre6 enc Try.prog Try.f14 Rows.fnSharesRow.domain false) (Rows.fnSharesSpec.post enc Try.prog Try.f14 false true false false) := by
  refine returnsInHanded_of_change (C := Try.checked) own started (by kernel_rfl) Try.func14
    (ChangeSpec.witness6 (enc := enc) (C := Try.checked) false ⟨#[], #[.slice none 0 0, .slice none 0 0], []⟩ 8 (by kernel_rfl) (by kernel_rfl) (by kernel_rfl) (by kernel_rfl)) ?_
  intro W base args ds gs before hval0 hW hcnd _
  have hval : ∀ (j : Nat) t v, Try.f14.params[j]? = some t → args[j]? = some v → Value.okWide Try.prog W .any base t v := hval0
  have hW' := hW
  obtain ⟨p, q, hA0, hV, rfl, hfz, hnd⟩ := hW
  have hA : DataW.TrodAll enc Try.prog W 0 (fun _ => true) true Try.f14.params.toList args.toList ds p := hA0
  rw [Try.params14] at hA hval
  obtain ⟨v0, vs0, d0, ds0, p0, q0, hargs, rfl, rfl, h0, r0⟩ := trodAll_cons hA
  obtain ⟨v1, vs1, d1, ds1, p1, q1, rfl, rfl, rfl, h1, r1⟩ := trodAll_cons r0
  obtain ⟨rfl, rfl, rfl⟩ := trodAll_nil r1
  obtain rfl : args = #[v0, v1] := by cases args; simp_all
  obtain ⟨rfl, rfl⟩ := trodVars_none hV
  obtain ⟨a0, len0, cap0, rfl⟩ := okWide_slice Try.underlying51 (hval 0 51 v0 rfl rfl)
  have k0 := h0
  have lt0 : ∀ x ∈ p0, x.block < W.heap.size := by obtain ⟨m, hm⟩ := k0; exact DataW.trod_lt m _ _ _ hm
  obtain ⟨z0, w0⟩ : ∃ zs, Nl.NS .u8 W (.slice a0 len0 cap0) zs := Nl.open_nums Try.underlying51 Try.underlying5 (by kernel_rfl) h0
  obtain ⟨a1, len1, cap1, rfl⟩ := okWide_slice Try.underlying51 (hval 1 51 v1 rfl rfl)
  have k1 := h1
  have lt1 : ∀ x ∈ p1, x.block < W.heap.size := by obtain ⟨m, hm⟩ := k1; exact DataW.trod_lt m _ _ _ hm
  obtain ⟨z1, w1⟩ : ∃ zs, Nl.NS .u8 W (.slice a1 len1 cap1) zs := Nl.open_nums Try.underlying51 Try.underlying5 (by kernel_rfl) h1
  clear hA0 hval0
  refine (walk a0 len0 cap0 z0 a1 len1 cap1 z1 W w0 w1).mono fun e W' ⟨he, bel⟩ => ?_
  subst he
  exact ⟨_, rfl, _, _, _, [], _, [], hW', trodAll_mk1 (shut_bool Try.underlying4 _), (trodAll_cons_mk (Below.trod laidOut (by kernel_rfl) (of_decide_eq_true (by kernel_rfl)) k0 bel lt0) (trodAll_cons_mk (Below.trod laidOut (by kernel_rfl) (of_decide_eq_true (by kernel_rfl)) k1 bel lt1) trodAll_mk0)), rfl, bel.frame _, fun h => by cases h⟩

theorem over : Rows.fnSharesRow.holds Try.pinned (OpenSpec.ofChange Rows.fnSharesSpec) :=
  OpenClaim.holds_of_wide 14 Try.f14 rfl rfl rfl rfl rfl rfl rfl ⟨rfl, rfl, rfl, rfl, rfl⟩ rfl rfl rfl rfl rfl (by kernel_rfl) Try.func14 (by kernel_rfl)
    (of_decide_eq_true (by kernel_rfl)) (by unfold Func.isWrapper; first | (rw [if_pos (by decide +kernel)]; kernel_rfl) | (rw [if_neg (by decide +kernel)]; exact ⟨rfl, rfl⟩))
    (fun os started H enc _ => lifted os started H enc)

/-- The statement. -/
theorem proved : Rows.FnSharesSaid := over
#print axioms proved
end Go.Proofs.Ytihhlfafglmgnaa.fnShares
