/-
  Springs: fields that pull to the middle, of the program.
-/
import Derived.Test.YtlfnbnhbobohlaaNear
import Derived.Test.YtlfnbnhbobohlaaMath
import Derived.Deep.Cut
import Derived.Laws.EntriesVeiled
namespace Go.Proofs.Ytlfnbnhbobohlaa
open Go.Fl Go.RowKit
open Go.Joins (ownsRow_le)
set_option linter.unusedSimpArgs false
set_option linter.unusedVariables false

/-- The pull at a corner, along one side. -/
def sprV (X : Nat) (s c : Int) : Nat := fop .mul .f32 X (fop .sub .f32 (fop .quo .f32 (floatOfInt .f32 s) 1073741824) (floatOfInt .f32 c))
def sprX (X : Nat) (a : Int) (j : Nat) : Nat := sprV X a ((j % a.toNat : Nat) : Int)
def sprY (X : Nat) (a b : Int) (j : Nat) : Nat := sprV X b ((j / a.toNat : Nat) : Int)
def allFin (F : Nat → Nat) (n : Nat) : Bool := (List.range n).all fun j => fin .f32 (F j)
theorem allFin_yes {F : Nat → Nat} {n : Nat} (h : ∀ j, j < n → fin .f32 (F j) = true) : allFin F n = true := List.all_eq_true.2 fun j hj => h j (List.mem_range.1 hj)
theorem allFin_at {F : Nat → Nat} {n j : Nat} (h : allFin F n = true) (hj : j < n) : fin .f32 (F j) = true := List.all_eq_true.1 h j (List.mem_range.2 hj)
theorem allFin_no {F : Nat → Nat} {n j : Nat} (hj : j < n) (h : fin .f32 (F j) = false) : allFin F n = false := by
  cases hf : allFin F n with
  | false => rfl
  | true => rw [allFin_at hf hj] at h; cases h
/-- Two results apart from each other. -/
def TwoR (w w' : World) (e : Ending) (ok : Bool) (n : Nat) (F G : Nat → Nat) : Prop :=
  ∃ u v, e = .returned (.tuple #[u, v, .bool ok]) ∧ FRes w.heap.size w' u n F ∧ FRes w.heap.size w' v n G ∧ (v.ownBlock = none ∨ v.ownBlock ≠ u.ownBlock) ∧ (u.ownBlock = none ∨ u.ownBlock ≠ v.ownBlock)
theorem twoR_none (w w' : World) (F G : Nat → Nat) : TwoR w w' (.returned (.tuple #[.slice none 0 0, .slice none 0 0, .bool false])) false 0 F G :=
  ⟨_, _, rfl, fres_none _ _ _, fres_none _ _ _, .inl rfl, .inl rfl⟩
def okSpringField (a b : Int) (X : Nat) : Bool := gridOk a b && fin .f32 X && (allFin (sprX X a) (a * b).toNat && allFin (sprY X a b) (a * b).toNat)
def lenSpringField (a b : Int) (X : Nat) : Nat := if okSpringField a b X then (a * b).toNat else 0
theorem lenSpringField_le (a b : Int) (X : Nat) : lenSpringField a b X ≤ 1048576 := by
  unfold lenSpringField
  split
  · rename_i h
    unfold okSpringField at h
    rw [Bool.and_eq_true, Bool.and_eq_true] at h
    obtain ⟨h3, h4, h5, h6⟩ := gridOk_true h.1.1
    have hm1 : a * b ≤ 16 * 16 := Int.mul_le_mul h4 h6 (by omega) (by omega)
    omega
  · omega
theorem okSpr_yes {a b : Int} {X : Nat} (h1 : gridOk a b = true) (h2 : fin .f32 X = true) (h3 : allFin (sprX X a) (a * b).toNat = true) (h4 : allFin (sprY X a b) (a * b).toNat = true) : okSpringField a b X = true ∧ lenSpringField a b X = (a * b).toNat := by
  have e : okSpringField a b X = true := by unfold okSpringField; rw [h1, h2, h3, h4]; rfl
  exact ⟨e, by unfold lenSpringField; rw [if_pos e]⟩
theorem okSpr_no {a b : Int} {X : Nat} (h : gridOk a b = false ∨ fin .f32 X = false ∨ allFin (sprX X a) (a * b).toNat = false ∨ allFin (sprY X a b) (a * b).toNat = false) : okSpringField a b X = false ∧ lenSpringField a b X = 0 := by
  have e : okSpringField a b X = false := by unfold okSpringField; rcases h with h | h | h | h <;> rw [h] <;> simp
  exact ⟨e, by unfold lenSpringField; rw [if_neg (by rw [e]; simp)]⟩

theorem iWide5_any (x X : Nat) (ix : Is .f64 x X) (w : World) : Calls Try.prog 121 #[.float .f64 x] w fun e w' => e = .returned (.bool (fin .f64 X)) ∧ w = w' := by
  rw [← finWide]
  by_cases hc : fcmp .gtr .f64 (fabs X) 9218868437227405311 = true
  · rw [hc]
    go_enter Try.func121, Try.ntmps121
    go_wp2_with (first | (go_at_call 140; refine (isInf_any _ _ ix _).mono ?_; rintro e w' ⟨rfl, rfl⟩) | (go_at_call 141; refine (isNaN_any _ _ ix _).mono ?_; rintro e w' ⟨rfl, rfl⟩))
    go_ret
    exact ⟨rfl, rfl⟩
  · have hc' : fcmp .gtr .f64 (fabs X) 9218868437227405311 = false := by simpa using hc
    clear hc
    rw [hc']
    go_enter Try.func121, Try.ntmps121
    go_wp2_with (first | (go_at_call 140; refine (isInf_any _ _ ix _).mono ?_; rintro e w' ⟨rfl, rfl⟩) | (go_at_call 141; refine (isNaN_any _ _ ix _).mono ?_; rintro e w' ⟨rfl, rfl⟩))
    go_ret
    exact ⟨by simp, rfl⟩
theorem iFinite5_any (x X : Nat) (ix : Is .f32 x X) (w : World) : Calls Try.prog 91 #[.float .f32 x] w fun e w' => e = .returned (.bool (fin .f32 X)) ∧ ∃ n, w' = w.drewN n := by
  rw [← fin_wid]
  go_enter Try.func91, Try.ntmps91
  go_wp2_with (first | (apply wpList_wid; rfl; rfl; (first | with_reducible assumption | exact Is.const rfl); exact U32; exact U64; intro r n hr) | (go_at_call 121; refine (iWide5_any _ _ (by assumption) _).mono ?_; rintro e w' ⟨rfl, rfl⟩))
  go_ret
  exact ⟨rfl, _, rfl⟩

set_option maxRecDepth 100000 in
theorem areFinite_any (t : Value) (rs : List Nat) (F : Nat → Nat) (w : World) (hu : FS .f32 w t rs) (he : Eqs rs F) (hn : rs.length ≤ 1048576) :
    Calls Try.prog 81 #[t] w fun e w' => e = .returned (.bool (allFin F rs.length)) ∧ ∃ m, w' = w.drewN m := by
  obtain ⟨ok, hok⟩ : ∃ ok, allFin F rs.length = ok := ⟨_, rfl⟩
  rw [hok]
  have HOK := Lib.hid hok; have HE := Lib.hid he
  obtain ⟨a1, c1, rfl, hlc, hcm, hwf, hmem⟩ := hu
  unfold maxLen at hcm
  clear hok he
  go_enter Try.func81, Try.ntmps81
  go_wp2_with fail
  go_loopw [7] (fun i wr => ∃ k m : Nat, i = .int .i64 (k : Int) ∧ k ≤ rs.length ∧ wr = w.drewN m ∧ Hid (∀ j, j < k → fin .f32 (F j) = true)) (fun i _ => rs.length - (intOf i).toNat)
  case atStart => exact ⟨0, 0, rfl, Nat.zero_le _, rfl, Lib.hid (fun j h => absurd h (Nat.not_lt_zero _))⟩
  case round =>
    obtain ⟨k, m, rfl, hk, rfl, HF⟩ := hrel
    by_cases hlt : k < rs.length
    · rcases hmem with rfl | ⟨b, off, rfl, hb, hc⟩
      · simp at hlt
      have hcell := hc k hlt
      have hx := HE.out k hlt
      have iK0 : (0 : Int) ≤ (k : Int) := Int.natCast_nonneg _
      have iK1 : (k : Int) < (rs.length : Int) := by omega
      clear hc
      generalize rs.getD k 0 = x at hcell hx
      cases hfn : fin .f32 (F k) with
      | true =>
        have HFN := Lib.hid hfn
        clear hfn
        go_wp2_with (go_at_call 91; refine (iFinite5_any _ _ hx _).mono ?_; rw [HFN.out]; rintro e w' ⟨rfl, n, rfl⟩)
        go_roundw
        case rel => exact ⟨k + 1, m + n, by go_num, by omega, rfl, Lib.hid (fun j hj => by rcases Nat.lt_or_ge j k with h | h; exact HF.out j h; rw [show j = k by omega]; exact HFN.out)⟩
        case measure => simp [intOf]; omega
      | false =>
        have HFN := Lib.hid hfn
        have HNO := Lib.hid (allFin_no hlt hfn)
        clear hfn
        go_wp2_with (go_at_call 91; refine (iFinite5_any _ _ hx _).mono ?_; rw [HFN.out]; rintro e w' ⟨rfl, n, rfl⟩)
        go_ret
        rw [← HOK.out, HNO.out]
        exact ⟨rfl, _, rfl⟩
    · obtain rfl : k = rs.length := by omega
      have HY := Lib.hid (allFin_yes HF.out)
      go_wp2_with fail
      go_ret
      rw [← HOK.out, HY.out]
      exact ⟨rfl, _, rfl⟩

theorem spr1_any (s c : Int) (ks r0 X : Nat) (w : World) (hc : w.cell? ⟨ks, 0, none⟩ = some (.float .f32 r0)) (ix : Is .f32 r0 X) :
    Calls Try.prog 92 #[.int .i64 s, .int .i64 c, .pointer (some ⟨ks, 0, none⟩)] w fun e w' => (∃ r, e = .returned (.float .f32 r) ∧ Is .f32 r (sprV X s c)) ∧ ∃ n, w' = w.drewN n := by
  have h1 := intWord32_is s
  have h2 := intWord32_is c
  have HF := Lib.hid (show sprV X s c = fop .mul .f32 X (fop .sub .f32 (fop .quo .f32 (floatOfInt .f32 s) 1073741824) (floatOfInt .f32 c)) from rfl)
  go_enter Try.func92, Try.ntmps92
  go_wp2_with (first | (apply wpList_farith; rfl; rfl; rfl; rfl; (first | with_reducible assumption | exact Is.const rfl); (first | with_reducible assumption | exact Is.const rfl); intro r n hr) | (apply wpList_same; rfl; rfl; exact U32; exact U32))
  go_ret
  exact ⟨⟨_, rfl, by rw [HF.out]; assumption⟩, _, rfl⟩

theorem spr2_any (a b : Int) (ks r0 X : Nat) (c1 c2 : Value) (w : World) (hg : gridOk a b = true) (hc1 : BX w c1 (.func (.func 92) #[] #[.pointer (some ⟨ks, 0, none⟩)])) (hc2 : GP w c2 a b) (hks : ks < w.heap.size) (hk : w.cell? ⟨ks, 0, none⟩ = some (.float .f32 r0)) (ix : Is .f32 r0 X) :
    Tells w 93 c1 c2 a b (sprX X a) := by
  refine ⟨enters_of Try.func93 (by kernel_rfl) rfl, ?_⟩
  intro u v j wr hu1 hv1 hj hbel
  have hA := gridOk_true hg
  have HF := Lib.hid (show sprX X a j = sprV X a (u : Int) by unfold sprX; rw [(at_point hA.1 hu1 hj).1])
  have hb1 := hc1.below hbel
  have hg1 := hc2.below hbel
  obtain ⟨k1, rfl, hk1, hc⟩ := hb1
  obtain ⟨k2, rfl, hk2, hg0, hg1⟩ := hg1
  have HK := Lib.hid ((hbel.cell (p := ⟨ks, 0, none⟩) hks).trans hk)
  have HX := Lib.hid ix
  have HC := Lib.hid (spr1_any a (u : Int) ks r0 X)
  clear hA hg hc1 hc2 hk ix hj hbel hks
  go_enter Try.func93, Try.ntmps93
  go_wp2_with fail
  refine (HC.out wr HK.out HX.out).mono ?_; rintro e w' ⟨⟨r, rfl, hr⟩, n, rfl⟩
  go_wp2_with fail
  go_ret
  exact ⟨⟨_, rfl, by rw [HF.out]; exact hr⟩, below_drewN (Below.refl _ _) n⟩

theorem spr3_any (a b : Int) (ks r0 X : Nat) (c1 c2 : Value) (w : World) (hg : gridOk a b = true) (hc1 : BX w c1 (.func (.func 92) #[] #[.pointer (some ⟨ks, 0, none⟩)])) (hc2 : GP w c2 a b) (hks : ks < w.heap.size) (hk : w.cell? ⟨ks, 0, none⟩ = some (.float .f32 r0)) (ix : Is .f32 r0 X) :
    Tells w 94 c1 c2 a b (sprY X a b) := by
  refine ⟨enters_of Try.func94 (by kernel_rfl) rfl, ?_⟩
  intro u v j wr hu1 hv1 hj hbel
  have hA := gridOk_true hg
  have HF := Lib.hid (show sprY X a b j = sprV X b (v : Int) by unfold sprY; rw [(at_point hA.1 hu1 hj).2])
  have hb1 := hc1.below hbel
  have hg1 := hc2.below hbel
  obtain ⟨k1, rfl, hk1, hc⟩ := hb1
  obtain ⟨k2, rfl, hk2, hg0, hg1⟩ := hg1
  have HK := Lib.hid ((hbel.cell (p := ⟨ks, 0, none⟩) hks).trans hk)
  have HX := Lib.hid ix
  have HC := Lib.hid (spr1_any b (v : Int) ks r0 X)
  clear hA hg hc1 hc2 hk ix hj hbel hks
  go_enter Try.func94, Try.ntmps94
  go_wp2_with fail
  refine (HC.out wr HK.out HX.out).mono ?_; rintro e w' ⟨⟨r, rfl, hr⟩, n, rfl⟩
  go_wp2_with fail
  go_ret
  exact ⟨⟨_, rfl, by rw [HF.out]; exact hr⟩, below_drewN (Below.refl _ _) n⟩

set_option maxHeartbeats 1000000 in
set_option maxRecDepth 100000 in
theorem iSpring_two (a b : Int) (x X : Nat) (w : World) (ix : Is .f32 x X) :
    Calls Try.prog 49 #[GV a b, .float .f32 x] w fun e w' => TwoR w w' e (okSpringField a b X) (lenSpringField a b X) (sprX X a) (sprY X a b) ∧ Below w.heap.size w w' := by
  obtain ⟨n1, n2, n3, n4⟩ := two_new w (.cells #[.int .i64 a, .int .i64 b] 27) (.cells #[.float .f32 x] 46)
  have HG := Lib.hid n1; have HL := Lib.hid n2; have HB := Lib.hid n3; have HS := Lib.hid n4
  have HI := Lib.hid ix
  clear n1 n2 n3 n4 ix
  obtain ⟨ok, hok⟩ : ∃ ok, okSpringField a b X = ok := ⟨_, rfl⟩
  obtain ⟨N, hN⟩ : ∃ N, lenSpringField a b X = N := ⟨_, rfl⟩
  rw [hok, hN]
  have HOK := Lib.hid hok; have HNN := Lib.hid hN
  clear hok hN
  cases h1 : gridOk a b with
  | true =>
    have H1 := Lib.hid h1
    clear h1
    cases h2 : fin .f32 X with
    | true =>
      have H2 := Lib.hid h2
      have HA := Lib.hid (gridOk_true H1.out)
      obtain ⟨n, hn⟩ : ∃ n : Nat, (n : Int) = a * b := by
        have := HA.out; have h4 : 4 * 4 ≤ a * b := Int.mul_le_mul this.1 this.2.2.1 (by omega) (by omega)
        exact ⟨(a * b).toNat, by omega⟩
      have HNI := Lib.hid hn
      have HNT := Lib.hid (show (a * b).toNat = n by omega)
      have hn256 := (grid_points H1.out hn).2
      clear h2 hn
      go_enter Try.func49, Try.ntmps49
      go_wp2_with fail
      generalize (w.alloc (.cells #[.int .i64 a, .int .i64 b] 27)).alloc (.cells #[.float .f32 x] 46) = w1 at HG HL HB HS ⊢
      refine (iValidGrid_any a b _).mono ?_; rw [H1.out]; rintro e w2 ⟨rfl, hb2⟩
      have hs := HS.out
      have BG := Lib.hid ((hb2.block w.heap.size (by omega)).trans HG.out)
      have BL := Lib.hid ((hb2.block (w.heap.size + 1) (by omega)).trans HL.out)
      have BB := Lib.hid (HB.out.trans (hb2.mono HB.out.size))
      have l0 := (bx_of BL.out).cell
      clear hb2 hs
      go_wp2_with fail
      clear l0
      refine (iFinite5_any _ _ HI.out _).mono ?_; rw [H2.out]; rintro e w' ⟨rfl, m, rfl⟩
      have CG := Lib.hid (show (w2.drewN m).heap[w.heap.size]? = _ from BG.out)
      have CL := Lib.hid (show (w2.drewN m).heap[w.heap.size + 1]? = _ from BL.out)
      have CB := Lib.hid (below_drewN BB.out m)
      generalize w2.drewN m = w3 at CG CL CB ⊢
      clear BG BL BB
      go_upto_region 4 with fail
      have hal := (Below.refl w3.heap.size w3).alloc (Nat.le_refl _) (.cells #[.func (.func 92) #[] #[.pointer (some ⟨w.heap.size + 1, 0, none⟩)]] 102)
      have DF := Lib.hid (heap_alloc_new w3 (.cells #[.func (.func 92) #[] #[.pointer (some ⟨w.heap.size + 1, 0, none⟩)]] 102))
      have DG := Lib.hid ((hal.block w.heap.size (Array.getElem?_eq_some_iff.1 CG.out).1).trans CG.out)
      have DL := Lib.hid ((hal.block (w.heap.size + 1) (Array.getElem?_eq_some_iff.1 CL.out).1).trans CL.out)
      have DB := Lib.hid (CB.out.trans (hal.mono CB.out.size))
      clear hal CG CL CB
      have KF := Lib.hid (show w3.heap.size < (w3.alloc (.cells #[.func (.func 92) #[] #[.pointer (some ⟨w.heap.size + 1, 0, none⟩)]] 102)).heap.size by simp)
      generalize w3.alloc (.cells #[.func (.func 92) #[] #[.pointer (some ⟨w.heap.size + 1, 0, none⟩)]] 102) = w4 at DF DG DL DB KF ⊢
      generalize w3.heap.size = kf at DF KF ⊢
      have c0 := (pair_cells DG.out).1; have c1' := (pair_cells DG.out).2.1
      have HC := Lib.hid (bx_of DL.out).cell
      go_wp2_with fail
      clear c0 c1'
      have hsz := (Array.getElem?_eq_some_iff.1 DL.out).1
      refine (fieldBy_any a b n _ _ _ _ _ H1.out HNI.out (spr2_any a b _ x X _ _ _ H1.out (bx_of DF.out) (gp_of DG.out) hsz HC.out HI.out)).mono ?_; rintro e w5 ⟨⟨p, rfl, hp⟩, hb5⟩
      have EF := Lib.hid ((hb5.block kf KF.out).trans DF.out)
      have EG := Lib.hid ((hb5.block w.heap.size (Array.getElem?_eq_some_iff.1 DG.out).1).trans DG.out)
      have EL := Lib.hid ((hb5.block (w.heap.size + 1) (Array.getElem?_eq_some_iff.1 DL.out).1).trans DL.out)
      have EB := Lib.hid (DB.out.trans (hb5.mono DB.out.size))
      have HP := Lib.hid hp; have KP := Lib.hid hb5.size
      have HC5 := Lib.hid (bx_of EL.out).cell
      clear hp hb5 hsz
      have c0 := (pair_cells EG.out).1; have c1' := (pair_cells EG.out).2.1
      go_wp2_with fail
      clear c0 c1'
      have hsz := (Array.getElem?_eq_some_iff.1 EL.out).1
      refine (fieldBy_any a b n _ _ _ _ _ H1.out HNI.out (spr3_any a b _ x X _ _ _ H1.out (bx_of EF.out) (gp_of EG.out) hsz HC5.out HI.out)).mono ?_; rintro e w6 ⟨⟨q, rfl, hq⟩, hb6⟩
      have HP6 := Lib.hid (fres_below HP.out hb6)
      have HQ6 := Lib.hid hq
      have FB := Lib.hid (EB.out.trans (hb6.mono EB.out.size))
      have HAP := Lib.hid (show (q.ownBlock = none ∨ q.ownBlock ≠ p.ownBlock) ∧ (p.ownBlock = none ∨ p.ownBlock ≠ q.ownBlock) by
        obtain ⟨rs, _, _, h3⟩ := HP.out
        obtain ⟨ss, _, _, h6⟩ := hq
        exact ⟨apart h6.lt h3.lt (.inr (Nat.le_refl _)), apart h3.lt h6.lt (.inl (Nat.le_refl _))⟩)
      clear hq hb6 hsz
      obtain ⟨rs, hrl, hre, hro⟩ := HP6.out
      obtain ⟨ss, hsl, hse, hso⟩ := HQ6.out
      have F1 := Lib.hid (fown_FS hro hre.lt)
      have F2 := Lib.hid (fown_FS hso hse.lt)
      have L1 := Lib.hid hrl; have L2 := Lib.hid hsl; have E1 := Lib.hid hre; have E2 := Lib.hid hse
      have HN1 := Lib.hid (show rs.length ≤ 1048576 by omega); have HN2 := Lib.hid (show ss.length ≤ 1048576 by omega)
      clear hrl hre hro hsl hse hso
      have HR1 := Lib.hid (fres_le HP6.out DB.out.size); have HR2 := Lib.hid (fres_le HQ6.out EB.out.size)
      go_wp2_with fail
      cases h3 : allFin (sprX X a) n with
      | true =>
        have H3 := Lib.hid h3
        clear h3
        refine (areFinite_any _ rs (sprX X a) _ F1.out E1.out HN1.out).mono ?_; rw [L1.out, H3.out]; rintro e w' ⟨rfl, m1, rfl⟩
        cases h4 : allFin (sprY X a b) n with
        | true =>
          have H4 := Lib.hid h4
          clear h4
          go_wp2_with fail
          refine (areFinite_any _ ss (sprY X a b) _ (F2.out.drewN m1) E2.out HN2.out).mono ?_; rw [L2.out, H4.out]; rintro e w' ⟨rfl, m2, rfl⟩
          go_wp2_with fail
          refine bodyPost_ret (v := .tuple #[p, q, .bool true]) (by simp [results, Try.results49, go_sem]) rfl ?_
          have hy := okSpr_yes H1.out H2.out (by rw [HNT.out]; exact H3.out) (by rw [HNT.out]; exact H4.out)
          rw [← HOK.out, ← HNN.out, hy.1, hy.2, HNT.out]
          exact ⟨⟨p, q, rfl, HR1.out, HR2.out, HAP.out.1, HAP.out.2⟩, below_drewN FB.out (m1 + m2)⟩
        | false =>
          have H4 := Lib.hid h4
          clear h4
          go_wp2_with fail
          refine (areFinite_any _ ss (sprY X a b) _ (F2.out.drewN m1) E2.out HN2.out).mono ?_; rw [L2.out, H4.out]; rintro e w' ⟨rfl, m2, rfl⟩
          go_wp2_with fail
          refine bodyPost_ret (v := .tuple #[.slice none 0 0, .slice none 0 0, .bool false]) (by simp [results, Try.results49, go_sem]) rfl ?_
          have hy := okSpr_no (a := a) (b := b) (X := X) (.inr (.inr (.inr (by rw [HNT.out]; exact H4.out))))
          rw [← HOK.out, ← HNN.out, hy.1, hy.2]
          exact ⟨twoR_none _ _ _ _, below_drewN FB.out (m1 + m2)⟩
      | false =>
        have H3 := Lib.hid h3
        clear h3
        refine (areFinite_any _ rs (sprX X a) _ F1.out E1.out HN1.out).mono ?_; rw [L1.out, H3.out]; rintro e w' ⟨rfl, m1, rfl⟩
        go_wp2_with fail
        refine bodyPost_ret (v := .tuple #[.slice none 0 0, .slice none 0 0, .bool false]) (by simp [results, Try.results49, go_sem]) rfl ?_
        have hy := okSpr_no (a := a) (b := b) (X := X) (.inr (.inr (.inl (by rw [HNT.out]; exact H3.out))))
        rw [← HOK.out, ← HNN.out, hy.1, hy.2]
        exact ⟨twoR_none _ _ _ _, below_drewN FB.out m1⟩
    | false =>
      have H2 := Lib.hid h2
      clear h2
      go_enter Try.func49, Try.ntmps49
      go_wp2_with fail
      generalize (w.alloc (.cells #[.int .i64 a, .int .i64 b] 27)).alloc (.cells #[.float .f32 x] 46) = w1 at HG HL HB HS ⊢
      refine (iValidGrid_any a b _).mono ?_; rw [H1.out]; rintro e w2 ⟨rfl, hb2⟩
      have hs := HS.out
      have BL := Lib.hid ((hb2.block (w.heap.size + 1) (by omega)).trans HL.out)
      have BB := Lib.hid (HB.out.trans (hb2.mono HB.out.size))
      have l0 := (bx_of BL.out).cell
      clear hb2 hs
      go_wp2_with fail
      clear l0
      refine (iFinite5_any _ _ HI.out _).mono ?_; rw [H2.out]; rintro e w' ⟨rfl, m, rfl⟩
      go_wp2_with fail
      refine bodyPost_ret (v := .tuple #[.slice none 0 0, .slice none 0 0, .bool false]) (by simp [results, Try.results49, go_sem]) rfl ?_
      have hy := okSpr_no (a := a) (b := b) (X := X) (.inr (.inl H2.out))
      rw [← HOK.out, ← HNN.out, hy.1, hy.2]
      exact ⟨twoR_none _ _ _ _, below_drewN BB.out m⟩
  | false =>
    have H1 := Lib.hid h1
    clear h1
    go_enter Try.func49, Try.ntmps49
    go_wp2_with fail
    generalize (w.alloc (.cells #[.int .i64 a, .int .i64 b] 27)).alloc (.cells #[.float .f32 x] 46) = w1 at HG HL HB HS ⊢
    refine (iValidGrid_any a b _).mono ?_; rw [H1.out]; rintro e w2 ⟨rfl, hb2⟩
    have BB := Lib.hid (HB.out.trans (hb2.mono HB.out.size))
    clear hb2
    go_wp2_with fail
    refine bodyPost_ret (v := .tuple #[.slice none 0 0, .slice none 0 0, .bool false]) (by simp [results, Try.results49, go_sem]) rfl ?_
    have hy := okSpr_no (a := a) (b := b) (X := X) (.inl H1.out)
    rw [← HOK.out, ← HNN.out, hy.1, hy.2]
    exact ⟨twoR_none _ _ _ _, BB.out⟩
end Go.Proofs.Ytlfnbnhbobohlaa
