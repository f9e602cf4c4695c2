/-
  The mean of all rows, of the program and of the model.
-/
import Derived.Test.YtlfnbnhbobohlaaSby
import Derived.Test.YtlfnbnhbobohlaaRwo
import Derived.Test.YtlfnbnhbobohlaaFby
namespace Go.Proofs.Ytlfnbnhbobohlaa
open Go.Fl Go.RowKit
open Go.Joins (ownsRow_le)
set_option linter.unusedSimpArgs false
set_option linter.unusedVariables false

def colF (A : Nat) (xs : List Nat) (x y : Nat) : Nat := cn .f32 (xs.getD (x + A * y) 0)
def mrowF (A B : Nat) (xs : List Nat) (x : Nat) : Nat := fop .quo .f32 (sumFn .f32 (colF A xs x) B) (floatOfInt .f32 (B : Int))
def okMeanRow (a b : Int) (xs : List Nat) : Bool := fieldOk a b xs.length
def lenMeanRow (a b : Int) (xs : List Nat) : Nat := if okMeanRow a b xs then a.toNat else 0
theorem lenMeanRow_le (a b : Int) (xs : List Nat) (_h : xs.length ≤ 1048576) : lenMeanRow a b xs ≤ 1048576 := by
  unfold lenMeanRow
  split
  · rename_i h
    have := fieldOk_true h
    omega
  · omega
/-- The place of the point x, y. -/
theorem col_place {A B x y n : Nat} (hA : A ≤ 16) (hB : B ≤ 16) (hx : x < A) (hy : y < B) (hn : (n : Int) = (A : Int) * (B : Int)) : ∃ m j : Nat, m = A * y ∧ j = x + A * y ∧ j < n ∧ wrap64 ((A : Int) * (y : Int)) = (m : Int) ∧ wrap64 ((x : Int) + (m : Int)) = (j : Int) ∧
    IntKind.i64.wrap ((A : Int) * (y : Int)) = (m : Int) ∧ IntKind.i64.wrap ((x : Int) + (m : Int)) = (j : Int) ∧ (j : Int) = (x : Int) % (A : Int) + (A : Int) * ((y : Int) % (B : Int)) ∧ (j : Int) < (n : Int) ∧ (0 : Int) ≤ (j : Int) := by
  have h1 : A * (y + 1) ≤ A * B := Nat.mul_le_mul_left _ (by omega)
  have h2 : (A : Int) * (y : Int) = ((A * y : Nat) : Int) := by simp
  have h4 : A * B ≤ 16 * 16 := Nat.mul_le_mul hA hB
  have h5 : n = A * B := by exact_mod_cast hn
  rw [Nat.mul_add, Nat.mul_one] at h1
  refine ⟨A * y, x + A * y, rfl, rfl, by omega, ?_⟩
  rw [h2, wrap_i64, wrap_i64, Int.emod_eq_of_lt (by omega) (by omega), Int.emod_eq_of_lt (by omega) (by omega), h2]
  generalize A * y = p at *
  exact ⟨wrap64_of (by omega) (by omega), by rw [wrap64_of (by omega) (by omega)]; omega, wrap64_of (by omega) (by omega), by rw [wrap64_of (by omega) (by omega)]; omega, by omega, by omega, by omega⟩

set_option maxHeartbeats 1000000 in
set_option maxRecDepth 100000 in
theorem sMean8_any (pt : Value) (A B : Nat) (v : Value) (xs : List Nat) (w : World) (hp : GP w pt (A : Int) (B : Int)) (hv : FS .f32 w v xs) (hA : 4 ≤ A ∧ A ≤ 16) (hB : 4 ≤ B ∧ B ≤ 16) (hn : (xs.length : Int) = (A : Int) * (B : Int)) :
    Calls Try.prog 68 #[pt, v] w fun e w' => (∃ r, e = .returned r ∧ FRes w.heap.size w' r A (mrowF A B xs)) ∧ Below w.heap.size w w' := by
  obtain ⟨i0, hi, hz0, hz1, hz2⟩ := info_parts F32info
  have HP0 := hp
  obtain ⟨g, rfl, hgl, c0, c1'⟩ := hp
  have HU := Lib.hid hv
  have HP := Lib.hid HP0
  clear HP0 c0 c1'
  obtain ⟨a1, c1, rfl, hlc, hcm, hwf, hmem⟩ := hv
  have HWF := Lib.hid hwf
  have HA := Lib.hid hA; have HBB := Lib.hid hB; have HN := Lib.hid hn
  have hcm' := hcm
  unfold maxLen at hcm'
  clear hmem hlc hcm hwf hA hB hn
  go_enter Try.func68, Try.ntmps68
  go_wp2_with fail
  have HO0 := Lib.hid (own_start w.heap.size w (Nat.le_refl _))
  have HB0 := Lib.hid ((Below.refl w.heap.size w).alloc (Nat.le_refl _) (.cells #[] 46))
  generalize w.alloc (.cells #[] 46) = w2 at HO0 HB0 ⊢
  go_loopw [5, 6] (fun v i wr => ∃ rs : List Nat, i = .int .i64 (rs.length : Int) ∧ rs.length ≤ A ∧ Hid (Eqs rs (mrowF A B xs)) ∧ (∃ gg cap, v = .slice (some ⟨gg, 0, none⟩) rs.length cap ∧ Hid (wr.ownsRow w.heap.size 46 1 v rs.length (rs.map (Value.float .f32)))) ∧ Hid (Below w.heap.size w wr)) (fun _ i _ => A - (intOf i).toNat)
  case atStart => exact ⟨[], rfl, Nat.zero_le _, Lib.hid (Eqs.nil _), ⟨_, _, rfl, HO0⟩, HB0⟩
  case round =>
    clear HO0 HB0
    obtain ⟨rs, rfl, hk, HE, ⟨gg, cap, rfl, HO⟩, HB⟩ := hrel
    have hc0 := (GP.below HP.out HB.out).cells.1
    have hc1 := (GP.below HP.out HB.out).cells.2
    by_cases hlt : rs.length < A
    · go_wp2_with fail
      go_loopw [7, 8] (fun s i w9 => ∃ y : Nat, i = .int .i64 (y : Int) ∧ y ≤ B ∧ (∃ r, s = .float .f32 r ∧ Is .f32 r (sumFn .f32 (colF A xs rs.length) y)) ∧ ∃ n, w9 = wr.drewN n) (fun _ i _ => B - (intOf i).toNat)
      case atStart => exact ⟨0, rfl, Nat.zero_le _, ⟨_, rfl, Is.const rfl⟩, 0, rfl⟩
      case round =>
        obtain ⟨y, rfl, hy, ⟨r, rfl, hr⟩, n, rfl⟩ := hrel
        by_cases hly : y < B
        · obtain ⟨m, j, hm, hj, hjn, e1, e2, e3, e4, -, i1, i2⟩ := col_place (n := xs.length) HA.out.2 HBB.out.2 hlt hly HN.out
          obtain ⟨b1, o1, he, hcx⟩ := FS.at HU.out HB.out hjn
          obtain rfl := he
          have ix := FS.is HWF.out j hjn
          have HS := Lib.hid (show sumFn .f32 (colF A xs rs.length) (y + 1) = fop .add .f32 (sumFn .f32 (colF A xs rs.length) y) (cn .f32 (xs.getD j 0)) by rw [hj]; rfl)
          generalize cn .f32 (xs.getD j 0) = X at ix HS
          generalize xs.getD j 0 = x at hcx ix
          have HL := Lib.hid hly
          have hB16 : B ≤ 16 := HBB.out.2
          clear hm hj
          go_wp2_with (first | (apply wpList_farith; rfl; rfl; rfl; rfl; (first | with_reducible assumption | exact Is.const rfl); (first | with_reducible assumption | exact Is.const rfl); intro r n hr) | fail)
          go_roundw
          case rel => clear e1 e2 e3 e4; exact ⟨y + 1, by go_num, by have := HL.out; omega, ⟨_, rfl, by rw [HS.out]; assumption⟩, _, rfl⟩
          case measure => clear e1 e2 e3 e4; have := HL.out; simp [intOf]; omega
        · obtain rfl : y = B := by omega
          have hi2 := intWord32_is (y : Int)
          have HF := Lib.hid (show mrowF A y xs rs.length = fop .quo .f32 (sumFn .f32 (colF A xs rs.length) y) (floatOfInt .f32 (y : Int)) from rfl)
          have hbel := HB.out
          have HON := Lib.hid (World.ownsRow.kept HO.out (grown_below (row := none) (below_drewN (Below.refl wr.heap.size wr) n)) (.inr (by simp [Value.ownBlock])))
          have HBN := Lib.hid (below_drewN hbel n)
          have hA16 : A ≤ 16 := HA.out.2
          clear hly hbel HO HB
          generalize wr.drewN n = w8 at HON HBN ⊢
          clear hc0 hc1
          have hc0 := (GP.below HP.out HBN.out).cells.1
          have hc1 := (GP.below HP.out HBN.out).cells.2
          go_wp2_with (first | (apply wpList_farith; rfl; rfl; rfl; rfl; (first | with_reducible assumption | exact Is.const rfl); (first | with_reducible assumption | exact Is.const rfl); intro r n hr) | (apply wpList_same; rfl; rfl; exact U32; exact U32) | (at_builtin; refine wpList_append_lies _ rfl _ _ _ rfl w.heap.size 46 i0 _ 1 4 Try.underlying24 hi hz0 hz1 hz2 rfl (by omega) (.slice (some ⟨gg, 0, none⟩) rs.length cap) rs.length (rs.map (Value.float .f32)) rfl (own_next HON.out n r) ⟨w8.heap.size, 0, none⟩ 1 1 [.float .f32 r] rfl rfl (World.news_of_block (cs := #[.float .f32 r]) (t := 46) (fr := (0, 0)) (heap_alloc_new _ _)) (by simp [Value.oneCell']) (by omega) (by unfold maxLen; omega) (by omega) (below_next HBN.out n r).size (w8.heap.size + 1) (by simp) ?_; intro g2 cap2 w3 hown4 hgrow hat hltg))
          have hb5 := Lib.hid ((below_next HBN.out n r).grown hgrow (below_next HBN.out n r).size (fun k hk => ((own_next HON.out n r).lt k hk).1))
          have HO4 := Lib.hid (show w3.ownsRow w.heap.size 46 1 (.slice (some ⟨g2, 0, none⟩) (rs ++ [r]).length cap2) (rs ++ [r]).length ((rs ++ [r]).map (Value.float .f32)) by simpa using hown4)
          have HE4 := Lib.hid (HE.out.snoc (by rw [HF.out]; assumption))
          have HL4 := Lib.hid (show (rs ++ [r]).length = rs.length + 1 by simp)
          clear hown4 hgrow hat hc0 hc1
          go_wp2
          go_roundw
          case rel => exact ⟨rs ++ [r], by rw [HL4.out]; go_num, by rw [HL4.out]; omega, HE4, ⟨g2, cap2, by rw [HL4.out], by rw [HL4.out] at HO4 ⊢; exact HO4⟩, hb5⟩
          case measure => simp [intOf]; omega
    · have HK2 := Lib.hid (show rs.length = A by omega)
      have i2 : ¬ ((rs.length : Int) < (A : Int)) := by omega
      go_wp2
      go_ret
      exact ⟨⟨_, rfl, rs, HK2.out, HE.out, HO.out⟩, HB.out⟩

set_option maxHeartbeats 1000000 in
set_option maxRecDepth 100000 in
theorem sMeanRow_any (a b : Int) (v : Value) (xs : List Nat) (w : World) (hv : FS .f32 w v xs) (hn : xs.length ≤ 1048576) :
    Calls Try.prog 22 #[GV a b, v] w fun e w' => (∃ r, e = .returned (.tuple #[r, .bool (okMeanRow a b xs)]) ∧ FRes w.heap.size w' r (lenMeanRow a b xs) (mrowF a.toNat b.toNat xs)) ∧ Below w.heap.size w w' := by
  have HU := Lib.hid hv
  obtain ⟨a1, c1, rfl, hlc, hcm, hwf, hmem⟩ := hv
  clear hmem hlc hcm hwf
  have HP := Lib.hid (gp_new w a b 27)
  have HB0 := Lib.hid ((Below.refl w.heap.size w).alloc (Nat.le_refl _) (.cells #[.int .i64 a, .int .i64 b] 27))
  unfold lenMeanRow okMeanRow
  cases h1 : fieldOk a b xs.length with
  | false =>
    have H1 := Lib.hid h1
    clear h1
    rw [if_neg (by simp)]
    go_enter Try.func22, Try.ntmps22
    go_wp2_with fail
    generalize w.alloc (.cells #[.int .i64 a, .int .i64 b] 27) = w1 at HB0 HP ⊢
    refine (sField_any _ a b a1 xs.length c1 _ HP.out).mono ?_; rw [H1.out]; rintro e w' ⟨rfl, m1, rfl⟩
    go_wp2_with fail
    go_ret2
    exact ⟨⟨_, rfl, fres_none _ _ _⟩, below_drewN HB0.out _⟩
  | true =>
    have H1 := Lib.hid h1
    have HA := Lib.hid (fieldOk_true h1)
    obtain ⟨A, rfl⟩ : ∃ A : Nat, a = (A : Int) := ⟨a.toNat, by have := HA.out; omega⟩
    obtain ⟨B, rfl⟩ : ∃ B : Nat, b = (B : Int) := ⟨b.toNat, by have := HA.out; omega⟩
    clear h1
    rw [if_pos rfl, Int.toNat_natCast, Int.toNat_natCast]
    go_enter Try.func22, Try.ntmps22
    go_wp2_with fail
    generalize w.alloc (.cells #[.int .i64 (A : Int), .int .i64 (B : Int)] 27) = w1 at HB0 HP ⊢
    refine (sField_any _ (A : Int) (B : Int) a1 xs.length c1 _ HP.out).mono ?_; rw [H1.out]; rintro e w' ⟨rfl, m1, rfl⟩
    go_wp2_with fail
    have hb2 := Lib.hid (below_drewN HB0.out m1)
    refine (sMean8_any _ A B _ xs _ (GP.drewN HP.out m1) (HU.out.below hb2.out) (by have := HA.out; omega) (by have := HA.out; omega) HA.out.2.2.2.2.1).mono ?_; rintro e w' ⟨⟨r, rfl, hr⟩, hb6⟩
    go_wp2_with fail
    go_ret2
    exact ⟨⟨_, rfl, fres_le hr hb2.out.size⟩, hb2.out.trans (hb6.mono hb2.out.size)⟩

set_option maxHeartbeats 1000000 in
set_option maxRecDepth 100000 in
theorem mean1_any (A B x k : Nat) (v : Value) (xs : List Nat) (kl kg kx : Nat) (w : World) (hA : 4 ≤ A ∧ A ≤ 16) (hB : 4 ≤ B ∧ B ≤ 16) (hn : (xs.length : Int) = (A : Int) * (B : Int)) (hx : x < A) (hk : k < B)
    (hv : FS .f32 w v xs) (hl : w.cell? ⟨kl, 0, none⟩ = some v) (hg : w.cell? ⟨kg, 0, none⟩ = some (.int .i64 (A : Int))) (hg' : w.cell? ⟨kg, 1, none⟩ = some (.int .i64 (B : Int))) (hc : w.cell? ⟨kx, 0, none⟩ = some (.int .i64 (x : Int))) :
    Calls Try.prog 70 #[.int .i64 (k : Int), .pointer (some ⟨kl, 0, none⟩), .pointer (some ⟨kg, 0, none⟩), .pointer (some ⟨kx, 0, none⟩)] w fun e w' => (∃ r, e = .returned (.float .f32 r) ∧ Is .f32 r (colF A xs x k)) ∧ Below w.heap.size w w' := by
  obtain ⟨m, j, hm, hj, hjn, e1, e2, e3, e4, hix, i1, i2⟩ := col_place (n := xs.length) hA.2 hB.2 hx hk hn
  have HC := Lib.hid (show colF A xs x k = cn .f32 (xs.getD j 0) by rw [hj]; rfl)
  have HV := Lib.hid hv
  obtain ⟨a1, c1, rfl, hlc, hcm, hwf, hmem⟩ := hv
  have ix := FS.is hwf j hjn
  obtain ⟨b1, o1, he, hcx⟩ := FS.at HV.out (Below.refl _ _) hjn
  obtain rfl := he
  generalize cn .f32 (xs.getD j 0) = X at ix HC
  have HL := Lib.hid (show ∀ w', Below w.heap.size w w' → w'.cell? ⟨b1, o1 + j, none⟩ = some (.float .f32 (xs.getD j 0)) ∧ w'.cell? ⟨kl, 0, none⟩ = some (.slice (some ⟨b1, o1, none⟩) xs.length c1) ∧ w'.cell? ⟨kg, 0, none⟩ = some (.int .i64 (A : Int)) ∧ w'.cell? ⟨kg, 1, none⟩ = some (.int .i64 (B : Int)) ∧ w'.cell? ⟨kx, 0, none⟩ = some (.int .i64 (x : Int)) from fun w' hb =>
    ⟨FS.ever HV.out hjn w' hb, by rw [hb.cell (p := ⟨kl, 0, none⟩) (block_lt_of_cell hl)]; exact hl, by rw [hb.cell (p := ⟨kg, 0, none⟩) (block_lt_of_cell hg)]; exact hg, by rw [hb.cell (p := ⟨kg, 1, none⟩) (block_lt_of_cell hg')]; exact hg', by rw [hb.cell (p := ⟨kx, 0, none⟩) (block_lt_of_cell hc)]; exact hc⟩)
  generalize xs.getD j 0 = r0 at hcx ix HL
  have HIX := Lib.hid hix
  clear hm hj hlc hcm hwf hmem hix e1 e2 e3 e4 hjn hx hk hn
  go_enter Try.func70, Try.ntmps70
  go_wp2_with fail
  refine wp_region_noPanic ?_
  have hbd := (Below.refl w.heap.size w).drew
  have hd := HL.out _ hbd
  refine wp_region_held_drew (S := fun w' => w'.cell? ⟨b1, o1 + j, none⟩ = some (.float .f32 r0) ∧ w'.cell? ⟨kl, 0, none⟩ = some (.slice (some ⟨b1, o1, none⟩) xs.length c1) ∧ w'.cell? ⟨kg, 0, none⟩ = some (.int .i64 (A : Int)) ∧ w'.cell? ⟨kg, 1, none⟩ = some (.int .i64 (B : Int)) ∧ w'.cell? ⟨kx, 0, none⟩ = some (.int .i64 (x : Int))) (by kernel_rfl) (HL.out w (Below.refl w.heap.size w)) (fun hHeld => ?_)
  clear hcx hl hg hg' hc hd
  generalize w.drew = v0 at hHeld hbd ⊢
  ((refine wpAnyH_take (i := 0) (v := ?_) rfl (by kernel_rfl) (by kernel_rfl) (by kernel_rfl) (fun _ _ _ h => h) (Or.inl ⟨by rfl, ?_⟩) (by assumption) ?_; rotate_left; (· intro w hSw; (try dsimp only at hSw); go_simp; first | done | with_reducible rfl); (try simp only [List.getElem_toArray, List.getElem_cons_zero, List.getElem_cons_succ, Act.put, List.setIfInBounds_toArray, List.set_cons_zero, List.set_cons_succ])); (refine wpAnyH_take (i := 1) (v := ?_) rfl (by kernel_rfl) (by kernel_rfl) (by kernel_rfl) (fun _ _ _ h => h) (Or.inl ⟨by rfl, ?_⟩) (by assumption) ?_; rotate_left; (· intro w hSw; (try dsimp only at hSw); go_simp; first | done | with_reducible rfl); (try simp only [List.getElem_toArray, List.getElem_cons_zero, List.getElem_cons_succ, Act.put, List.setIfInBounds_toArray, List.set_cons_zero, List.set_cons_succ])); (refine wpAnyH_take (i := 2) (v := ?_) rfl (by kernel_rfl) (by kernel_rfl) (by kernel_rfl) (fun _ _ _ h => h) (Or.inl ⟨by rfl, ?_⟩) (by assumption) ?_; rotate_left; (· intro w hSw; (try dsimp only at hSw); go_simp; first | done | with_reducible rfl); (try simp only [List.getElem_toArray, List.getElem_cons_zero, List.getElem_cons_succ, Act.put, List.setIfInBounds_toArray, List.set_cons_zero, List.set_cons_succ])); (refine wpAnyH_take (i := 3) (v := ?_) rfl (by kernel_rfl) (by kernel_rfl) (by kernel_rfl) (fun _ _ _ h => h) (Or.inl ⟨by rfl, ?_⟩) (by assumption) ?_; rotate_left; (· intro w hSw; (try dsimp only at hSw); go_simp; first | done | with_reducible rfl); (try simp only [List.getElem_toArray, List.getElem_cons_zero, List.getElem_cons_succ, Act.put, List.setIfInBounds_toArray, List.set_cons_zero, List.set_cons_succ])))
  (refine wpAnyH_ready (rs := [4]) (by kernel_rfl) (by simp) ?_; refine AllReadyH.cons (i := 4) rfl (fun K hK => ?_) AllReadyH.nil)
  go_simp
  refine (indexOf_any (A : Int) (B : Int) (x : Int) (k : Int) j _ (by omega) (by omega) HIX.out).mono ?_; rintro e w3 ⟨rfl, hb3⟩
  have HB3 := Lib.hid (hbd.trans (hb3.mono hbd.size))
  clear hb3
  go_wp2_with fail
  (refine hK.out _ _ (HL.out _ HB3.out) (fun hHeld => ?_); clear hK K; (try simp only [List.getElem_toArray, List.getElem_cons_zero, List.getElem_cons_succ, Act.put, List.setIfInBounds_toArray, List.set_cons_zero, List.set_cons_succ]))
  ((refine wpAnyH_take (i := 5) (v := ?_) rfl (by kernel_rfl) (by kernel_rfl) (by kernel_rfl) (fun _ _ _ h => h) (Or.inl ⟨by rfl, ?_⟩) (by assumption) ?_; rotate_left; (· intro w hSw; (try dsimp only at hSw); go_simp; first | done | with_reducible rfl); (try simp only [List.getElem_toArray, List.getElem_cons_zero, List.getElem_cons_succ, Act.put, List.setIfInBounds_toArray, List.set_cons_zero, List.set_cons_succ])); (refine wpAnyH_take (i := 6) (v := ?_) rfl (by kernel_rfl) (by kernel_rfl) (by kernel_rfl) (fun _ _ _ h => h) (Or.inl ⟨by rfl, ?_⟩) (by assumption) ?_; rotate_left; (· intro w hSw; (try dsimp only at hSw); go_simp; first | done | with_reducible rfl); (try simp only [List.getElem_toArray, List.getElem_cons_zero, List.getElem_cons_succ, Act.put, List.setIfInBounds_toArray, List.set_cons_zero, List.set_cons_succ])))
  (refine wpAnyH_ready (rs := [7]) (by kernel_rfl) (by simp) ?_; refine AllReadyH.cons (i := 7) rfl (fun K hK => ?_) AllReadyH.nil)
  go_simp
  (refine hK.out _ _ (HL.out _ HB3.out) (fun hHeld => ?_); clear hK K; (try simp only [List.getElem_toArray, List.getElem_cons_zero, List.getElem_cons_succ, Act.put, List.setIfInBounds_toArray, List.set_cons_zero, List.set_cons_succ]))
  (refine wpAnyH_done (by kernel_rfl) ?_ _; refine NoPanic.normal ?_)
  clear hHeld
  go_wp2
  go_ret
  exact ⟨⟨_, rfl, by rw [HC.out]; exact ix⟩, HB3.out⟩

set_option maxHeartbeats 2000000 in
set_option maxRecDepth 100000 in
theorem iMean_yes (A B : Nat) (v : Value) (xs : List Nat) (w : World) (hv : FS .f32 w v xs) (h1 : fieldOk (A : Int) (B : Int) xs.length = true) :
    Calls Try.prog 23 #[GV (A : Int) (B : Int), v] w fun e w' => (∃ r, e = .returned (.tuple #[r, .bool true]) ∧ FRes w.heap.size w' r A (mrowF A B xs)) ∧ Below w.heap.size w w' := by
  obtain ⟨i0, hi, hz0, hz1, hz2⟩ := info_parts F32info
  have HU := Lib.hid hv
  obtain ⟨a1, c1, rfl, hlc, hcm, hwf, hmem⟩ := hv
  have HA := Lib.hid (fieldOk_true h1)
  have H1 := Lib.hid h1
  have hb4 : i0.bytes * A ≤ 281474976710656 := by rw [hz2]; have := HA.out; omega
  have hml : A ≤ maxLen := by unfold maxLen; have := HA.out; omega
  have HI := Lib.hid hi; have HZ0 := Lib.hid hz0; have HZ1 := Lib.hid hz1
  obtain ⟨n1, n2, n3, n4⟩ := two_new w (.cells #[.int .i64 (A : Int), .int .i64 (B : Int)] 27) (.cells #[.slice a1 xs.length c1] 24)
  have HG := Lib.hid (gp_of n1); have HL := Lib.hid (bx_of n2); have HB := Lib.hid n3
  have hc0 := HG.out.cells.1; have hc1 := HG.out.cells.2; have hc2 := HL.out.cell
  clear hmem hlc hcm hwf h1 hi hz0 hz1 hz2 n1 n2 n3 n4
  go_enter Try.func23, Try.ntmps23
  go_wp2_with fail
  clear hc0 hc1 hc2
  generalize (w.alloc (.cells #[.int .i64 (A : Int), .int .i64 (B : Int)] 27)).alloc (.cells #[.slice a1 xs.length c1] 24) = w1 at HG HL HB ⊢
  refine (iIsField_any (A : Int) (B : Int) a1 xs.length c1 _).mono ?_; rw [H1.out]; rintro e w2 ⟨rfl, hb2⟩
  have HD := Lib.hid hb2
  have hc0 := (HG.out.ever _ hb2).1; have hc1 := (HG.out.ever _ hb2).2
  clear hb2
  go_wp2_with (at_make; refine wpList_make_full _ rfl _ _ 24 rfl w1.heap.size 46 i0 (.float .f32 0) 1 Try.underlying24 HI.out HZ0.out HZ1.out _ _ _ _ A rfl rfl rfl rfl hb4 hml HD.out.size ?_; intro w4 hown hgrow; have hd4 := HD.out.grown hgrow HD.out.size (fun k h => by cases h); have hc2 := (HG.out.ever _ hd4).1; have hc3 := (HG.out.ever _ hd4).2)
  rw [Nat.mul_one, show (madeCells (Value.float .f32 0).cells A).toList = ptl [] A by rw [ptl_zero]; exact toList_madeCells_one _ _] at hown
  have HO0 := Lib.hid hown
  clear hgrow hb4 hml HI HZ0 HZ1 hown HD hc0 hc1 hc2 hc3
  generalize w2.heap.size = g0 at HO0 ⊢
  go_loopw [18] (fun i wr => ∃ rs : List Nat, i = .int .i64 (rs.length : Int) ∧ rs.length ≤ A ∧ Hid (Eqs rs (mrowF A B xs)) ∧ Hid (wr.ownsRow w1.heap.size 46 1 (.slice (some ⟨g0, 0, none⟩) A A) A (ptl rs A)) ∧ Hid (Below w1.heap.size w1 wr)) (fun i _ => A - (intOf i).toNat)
  case atStart => exact ⟨[], rfl, Nat.zero_le _, Lib.hid (Eqs.nil _), HO0, Lib.hid hd4⟩
  case round =>
    clear HO0 hd4
    obtain ⟨rs, rfl, hk, HE, HO, HD⟩ := hrel
    have hA16 : A ≤ 16 := by have := HA.out; omega
    by_cases hlt : rs.length < A
    · have hn := (Below.refl wr.heap.size wr).alloc (Nat.le_refl _) (.cells #[.int .i64 (rs.length : Int)] 2)
      have hx := bx_new wr (.int .i64 (rs.length : Int)) 2
      have HX := Lib.hid hx
      have HS5 := Lib.hid (show (wr.alloc (.cells #[.int .i64 (rs.length : Int)] 2)).heap.size = wr.heap.size + 1 by simp)
      have HD5 := Lib.hid (HD.out.trans (hn.mono HD.out.size))
      have HO5 := Lib.hid (World.ownsRow.alloc HO.out (.cells #[.int .i64 (rs.length : Int)] 2))
      have hc0 := (HG.out.ever _ HD.out).1; have hc1 := (HG.out.ever _ HD.out).2
      have hc2 := (HG.out.ever _ HD5.out).1; have hc3 := (HG.out.ever _ HD5.out).2; have hc4 := hx.cell
      clear hn hx
      go_wp2_with fail
      clear hc0 hc1 hc2 hc3 hc4
      generalize wr.alloc (.cells #[.int .i64 (rs.length : Int)] 2) = w5 at HX HS5 HD5 HO5 ⊢
      have HT := Lib.hid (show TellsK w5 70 #[.pointer (some ⟨w.heap.size + 1, 0, none⟩), .pointer (some ⟨w.heap.size, 0, none⟩), .pointer (some ⟨wr.heap.size, 0, none⟩)] B .f32 (colF A xs rs.length) from
        ⟨enters_of Try.func70 (by kernel_rfl) rfl, fun k w6 hk6 hb6 => mean1_any A B rs.length k _ xs _ _ _ w6 (by have := HA.out; omega) (by have := HA.out; omega) HA.out.2.2.2.2.1 hlt hk6
        (HU.out.below (HB.out.trans ((HD5.out.trans (hb6.mono HD5.out.size)).mono HB.out.size))) (HL.out.below (HD5.out.trans (hb6.mono HD5.out.size))).cell ((HG.out.ever _ (HD5.out.trans (hb6.mono HD5.out.size))).1) ((HG.out.ever _ (HD5.out.trans (hb6.mono HD5.out.size))).2) (HX.out.below hb6).cell⟩)
      refine (sumBy32_any B _ _ (colF A xs rs.length) _ (by have := HA.out; omega) HT.out).mono ?_; rintro e w7 ⟨⟨r, rfl, hr⟩, hb7⟩
      have HD7 := Lib.hid (HD5.out.trans (hb7.mono HD5.out.size))
      have HO7 := Lib.hid (World.ownsRow.kept HO5.out (grown_below (row := none) hb7) (.inr (by simp [Value.ownBlock])))
      have HX7 := Lib.hid (HX.out.below hb7)
      have hi2 := intWord32_is (B : Int)
      have HF := Lib.hid (show mrowF A B xs rs.length = fop .quo .f32 (sumFn .f32 (colF A xs rs.length) B) (floatOfInt .f32 (B : Int)) from rfl)
      have hc0 := (HG.out.ever _ HD7.out).1; have hc1 := (HG.out.ever _ HD7.out).2; have hc4 := HX7.out.cell
      have hw0 := HO7.out.cellAt rs.length (by omega)
      rw [ptl_get rs _ hlt] at hw0
      have hfz := HO7.out.frozenAt rs.length
      clear hb7
      go_wp2_with (first | (apply wpList_farith; rfl; rfl; rfl; rfl; (first | with_reducible assumption | exact Is.const rfl); (first | with_reducible assumption | exact Is.const rfl); intro r n hr) | (apply wpList_same; rfl; rfl; exact U32; exact U32) | fail)
      have ST := ((show (w7.drewN n).ownsRow w1.heap.size 46 1 (.slice (some ⟨g0, 0, none⟩) A A) A (ptl rs A) from HO7.out).stored rs.length (.float .f32 r)).1
      rw [ptl_set rs _ r hlt] at ST
      have hg0 := (HO7.out.lt g0 rfl).1
      go_roundw
      case rel => exact ⟨rs ++ [r], by rw [List.length_append, List.length_singleton]; go_num, by simp; omega, Lib.hid (HE.out.snoc (by rw [HF.out]; assumption)), Lib.hid ST, Lib.hid ((below_drewN HD7.out n).setCell (p := ⟨g0, rs.length, none⟩) hg0 _)⟩
      case measure => simp [intOf]; omega
    · have HK2 := Lib.hid (show rs.length = A by omega)
      have HR := Lib.hid (show ptl rs A = rs.map (Value.float .f32) by rw [← HK2.out]; exact ptl_all rs)
      go_wp2
      go_ret2
      exact ⟨⟨_, rfl, rs, HK2.out, HE.out, ownsRow_le (by rw [HK2.out, ← HR.out]; exact HO.out) HB.out.size⟩, HB.out.trans (HD.out.mono HB.out.size)⟩

set_option maxRecDepth 100000 in
theorem iMean_no (a b : Int) (a1 : Option Addr) (n c1 : Nat) (w : World) (h1 : fieldOk a b n = false) :
    Calls Try.prog 23 #[GV a b, .slice a1 n c1] w fun e w' => e = .returned (.tuple #[.slice none 0 0, .bool false]) ∧ Below w.heap.size w w' := by
  have H1 := Lib.hid h1
  obtain ⟨n1, n2, n3, n4⟩ := two_new w (.cells #[.int .i64 a, .int .i64 b] 27) (.cells #[.slice a1 n c1] 24)
  have HB := Lib.hid n3
  have hc := (gp_of n1).cells; have hc0 := hc.1; have hc1 := hc.2; have hc2 := (bx_of n2).cell
  clear h1 n1 n2 n3 n4 hc
  go_enter Try.func23, Try.ntmps23
  go_wp2_with fail
  clear hc0 hc1 hc2
  generalize (w.alloc (.cells #[.int .i64 a, .int .i64 b] 27)).alloc (.cells #[.slice a1 n c1] 24) = w1 at HB ⊢
  refine (iIsField_any a b a1 n c1 _).mono ?_; rw [H1.out]; rintro e w2 ⟨rfl, hb2⟩
  go_wp2_with fail
  go_ret2
  exact ⟨rfl, HB.out.trans (hb2.mono HB.out.size)⟩

theorem iMeanRow_any (a b : Int) (v : Value) (xs : List Nat) (w : World) (hv : FS .f32 w v xs) (hn : xs.length ≤ 1048576) :
    Calls Try.prog 23 #[GV a b, v] w fun e w' => (∃ r, e = .returned (.tuple #[r, .bool (okMeanRow a b xs)]) ∧ FRes w.heap.size w' r (lenMeanRow a b xs) (mrowF a.toNat b.toNat xs)) ∧ Below w.heap.size w w' := by
  unfold lenMeanRow okMeanRow
  cases h1 : fieldOk a b xs.length with
  | false =>
    rw [if_neg (by simp)]
    obtain ⟨a1, c1, rfl, _⟩ := hv
    exact (iMean_no a b a1 xs.length c1 w h1).mono fun e w' ⟨he, hb⟩ => ⟨⟨_, he, fres_none _ _ _⟩, hb⟩
  | true =>
    have hA := fieldOk_true h1
    obtain ⟨A, rfl⟩ : ∃ A : Nat, a = (A : Int) := ⟨a.toNat, by omega⟩
    obtain ⟨B, rfl⟩ : ∃ B : Nat, b = (B : Int) := ⟨b.toNat, by omega⟩
    rw [if_pos rfl, Int.toNat_natCast, Int.toNat_natCast]
    exact iMean_yes A B v xs w hv h1
end Go.Proofs.Ytlfnbnhbobohlaa
