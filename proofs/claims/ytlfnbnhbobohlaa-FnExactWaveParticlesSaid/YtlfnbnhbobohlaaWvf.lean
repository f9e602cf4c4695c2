/-
  Fields of one mode, of the program and of the model.
-/
import Derived.Test.YtlfnbnhbobohlaaFbn
import Derived.Test.YtlfnbnhbobohlaaMdn
import Derived.Test.YtlfnbnhbobohlaaSprS
namespace Go.Proofs.Ytlfnbnhbobohlaa
open Go.Fl Go.RowKit
open Go.Joins (ownsRow_le)
set_option linter.unusedSimpArgs false
set_option linter.unusedVariables false

def waveV (a m : Int) (X T : Nat) (u : Int) : Nat := fop .mul .f32 X (sineT (fop .add .f32 (fop .mul .f32 (floatOfInt .f32 m) (fop .quo .f32 (floatOfInt .f32 u) (floatOfInt .f32 a))) T))
def waveF (a m : Int) (X T : Nat) (j : Nat) : Nat := waveV a m X T ((j % a.toNat : Nat) : Int)
def okWaveField (a b m : Int) (X T : Nat) : Bool := gridOk a b && (decide (0 ≤ m ∧ m ≤ a) && (fin .f32 X && fin .f32 T))
def lenWaveField (a b m : Int) (X T : Nat) : Nat := if okWaveField a b m X T then (a * b).toNat else 0
theorem lenWaveField_le (a b m : Int) (X T : Nat) : lenWaveField a b m X T ≤ 1048576 := by
  unfold lenWaveField
  split
  · rename_i h
    unfold okWaveField at h
    rw [Bool.and_eq_true] at h
    obtain ⟨h3, h4, h5, h6⟩ := gridOk_true h.1
    have hm1 : a * b ≤ 16 * 16 := Int.mul_le_mul h4 h6 (by omega) (by omega)
    omega
  · omega
theorem okWv_yes {a b m : Int} {X T : Nat} (h1 : gridOk a b = true) (h2 : decide (0 ≤ m ∧ m ≤ a) = true) (h3 : fin .f32 X = true) (h4 : fin .f32 T = true) : okWaveField a b m X T = true ∧ lenWaveField a b m X T = (a * b).toNat := by
  have e : okWaveField a b m X T = true := by unfold okWaveField; rw [h1, h2, h3, h4]; rfl
  exact ⟨e, by unfold lenWaveField; rw [if_pos e]⟩
theorem okWv_no {a b m : Int} {X T : Nat} (h : gridOk a b = false ∨ decide (0 ≤ m ∧ m ≤ a) = false ∨ fin .f32 X = false ∨ fin .f32 T = false) : okWaveField a b m X T = false ∧ lenWaveField a b m X T = 0 := by
  have e : okWaveField a b m X T = false := by unfold okWaveField; rcases h with h | h | h | h <;> rw [h] <;> simp
  exact ⟨e, by unfold lenWaveField; rw [if_neg (by rw [e]; simp)]⟩
theorem wave_at {a b m : Int} {X T u v j : Nat} (ha : 4 ≤ a) (hu : (u : Int) < a) (hj : (j : Int) = a * v + u) : waveF a m X T j = waveV a m X T (u : Int) := by
  obtain ⟨n, rfl⟩ := Int.eq_ofNat_of_zero_le (show 0 ≤ a by omega)
  have hj' : j = n * v + u := by exact_mod_cast hj
  unfold waveF
  rw [hj', Int.toNat_natCast, Nat.mul_add_mod, Nat.mod_eq_of_lt (by omega)]
def twoT (X T : Nat) (j : Nat) : Nat := if j = 0 then X else T
theorem allFin2 (X T : Nat) : allFin (twoT X T) 2 = (fin .f32 X && fin .f32 T) := by simp [allFin, twoT, List.range, List.range.loop]
/-- A list of two numbers just laid. -/
theorem fs2_of {w : World} {g x y : Nat} {t : TypeId} (h : w.heap[g]? = some (.cells #[.float .f32 x, .float .f32 y] t)) (hx : x < 2 ^ FloatKind.f32.format.width) (hy : y < 2 ^ FloatKind.f32.format.width) : FS .f32 w (.slice (some ⟨g, 0, none⟩) 2 2) [x, y] := by
  refine ⟨_, _, rfl, Nat.le_refl _, by decide, (by intro u hu; rcases List.mem_cons.1 hu with rfl | hu; exact hx; rcases List.mem_cons.1 hu with rfl | hu; exact hy; cases hu), .inr ⟨g, 0, rfl, (Array.getElem?_eq_some_iff.1 h).1, fun i hi => ?_⟩⟩
  rw [Nat.zero_add, Go.Joins.cell_of_block h]
  have : i = 0 ∨ i = 1 := by simp at hi; omega
  rcases this with rfl | rfl <;> rfl
theorem areFinite2 (x X y T g : Nat) (t : TypeId) (w : World) (h : w.heap[g]? = some (.cells #[.float .f32 x, .float .f32 y] t)) (ix : Is .f32 x X) (iy : Is .f32 y T) :
    Calls Try.prog 81 #[.slice (some ⟨g, 0, none⟩) 2 2] w fun e w' => e = .returned (.bool (fin .f32 X && fin .f32 T)) ∧ ∃ n, w' = w.drewN n := by
  have := areFinite_any _ [x, y] (twoT X T) w (fs2_of h ix.lt iy.lt) (by
    intro j hj
    have : j = 0 ∨ j = 1 := by simp at hj; omega
    rcases this with rfl | rfl
    · exact ix
    · exact iy) (by simp)
  rw [show ([x, y] : List Nat).length = 2 from rfl, allFin2] at this
  exact this

set_option maxHeartbeats 1000000 in
set_option maxRecDepth 100000 in
theorem wave1_any (a b m : Int) (x X y T km kg kx ky : Nat) (u v : Nat) (w : World) (ix : Is .f32 x X) (iy : Is .f32 y T)
    (hm : w.cell? ⟨km, 0, none⟩ = some (.int .i64 m)) (hg : w.cell? ⟨kg, 0, none⟩ = some (.int .i64 a)) (hx : w.cell? ⟨kx, 0, none⟩ = some (.float .f32 x)) (hy : w.cell? ⟨ky, 0, none⟩ = some (.float .f32 y)) :
    Calls Try.prog 83 #[.int .i64 (u : Int), .int .i64 (v : Int), .pointer (some ⟨km, 0, none⟩), .pointer (some ⟨kg, 0, none⟩), .pointer (some ⟨kx, 0, none⟩), .pointer (some ⟨ky, 0, none⟩)] w fun e w' => (∃ r, e = .returned (.float .f32 r) ∧ Is .f32 r (waveV a m X T (u : Int))) ∧ Below w.heap.size w w' := by
  have i1 := intWord32_is m; have i2 := intWord32_is (u : Int); have i3 := intWord32_is a
  have HS := Lib.hid iSineTurns_any
  go_enter Try.func83, Try.ntmps83
  go_wp2_with (first | (apply wpList_farith; rfl; rfl; rfl; rfl; (first | with_reducible assumption | exact Is.const rfl); (first | with_reducible assumption | exact Is.const rfl); intro r n hr) | (apply wpList_same; rfl; rfl; exact U32; exact U32) | ((with_reducible apply Loose.wp_start); kernel_rfl; kernel_rfl) | ((with_reducible apply Loose.start_cons)) | ((with_reducible apply Loose.start_nil)) | ((with_reducible apply Loose.walk_nil); intro n) | ((with_reducible apply Loose.walk_skip); exact rfl; (go_simp; first | done | exact rfl)) | ((with_reducible apply Loose.step_fc); rfl; rfl; rfl; rfl; (first | with_reducible assumption | exact Is.const rfl); (first | with_reducible assumption | exact Is.const rfl); (first | with_reducible assumption | exact rfl); exact rfl; (go_simp; first | done | exact rfl)) | ((with_reducible apply Loose.step_fa); rfl; rfl; rfl; rfl; (first | with_reducible assumption | exact Is.const rfl); (first | with_reducible assumption | exact Is.const rfl); exact rfl; (intro r; go_simp; first | done | exact rfl); intro r hr) | ((with_reducible apply Loose.step_wid); rfl; rfl; (first | with_reducible assumption | exact Is.const rfl); exact U32; exact U64; exact rfl; (intro r; go_simp; first | done | exact rfl); intro r hr) | ((with_reducible apply Loose.step_nar); rfl; rfl; (first | with_reducible assumption | exact Is.const rfl); exact U64; exact U32; (with_reducible assumption); exact rfl; (intro r; go_simp; first | done | exact rfl); intro r hr) | ((with_reducible apply Loose.step_assign); rfl; rfl; (with_reducible assumption); exact rfl; (intro r; go_simp; first | done | exact rfl); intro r hr) | ((with_reducible apply Loose.step_move); rfl; rfl; (with_reducible assumption); exact rfl; (intro r; go_simp; first | done | exact rfl); intro r hr) | ((with_reducible apply Loose.step_same); rfl; rfl; exact U32; exact U32; (first | with_reducible assumption | exact Is.const rfl); exact rfl; (intro r; go_simp; first | done | exact rfl); intro r hr) | ((with_reducible apply Loose.step_same); rfl; rfl; exact U64; exact U64; (first | with_reducible assumption | exact Is.const rfl); exact rfl; (intro r; go_simp; first | done | exact rfl); intro r hr) | ((with_reducible apply Loose.step_callF); rfl; (intro n; go_simp; first | exact ⟨rfl, rfl⟩ | exact rfl); (intro n; go_at_call 84; exact HS.out _ _ (by assumption) _); exact rfl; (intro r; go_simp; first | done | exact rfl); intro r hr) | ((with_reducible apply Loose.step_eq); rfl; (intro n; go_simp; first | done | exact rfl); exact rfl; (go_simp; first | done | exact rfl)))
  go_ret
  exact ⟨⟨_, rfl, by assumption⟩, by first | exact below_drewN (below_drewN (below_drewN (Below.refl _ _) _) _) _ | exact below_drewN (below_drewN (Below.refl _ _) _) _ | exact below_drewN (Below.refl _ _) _⟩

set_option maxHeartbeats 2000000 in
set_option maxRecDepth 100000 in
theorem iWaveField_any (a b m : Int) (x X y T : Nat) (w : World) (hm : -9223372036854775808 ≤ m ∧ m ≤ 9223372036854775807) (ix : Is .f32 x X) (iy : Is .f32 y T) :
    Calls Try.prog 33 #[GV a b, .int .i64 m, .float .f32 x, .float .f32 y] w fun e w' => (∃ r, e = .returned (.tuple #[r, .bool (okWaveField a b m X T)]) ∧ FRes w.heap.size w' r (lenWaveField a b m X T) (waveF a m X T)) ∧ Below w.heap.size w w' := by
  obtain ⟨ok, hok⟩ : ∃ ok, okWaveField a b m X T = ok := ⟨_, rfl⟩
  obtain ⟨N, hN⟩ : ∃ N, lenWaveField a b m X T = N := ⟨_, rfl⟩
  rw [hok, hN]
  have HOK := Lib.hid hok; have HNN := Lib.hid hN; have HM := Lib.hid hm; have IX := Lib.hid ix; have IY := Lib.hid iy
  clear hok hN hm ix iy
  obtain ⟨n1, n2, n3, n4, n5, n6⟩ := four_new w (.cells #[.int .i64 a, .int .i64 b] 27) (.cells #[.int .i64 m] 2) (.cells #[.float .f32 x] 46) (.cells #[.float .f32 y] 46)
  have HG := Lib.hid (gp_of n1); have HMB := Lib.hid (bx_of n2); have HXB := Lib.hid (bx_of n3); have HYB := Lib.hid (bx_of n4); have HB := Lib.hid n5
  clear n1 n2 n3 n4 n5 n6
  have HC := Lib.hid (show ∀ w', Below ((((w.alloc (.cells #[.int .i64 a, .int .i64 b] 27)).alloc (.cells #[.int .i64 m] 2)).alloc (.cells #[.float .f32 x] 46)).alloc (.cells #[.float .f32 y] 46)).heap.size ((((w.alloc (.cells #[.int .i64 a, .int .i64 b] 27)).alloc (.cells #[.int .i64 m] 2)).alloc (.cells #[.float .f32 x] 46)).alloc (.cells #[.float .f32 y] 46)) w' →
      (w'.cell? ⟨w.heap.size, 0, none⟩ = some (.int .i64 a) ∧ w'.cell? ⟨w.heap.size, 1, none⟩ = some (.int .i64 b)) ∧ w'.cell? ⟨w.heap.size + 1, 0, none⟩ = some (.int .i64 m) ∧ w'.cell? ⟨w.heap.size + 1 + 1, 0, none⟩ = some (.float .f32 x) ∧ w'.cell? ⟨w.heap.size + 1 + 1 + 1, 0, none⟩ = some (.float .f32 y) from
    fun w' hb => ⟨HG.out.ever w' hb, (HMB.out.below hb).cell, (HXB.out.below hb).cell, (HYB.out.below hb).cell⟩)
  clear HG HMB HXB HYB
  obtain ⟨⟨c0, c1⟩, c2, c3, c4⟩ := HC.out _ (Below.refl _ _)
  go_enter Try.func33, Try.ntmps33
  go_wp2_with fail
  clear c0 c1 c2 c3 c4
  generalize (((w.alloc (.cells #[.int .i64 a, .int .i64 b] 27)).alloc (.cells #[.int .i64 m] 2)).alloc (.cells #[.float .f32 x] 46)).alloc (.cells #[.float .f32 y] 46) = w1 at HB HC ⊢
  cases h1 : gridOk a b with
  | false =>
    have HR := Lib.hid (okWv_no (m := m) (X := X) (T := T) (.inl h1))
    obtain rfl : ok = false := HOK.out.symm.trans HR.out.1
    obtain rfl : N = 0 := HNN.out.symm.trans HR.out.2
    refine (iValidGrid_any a b _).mono ?_; rw [h1]; rintro e w2 ⟨rfl, hb2⟩
    clear h1
    go_wp2_with fail
    go_ret2
    exact ⟨⟨_, rfl, fres_none _ _ _⟩, HB.out.trans (hb2.mono HB.out.size)⟩
  | true =>
    have H1 := Lib.hid h1
    have HA := Lib.hid (gridOk_true h1)
    refine (iValidGrid_any a b _).mono ?_; rw [h1]; rintro e w2 ⟨rfl, hb2⟩
    have HB2 := Lib.hid hb2
    obtain ⟨⟨c0, c1⟩, c2, c3, c4⟩ := HC.out _ hb2
    clear h1 hb2
    go_wp2_with fail
    clear c0 c1 c2 c3 c4
    have HB3 := Lib.hid (HB2.out.alloc HB2.out.size (.cells #[.int .i64 0, .int .i64 m, .int .i64 a] 2))
    have hnew := heap_alloc_new w2 (.cells #[.int .i64 0, .int .i64 m, .int .i64 a] 2)
    cases h2 : decide (0 ≤ m ∧ m ≤ a) with
    | false =>
      have HR := Lib.hid (okWv_no (b := b) (X := X) (T := T) (.inr (.inl h2)))
      obtain rfl : ok = false := HOK.out.symm.trans HR.out.1
      obtain rfl : N = 0 := HNN.out.symm.trans HR.out.2
      refine (ascend3 0 m a _ 2 _ hnew (by omega) HM.out (by have := HA.out; omega)).mono ?_; rw [h2]; rintro e w' ⟨rfl, k, rfl⟩
      clear h2 hnew
      go_wp2_with fail
      go_ret2
      exact ⟨⟨_, rfl, fres_none _ _ _⟩, HB.out.trans ((below_drewN HB3.out k).mono HB.out.size)⟩
    | true =>
      have H2 := Lib.hid h2
      refine (ascend3 0 m a _ 2 _ hnew (by omega) HM.out (by have := HA.out; omega)).mono ?_; rw [h2]; rintro e w' ⟨rfl, k, rfl⟩
      have HB4 := Lib.hid (below_drewN HB3.out k)
      obtain ⟨⟨c0, c1⟩, c2, c3, c4⟩ := HC.out _ HB4.out
      clear h2 hnew
      generalize (w2.alloc (.cells #[.int .i64 0, .int .i64 m, .int .i64 a] 2)).drewN k = w4 at HB4 c0 c1 c2 c3 c4 ⊢
      go_wp2_with fail
      clear c0 c1 c2 c3 c4
      have HB5 := Lib.hid (HB4.out.alloc HB4.out.size (.cells #[.float .f32 x, .float .f32 y] 46))
      have hnew := heap_alloc_new w4 (.cells #[.float .f32 x, .float .f32 y] 46)
      refine (areFinite2 x X y T _ 46 _ hnew IX.out IY.out).mono ?_
      clear hnew
      cases h3 : (fin .f32 X && fin .f32 T) with
      | false =>
        have HR := Lib.hid (okWv_no (a := a) (b := b) (m := m) (X := X) (T := T) (by
          cases h5 : fin .f32 X with
          | false => exact .inr (.inr (.inl rfl))
          | true => rw [h5, Bool.true_and] at h3; exact .inr (.inr (.inr h3))))
        obtain rfl : ok = false := HOK.out.symm.trans HR.out.1
        obtain rfl : N = 0 := HNN.out.symm.trans HR.out.2
        rintro e w' ⟨rfl, n, rfl⟩
        clear h3
        go_wp2_with fail
        go_ret2
        exact ⟨⟨_, rfl, fres_none _ _ _⟩, HB.out.trans ((below_drewN HB5.out n).mono HB.out.size)⟩
      | true =>
        rw [Bool.and_eq_true] at h3
        have HR := Lib.hid (okWv_yes (m := m) H1.out H2.out h3.1 h3.2)
        obtain rfl : ok = true := HOK.out.symm.trans HR.out.1
        obtain rfl : N = (a * b).toNat := HNN.out.symm.trans HR.out.2
        rintro e w' ⟨rfl, n, rfl⟩
        have HB6 := Lib.hid (below_drewN HB5.out n)
        obtain ⟨⟨c0, c1⟩, c2, c3, c4⟩ := HC.out _ HB6.out
        clear h3
        generalize (w4.alloc (.cells #[.float .f32 x, .float .f32 y] 46)).drewN n = w6 at HB6 c0 c1 c2 c3 c4 ⊢
        have HNI := Lib.hid (show (((a * b).toNat : Nat) : Int) = a * b by
          have := HA.out; have h4 : 4 * 4 ≤ a * b := Int.mul_le_mul this.1 this.2.2.1 (by omega) (by omega)
          omega)
        go_wp2_with fail
        clear c0 c1 c2 c3 c4
        have HT := Lib.hid (show TellsN w6 83 #[.pointer (some ⟨w.heap.size + 1, 0, none⟩), .pointer (some ⟨w.heap.size, 0, none⟩), .pointer (some ⟨w.heap.size + 1 + 1, 0, none⟩), .pointer (some ⟨w.heap.size + 1 + 1 + 1, 0, none⟩)] a b (waveF a m X T) from
          ⟨enters_of Try.func83 (by kernel_rfl) rfl, fun u v j wr hu hv hj hb => by
            obtain ⟨⟨d0, d1⟩, d2, d3, d4⟩ := HC.out _ (HB6.out.trans (hb.mono HB6.out.size))
            rw [wave_at (b := b) HA.out.1 hu hj]
            exact wave1_any a b m x X y T _ _ _ _ u v wr IX.out IY.out d2 d0 d3 d4⟩)
        refine (fieldByN_any a b (a * b).toNat _ _ _ _ H1.out HNI.out HT.out).mono ?_; rintro e w7 ⟨⟨r, rfl, hr⟩, hb7⟩
        go_wp2_with fail
        go_ret2
        exact ⟨⟨_, rfl, fres_le hr (Nat.le_trans HB.out.size HB6.out.size)⟩, HB.out.trans ((HB6.out.trans (hb7.mono HB6.out.size)).mono HB.out.size)⟩

set_option maxHeartbeats 2000000 in
set_option maxRecDepth 100000 in
theorem sWave_yes (a b m : Int) (x X y T : Nat) (n : Nat) (w : World) (ix : Is .f32 x X) (iy : Is .f32 y T) (h1 : gridOk a b = true) (h2 : decide (0 ≤ m ∧ m ≤ a) = true) (h3 : fin .f32 X = true) (h4 : fin .f32 T = true) (hn : (n : Int) = a * b) (hn256 : n ≤ 256) :
    Calls Try.prog 32 #[GV a b, .int .i64 m, .float .f32 x, .float .f32 y] w fun e w' => (∃ r, e = .returned (.tuple #[r, .bool true]) ∧ FRes w.heap.size w' r n (waveF a m X T)) ∧ Below w.heap.size w w' := by
  obtain ⟨i0, hi, hz0, hz1, hz2⟩ := info_parts F32info
  have IX := Lib.hid ix; have IY := Lib.hid iy
  have H1 := Lib.hid h1; have H2 := Lib.hid h2; have H3 := Lib.hid h3; have H4 := Lib.hid h4; have HN := Lib.hid hn; have HN2 := Lib.hid hn256
  have HA := Lib.hid (gridOk_true h1)
  have HP := Lib.hid (gp_new w a b 27)
  have HB0 := Lib.hid ((Below.refl w.heap.size w).alloc (Nat.le_refl _) (.cells #[.int .i64 a, .int .i64 b] 27))
  have c0 := HP.out.cells.1; have c1 := HP.out.cells.2
  clear h1 h2 h3 h4 ix iy hn hn256
  go_enter Try.func32, Try.ntmps32
  go_wp2_with fail
  clear c0 c1
  generalize w.alloc (.cells #[.int .i64 a, .int .i64 b] 27) = w1 at HB0 HP ⊢
  refine (sIs_any _ a b _ HP.out).mono ?_; rw [H1.out]; rintro e w' ⟨rfl, rfl⟩
  have c0 := HP.out.cells.1; have c1 := HP.out.cells.2
  go_wp2_with fail
  refine (sIn_any m 0 a _).mono ?_; rw [H2.out]; rintro e w' ⟨rfl, rfl⟩
  go_wp2_with fail
  refine (sFinite5_any _ _ IX.out _).mono ?_; rw [H3.out]; rintro e w' ⟨rfl, k1, rfl⟩
  go_wp2_with fail
  refine (sFinite5_any _ _ IY.out _).mono ?_; rw [H4.out]; rintro e w' ⟨rfl, k2, rfl⟩
  have HB2 := Lib.hid (below_drewN (below_drewN HB0.out k1) k2)
  have HP2 := Lib.hid (GP.drewN (GP.drewN HP.out k1) k2)
  clear c0 c1
  generalize (w1.drewN k1).drewN k2 = w2 at HB2 HP2 ⊢
  go_wp2_with fail
  have HO0 := Lib.hid (own_start w2.heap.size w2 (Nat.le_refl _))
  have HB3 := Lib.hid ((Below.refl w2.heap.size w2).alloc (Nat.le_refl _) (.cells #[] 46))
  generalize w2.alloc (.cells #[] 46) = w3 at HO0 HB3 ⊢
  go_loopw [10, 11] (fun l i wr => ∃ (v : Nat) (rs : List Nat), i = .int .i64 (v : Int) ∧ (v : Int) ≤ b ∧ Hid ((rs.length : Int) = a * v) ∧ Hid (Eqs rs (waveF a m X T)) ∧ (∃ gg cap, l = .slice (some ⟨gg, 0, none⟩) rs.length cap ∧ Hid (wr.ownsRow w2.heap.size 46 1 l rs.length (rs.map (Value.float .f32)))) ∧ Hid (Below w2.heap.size w2 wr)) (fun _ i _ => (b - intOf i).toNat)
  case atStart => exact ⟨0, [], rfl, by have := HA.out; omega, Lib.hid (by simp), Lib.hid (Eqs.nil _), ⟨_, _, rfl, HO0⟩, HB3⟩
  case round =>
    clear HO0 HB3
    obtain ⟨v, rs, rfl, hv, HL, HE, ⟨gg, cap, rfl, HO⟩, HB⟩ := hrel
    have hb16 : b ≤ 16 := HA.out.2.2.2
    have c0 := (GP.below HP2.out HB.out).cells.1; have c1 := (GP.below HP2.out HB.out).cells.2
    by_cases hlt : (v : Int) < b
    · go_wp2_with fail
      go_loopw [10, 12] (fun l i wr => ∃ (u : Nat) (rs : List Nat), i = .int .i64 (u : Int) ∧ (u : Int) ≤ a ∧ Hid ((rs.length : Int) = a * v + u) ∧ Hid (Eqs rs (waveF a m X T)) ∧ (∃ gg cap, l = .slice (some ⟨gg, 0, none⟩) rs.length cap ∧ Hid (wr.ownsRow w2.heap.size 46 1 l rs.length (rs.map (Value.float .f32)))) ∧ Hid (Below w2.heap.size w2 wr)) (fun _ i _ => (a - intOf i).toNat)
      case atStart => exact ⟨0, rs, rfl, by have := HA.out; omega, Lib.hid (by have := HL.out; omega), HE, ⟨_, _, rfl, HO⟩, HB⟩
      case round =>
        clear HL HE HO HB c0 c1
        obtain ⟨u, ss, rfl, hu, HL, HE, ⟨gg, cap, rfl, HO⟩, HB⟩ := hrel
        have ha16 : a ≤ 16 := HA.out.2.1
        have c0 := (GP.below HP2.out HB.out).cells.1; have c1 := (GP.below HP2.out HB.out).cells.2
        by_cases hlu : (u : Int) < a
        · have hm : a * ((v : Int) + 1) ≤ a * b := Int.mul_le_mul_of_nonneg_left (by omega) (by have := HA.out; omega)
          rw [Int.mul_add, Int.mul_one] at hm
          have HL2 := Lib.hid (show ss.length < n by have := HL.out; have := HN.out; omega)
          have HS2 := Lib.hid (show ss.length ≤ 256 by have := HL2.out; have := HN2.out; omega)
          have HF := Lib.hid (show waveF a m X T ss.length = fop .mul .f32 X (sineT (fop .add .f32 (fop .mul .f32 (floatOfInt .f32 m) (fop .quo .f32 (floatOfInt .f32 (u : Int)) (floatOfInt .f32 a))) T)) from wave_at (b := b) HA.out.1 hlu HL.out)
          have i1 := intWord32_is m; have i2 := intWord32_is (u : Int); have i3 := intWord32_is a
          have ix := IX.out; have iy := IY.out
          have hs256 : ss.length ≤ 256 := HS2.out
          clear hm
          go_wp2_with (first | (apply wpList_farith; rfl; rfl; rfl; rfl; (first | with_reducible assumption | exact Is.const rfl); (first | with_reducible assumption | exact Is.const rfl); intro r n hr) | fail)
          refine (sSine_any _ _ (by assumption) _).mono ?_; rintro e w' ⟨⟨r1, rfl, hr1⟩, k3, rfl⟩
          go_wp2_with (first | (apply wpList_farith; rfl; rfl; rfl; rfl; (first | with_reducible assumption | exact Is.const rfl); (first | with_reducible assumption | exact Is.const rfl); intro r n hr) | (at_builtin; refine wpList_append_lies _ rfl _ _ _ rfl w2.heap.size 46 i0 _ 1 4 Try.underlying24 hi hz0 hz1 hz2 rfl (by omega) (.slice (some ⟨gg, 0, none⟩) ss.length cap) ss.length (ss.map (Value.float .f32)) rfl (own_next HO.out _ r) ⟨wr.heap.size, 0, none⟩ 1 1 [.float .f32 r] rfl rfl (World.news_of_block (cs := #[.float .f32 r]) (t := 46) (fr := (0, 0)) (heap_alloc_new _ _)) (by simp [Value.oneCell']) (by omega) (by unfold maxLen; omega) (by omega) (below_next HB.out _ r).size (wr.heap.size + 1) (by simp) ?_; intro g2 cap2 w3 hown4 hgrow hat hltg))
          have hb5 := Lib.hid ((below_next HB.out _ r).grown hgrow (below_next HB.out _ r).size (fun k hk => ((own_next HO.out 0 r).lt k hk).1))
          have HO4 := Lib.hid (show w3.ownsRow w2.heap.size 46 1 (.slice (some ⟨g2, 0, none⟩) (ss ++ [r]).length cap2) (ss ++ [r]).length ((ss ++ [r]).map (Value.float .f32)) by simpa using hown4)
          have HE4 := Lib.hid (HE.out.snoc (r := r) (by rw [HF.out]; assumption))
          have HLN := Lib.hid (show (ss ++ [r]).length = ss.length + 1 by simp)
          have HL4 := Lib.hid (show ((ss ++ [r]).length : Int) = a * v + ((u + 1 : Nat) : Int) by have := HL.out; simp; omega)
          clear hown4 hgrow hat c0 c1
          go_wp2
          go_roundw
          case rel => exact ⟨u + 1, ss ++ [r], by go_num, by omega, HL4, HE4, ⟨g2, cap2, by rw [HLN.out], by rw [HLN.out] at HO4 ⊢; exact HO4⟩, hb5⟩
          case measure => simp [intOf]; omega
        · have hua : (u : Int) = a := by omega
          have HL8 := Lib.hid (show (ss.length : Int) = a * ((v + 1 : Nat) : Int) by have := HL.out; rw [this, hua]; simp [Int.mul_add])
          clear hua
          go_wp2
          go_roundw
          case rel => exact ⟨v + 1, ss, by go_num, by omega, HL8, HE, ⟨_, _, rfl, HO⟩, HB⟩
          case measure => simp [intOf]; omega
    · have hvb : (v : Int) = b := by omega
      have HK2 := Lib.hid (show rs.length = n by have h1 := HL.out; have h2 := HN.out; rw [hvb] at h1; omega)
      clear hvb
      go_wp2
      go_ret2
      exact ⟨⟨_, rfl, rs, HK2.out, HE.out, ownsRow_le HO.out HB2.out.size⟩, HB2.out.trans (HB.out.mono HB2.out.size)⟩

set_option maxHeartbeats 1000000 in
set_option maxRecDepth 100000 in
theorem sWaveField_any (a b m : Int) (x X y T : Nat) (w : World) (hm : -9223372036854775808 ≤ m ∧ m ≤ 9223372036854775807) (ix : Is .f32 x X) (iy : Is .f32 y T) :
    Calls Try.prog 32 #[GV a b, .int .i64 m, .float .f32 x, .float .f32 y] w fun e w' => (∃ r, e = .returned (.tuple #[r, .bool (okWaveField a b m X T)]) ∧ FRes w.heap.size w' r (lenWaveField a b m X T) (waveF a m X T)) ∧ Below w.heap.size w w' := by
  obtain ⟨ok, hok⟩ : ∃ ok, okWaveField a b m X T = ok := ⟨_, rfl⟩
  obtain ⟨N, hN⟩ : ∃ N, lenWaveField a b m X T = N := ⟨_, rfl⟩
  rw [hok, hN]
  have HOK := Lib.hid hok; have HNN := Lib.hid hN; have IX := Lib.hid ix; have IY := Lib.hid iy
  clear hok hN hm
  cases h1 : gridOk a b with
  | false =>
    have HR := Lib.hid (okWv_no (m := m) (X := X) (T := T) (.inl h1))
    obtain rfl : ok = false := HOK.out.symm.trans HR.out.1
    obtain rfl : N = 0 := HNN.out.symm.trans HR.out.2
    have H1 := Lib.hid h1
    have HP := Lib.hid (gp_new w a b 27)
    have HB0 := Lib.hid ((Below.refl w.heap.size w).alloc (Nat.le_refl _) (.cells #[.int .i64 a, .int .i64 b] 27))
    clear h1 ix iy
    go_enter Try.func32, Try.ntmps32
    go_wp2_with fail
    generalize w.alloc (.cells #[.int .i64 a, .int .i64 b] 27) = w1 at HB0 HP ⊢
    refine (sIs_any _ a b _ HP.out).mono ?_; rw [H1.out]; rintro e w' ⟨rfl, rfl⟩
    go_wp2_with fail
    go_ret2
    exact ⟨⟨_, rfl, fres_none _ _ _⟩, HB0.out⟩
  | true =>
    have HA := gridOk_true h1
    have H1 := Lib.hid h1
    cases h2 : decide (0 ≤ m ∧ m ≤ a) with
    | false =>
      have HR := Lib.hid (okWv_no (b := b) (X := X) (T := T) (.inr (.inl h2)))
      obtain rfl : ok = false := HOK.out.symm.trans HR.out.1
      obtain rfl : N = 0 := HNN.out.symm.trans HR.out.2
      have H2 := Lib.hid h2
      have HP := Lib.hid (gp_new w a b 27)
      have HB0 := Lib.hid ((Below.refl w.heap.size w).alloc (Nat.le_refl _) (.cells #[.int .i64 a, .int .i64 b] 27))
      have c0 := HP.out.cells.1; have c1 := HP.out.cells.2
      clear h1 h2 ix iy HA
      go_enter Try.func32, Try.ntmps32
      go_wp2_with fail
      generalize w.alloc (.cells #[.int .i64 a, .int .i64 b] 27) = w1 at HB0 HP c0 c1 ⊢
      refine (sIs_any _ a b _ HP.out).mono ?_; rw [H1.out]; rintro e w' ⟨rfl, rfl⟩
      go_wp2_with fail
      refine (sIn_any m 0 a _).mono ?_; rw [H2.out]; rintro e w' ⟨rfl, rfl⟩
      go_wp2_with fail
      go_ret2
      exact ⟨⟨_, rfl, fres_none _ _ _⟩, HB0.out⟩
    | true =>
      cases h3 : fin .f32 X with
      | false =>
        have HR := Lib.hid (okWv_no (a := a) (b := b) (m := m) (T := T) (.inr (.inr (.inl h3))))
        obtain rfl : ok = false := HOK.out.symm.trans HR.out.1
        obtain rfl : N = 0 := HNN.out.symm.trans HR.out.2
        have H2 := Lib.hid h2; have H3 := Lib.hid h3
        have HP := Lib.hid (gp_new w a b 27)
        have HB0 := Lib.hid ((Below.refl w.heap.size w).alloc (Nat.le_refl _) (.cells #[.int .i64 a, .int .i64 b] 27))
        have c0 := HP.out.cells.1; have c1 := HP.out.cells.2
        clear h1 h2 h3 ix iy HA
        go_enter Try.func32, Try.ntmps32
        go_wp2_with fail
        generalize w.alloc (.cells #[.int .i64 a, .int .i64 b] 27) = w1 at HB0 HP c0 c1 ⊢
        refine (sIs_any _ a b _ HP.out).mono ?_; rw [H1.out]; rintro e w' ⟨rfl, rfl⟩
        go_wp2_with fail
        refine (sIn_any m 0 a _).mono ?_; rw [H2.out]; rintro e w' ⟨rfl, rfl⟩
        go_wp2_with fail
        refine (sFinite5_any _ _ IX.out _).mono ?_; rw [H3.out]; rintro e w' ⟨rfl, k1, rfl⟩
        go_wp2_with fail
        go_ret2
        exact ⟨⟨_, rfl, fres_none _ _ _⟩, below_drewN HB0.out _⟩
      | true =>
        cases h4 : fin .f32 T with
        | false =>
          have HR := Lib.hid (okWv_no (a := a) (b := b) (m := m) (X := X) (.inr (.inr (.inr h4))))
          obtain rfl : ok = false := HOK.out.symm.trans HR.out.1
          obtain rfl : N = 0 := HNN.out.symm.trans HR.out.2
          have H2 := Lib.hid h2; have H3 := Lib.hid h3; have H4 := Lib.hid h4
          have HP := Lib.hid (gp_new w a b 27)
          have HB0 := Lib.hid ((Below.refl w.heap.size w).alloc (Nat.le_refl _) (.cells #[.int .i64 a, .int .i64 b] 27))
          have c0 := HP.out.cells.1; have c1 := HP.out.cells.2
          clear h1 h2 h3 h4 ix iy HA
          go_enter Try.func32, Try.ntmps32
          go_wp2_with fail
          generalize w.alloc (.cells #[.int .i64 a, .int .i64 b] 27) = w1 at HB0 HP c0 c1 ⊢
          refine (sIs_any _ a b _ HP.out).mono ?_; rw [H1.out]; rintro e w' ⟨rfl, rfl⟩
          go_wp2_with fail
          refine (sIn_any m 0 a _).mono ?_; rw [H2.out]; rintro e w' ⟨rfl, rfl⟩
          go_wp2_with fail
          refine (sFinite5_any _ _ IX.out _).mono ?_; rw [H3.out]; rintro e w' ⟨rfl, k1, rfl⟩
          go_wp2_with fail
          refine (sFinite5_any _ _ IY.out _).mono ?_; rw [H4.out]; rintro e w' ⟨rfl, k2, rfl⟩
          go_wp2_with fail
          go_ret2
          exact ⟨⟨_, rfl, fres_none _ _ _⟩, by first | exact below_drewN (below_drewN HB0.out _) _ | exact below_drewN HB0.out _⟩
        | true =>
          have HR := Lib.hid (okWv_yes (m := m) h1 h2 h3 h4)
          obtain rfl : ok = true := HOK.out.symm.trans HR.out.1
          obtain rfl : N = (a * b).toNat := HNN.out.symm.trans HR.out.2
          have hm1 : a * b ≤ 16 * 16 := Int.mul_le_mul HA.2.1 HA.2.2.2 (by omega) (by omega)
          have hm0 : 4 * 4 ≤ a * b := Int.mul_le_mul HA.1 HA.2.2.1 (by omega) (by omega)
          exact sWave_yes a b m x X y T (a * b).toNat w ix iy h1 h2 h3 h4 (by omega) (by omega)
end Go.Proofs.Ytlfnbnhbobohlaa
