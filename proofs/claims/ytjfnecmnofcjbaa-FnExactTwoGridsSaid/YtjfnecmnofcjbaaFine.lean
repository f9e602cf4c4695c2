/-
  Fields on grids of twice the size, of the program and of the model.
-/
import Derived.Test.YtjfnecmnofcjbaaFby
namespace Go.Proofs.Ytjfnecmnofcjbaa
open Go.Fl Go.RowKit
open Go.Joins (ownsRow_le)
set_option linter.unusedSimpArgs false
set_option linter.unusedVariables false

/-- Where the number of the point u, v of the fine grid comes from. -/
def fnI (a : Int) (u v : Nat) : Nat := u / 2 + a.toNat * (v / 2)
def fnF (a : Int) (xs : List Nat) (j : Nat) : Nat := cn .f32 (xs.getD (fnI a (j % (2 * a).toNat) (j / (2 * a).toNat)) 0)
theorem fnI_facts {a b : Int} {u v : Nat} (ha : 4 ≤ a) (hb : 4 ≤ b) (hu : (u : Int) < 2 * a) (hv : (v : Int) < 2 * b) :
    (fnI a u v : Int) = ((u : Int) / 2) + a * ((v : Int) / 2) ∧ (fnI a u v : Int) = ((u : Int) / 2) % a + a * (((v : Int) / 2) % b) ∧ (fnI a u v : Int) < a * b := by
  have e : (fnI a u v : Int) = ((u : Int) / 2) + a * ((v : Int) / 2) := by
    unfold fnI
    rw [Int.natCast_add, Int.natCast_mul, Int.toNat_of_nonneg (by omega)]
    rfl
  have h1 : a * (((v : Int) / 2) + 1) ≤ a * b := Int.mul_le_mul_of_nonneg_left (by omega) (by omega)
  rw [Int.mul_add, Int.mul_one] at h1
  exact ⟨e, by rw [e, Int.emod_eq_of_lt (by omega) (by omega), Int.emod_eq_of_lt (by omega) (by omega)], by rw [e]; omega⟩
theorem fnF_at {a : Int} (xs : List Nat) {u v j : Nat} (ha : 4 ≤ a) (hu : (u : Int) < 2 * a) (hj : (j : Int) = 2 * a * v + u) : fnF a xs j = cn .f32 (xs.getD (fnI a u v) 0) := by
  obtain ⟨n, rfl⟩ := Int.eq_ofNat_of_zero_le (show 0 ≤ a by omega)
  have hj' : j = 2 * n * v + u := by exact_mod_cast hj
  unfold fnF
  rw [show (2 * (n : Int)).toNat = 2 * n by omega, hj', Nat.mul_add_mod, Nat.mod_eq_of_lt (by omega), Nat.mul_add_div (by omega), Nat.div_eq_of_lt (show u < 2 * n by omega), Nat.add_zero]

def okFineField (a b : Int) (xs : List Nat) : Bool := fieldOk a b xs.length && decide (2 * a ≤ 16) && decide (2 * b ≤ 16)
def lenFineField (a b : Int) (xs : List Nat) : Nat := if okFineField a b xs then (2 * a * (2 * b)).toNat else 0
def wiFineField (a b : Int) (xs : List Nat) : Int := if okFineField a b xs then 2 * a else 0
def hiFineField (a b : Int) (xs : List Nat) : Int := if okFineField a b xs then 2 * b else 0
theorem okFine_true {a b : Int} {xs : List Nat} (h : okFineField a b xs = true) : fieldOk a b xs.length = true ∧ 2 * a ≤ 16 ∧ 2 * b ≤ 16 := by
  unfold okFineField at h
  rw [Bool.and_eq_true, Bool.and_eq_true] at h
  exact ⟨h.1.1, of_decide_eq_true h.1.2, of_decide_eq_true h.2⟩
theorem lenFineField_le (a b : Int) (xs : List Nat) (h : xs.length ≤ 1048576) : lenFineField a b xs ≤ 1048576 := by
  unfold lenFineField
  split
  · rename_i hk
    obtain ⟨h1, h2, h3⟩ := okFine_true hk
    have := fieldOk_true h1
    have : 2 * a * (2 * b) ≤ 16 * 16 := Int.mul_le_mul h2 h3 (by omega) (by omega)
    omega
  · omega

set_option maxHeartbeats 400000 in
set_option maxRecDepth 100000 in
theorem fine1_any (a b : Int) (t : Value) (xs : List Nat) (c1 c2 : Value) (w : World) (hu : FS .f32 w t xs) (h1 : fieldOk a b xs.length = true) (h2 : 2 * a ≤ 16 ∧ 2 * b ≤ 16) (hc1 : BX w c1 t) (hc2 : GP w c2 a b) :
    Tells w 223 c1 c2 (2 * a) (2 * b) (fnF a xs) := by
  refine ⟨enters_of Try.func223 (by kernel_rfl) rfl, ?_⟩
  intro u v j wr hu1 hv1 hj hbel
  have HU := Lib.hid hu
  have HA := Lib.hid (fieldOk_true h1)
  obtain ⟨a1, cap1, rfl, hlc, hcm, hwf, hmem⟩ := hu
  have hb1 := hc1.below hbel
  have hg1 := hc2.below hbel
  obtain ⟨k1, rfl, hk1, hc⟩ := hb1
  obtain ⟨k2, rfl, hk2, hg0, hg1⟩ := hg1
  obtain ⟨e1, e2, e3⟩ := fnI_facts HA.out.1 HA.out.2.2.1 hu1 hv1
  have hF := fnF_at xs HA.out.1 hu1 hj
  generalize fnI a u v = k at e1 e2 e3 hF
  have hkl : k < xs.length := by have := HA.out.2.2.2.2.1; omega
  obtain ⟨bk, ok, e4, hcx⟩ := FS.at HU.out hbel hkl
  obtain rfl := e4
  have HC := Lib.hid (FS.ever HU.out hkl)
  have ix := FS.is hwf k hkl
  generalize cn .f32 (xs.getD k 0) = X at ix hF
  generalize xs.getD k 0 = x0 at hcx ix HC
  have HF := Lib.hid hF
  have HE2 := Lib.hid e2
  have i1 : (0 : Int) ≤ (k : Int) := Int.natCast_nonneg _
  have i2 : (k : Int) < (xs.length : Int) := by omega
  have hq1 : IntKind.i64.wrap ((u : Int) / 2) = (u : Int) / 2 := by rw [wrap_i64]; exact wrap64_of (by omega) (by omega)
  have hq2 : IntKind.i64.wrap ((v : Int) / 2) = (v : Int) / 2 := by rw [wrap_i64]; exact wrap64_of (by omega) (by omega)
  clear hF e2 e1 e3 hmem hlc hcm h1 hc1 hc2
  have hd3 := (Below.refl wr.heap.size wr).drew
  have hA : 4 ≤ a ∧ a ≤ 16 ∧ 4 ≤ b ∧ b ≤ 16 := ⟨HA.out.1, HA.out.2.1, HA.out.2.2.1, HA.out.2.2.2.1⟩
  go_enter Try.func223, Try.ntmps223
  go_wp2_with fail
  refine wp_region_noPanic ?_
  refine wp_region_held_drew (S := fun w' => w'.cell? ⟨k1, 0, none⟩ = some (.slice (some ⟨bk, ok, none⟩) xs.length cap1) ∧ w'.cell? ⟨k2, 0, none⟩ = some (.int .i64 a) ∧ w'.cell? ⟨k2, 1, none⟩ = some (.int .i64 b) ∧ w'.cell? ⟨bk, ok + k, none⟩ = some (.float .f32 x0)) (by kernel_rfl) ⟨hc, hg0, hg1, hcx⟩ (fun hHeld => ?_)
  ((refine wpAnyH_take (i := 0) (v := ?_) rfl (by kernel_rfl) (by kernel_rfl) (by kernel_rfl) (fun _ _ _ h => h) (Or.inl ⟨by rfl, ?_⟩) (by assumption) ?_; rotate_left; (· intro w hSw; (try dsimp only at hSw); go_simp; first | done | with_reducible rfl); (try simp only [List.getElem_toArray, List.getElem_cons_zero, List.getElem_cons_succ, Act.put, List.setIfInBounds_toArray, List.set_cons_zero, List.set_cons_succ])); (refine wpAnyH_take (i := 1) (v := ?_) rfl (by kernel_rfl) (by kernel_rfl) (by kernel_rfl) (fun _ _ _ h => h) (Or.inl ⟨by rfl, ?_⟩) (by assumption) ?_; rotate_left; (· intro w hSw; (try dsimp only at hSw); go_simp; first | done | with_reducible rfl); (try simp only [List.getElem_toArray, List.getElem_cons_zero, List.getElem_cons_succ, Act.put, List.setIfInBounds_toArray, List.set_cons_zero, List.set_cons_succ])); (refine wpAnyH_take (i := 2) (v := ?_) rfl (by kernel_rfl) (by kernel_rfl) (by kernel_rfl) (fun _ _ _ h => h) (Or.inl ⟨by rfl, ?_⟩) (by assumption) ?_; rotate_left; (· intro w hSw; (try dsimp only at hSw); go_simp; first | done | with_reducible rfl); (try simp only [List.getElem_toArray, List.getElem_cons_zero, List.getElem_cons_succ, Act.put, List.setIfInBounds_toArray, List.set_cons_zero, List.set_cons_succ])); (refine wpAnyH_take (i := 3) (v := ?_) rfl (by kernel_rfl) (by kernel_rfl) (by kernel_rfl) (fun _ _ _ h => h) (Or.inl ⟨by rfl, ?_⟩) (by assumption) ?_; rotate_left; (· intro w hSw; (try dsimp only at hSw); go_simp; first | done | with_reducible rfl); (try simp only [List.getElem_toArray, List.getElem_cons_zero, List.getElem_cons_succ, Act.put, List.setIfInBounds_toArray, List.set_cons_zero, List.set_cons_succ])); (refine wpAnyH_take (i := 4) (v := ?_) rfl (by kernel_rfl) (by kernel_rfl) (by kernel_rfl) (fun _ _ _ h => h) (Or.inl ⟨by rfl, ?_⟩) (by assumption) ?_; rotate_left; (· intro w hSw; (try dsimp only at hSw); go_simp; first | done | with_reducible rfl); (try simp only [List.getElem_toArray, List.getElem_cons_zero, List.getElem_cons_succ, Act.put, List.setIfInBounds_toArray, List.set_cons_zero, List.set_cons_succ])); (refine wpAnyH_take (i := 5) (v := ?_) rfl (by kernel_rfl) (by kernel_rfl) (by kernel_rfl) (fun _ _ _ h => h) (Or.inl ⟨by rfl, ?_⟩) (by assumption) ?_; rotate_left; (· intro w hSw; (try dsimp only at hSw); go_simp; first | done | with_reducible rfl); (try simp only [List.getElem_toArray, List.getElem_cons_zero, List.getElem_cons_succ, Act.put, List.setIfInBounds_toArray, List.set_cons_zero, List.set_cons_succ])))
  (refine wpAnyH_ready (rs := [6]) (by kernel_rfl) (by simp) ?_; refine AllReadyH.cons (i := 6) rfl (fun K hK => ?_) AllReadyH.nil)
  go_simp
  refine (indexOf_any a b ((u : Int) / 2) ((v : Int) / 2) k _ ⟨hA.1, hA.2.1⟩ ⟨hA.2.2.1, hA.2.2.2⟩ HE2.out).mono ?_; rintro e w5 ⟨rfl, hb5⟩
  have HD5 := Lib.hid (hd3.trans (hb5.mono hd3.size))
  clear hb5
  go_wp2_with fail
  (refine hK.out _ _ (⟨by rw [HD5.out.cell (p := ⟨k1, 0, none⟩) hk1]; exact hc, by rw [HD5.out.cell (p := ⟨k2, 0, none⟩) hk2]; exact hg0, by rw [HD5.out.cell (p := ⟨k2, 1, none⟩) hk2]; exact hg1, HC.out _ (hbel.trans (HD5.out.mono hbel.size))⟩) (fun hHeld => ?_); clear hK K; (try simp only [List.getElem_toArray, List.getElem_cons_zero, List.getElem_cons_succ, Act.put, List.setIfInBounds_toArray, List.set_cons_zero, List.set_cons_succ]))
  ((refine wpAnyH_take (i := 7) (v := ?_) rfl (by kernel_rfl) (by kernel_rfl) (by kernel_rfl) (fun _ _ _ h => h) (Or.inl ⟨by rfl, ?_⟩) (by assumption) ?_; rotate_left; (· intro w hSw; (try dsimp only at hSw); go_simp; first | done | with_reducible rfl); (try simp only [List.getElem_toArray, List.getElem_cons_zero, List.getElem_cons_succ, Act.put, List.setIfInBounds_toArray, List.set_cons_zero, List.set_cons_succ])); (refine wpAnyH_take (i := 8) (v := ?_) rfl (by kernel_rfl) (by kernel_rfl) (by kernel_rfl) (fun _ _ _ h => h) (Or.inl ⟨by rfl, ?_⟩) (by assumption) ?_; rotate_left; (· intro w hSw; (try dsimp only at hSw); go_simp; first | done | with_reducible rfl); (try simp only [List.getElem_toArray, List.getElem_cons_zero, List.getElem_cons_succ, Act.put, List.setIfInBounds_toArray, List.set_cons_zero, List.set_cons_succ])); (refine wpAnyH_take (i := 9) (v := ?_) rfl (by kernel_rfl) (by kernel_rfl) (by kernel_rfl) (fun _ _ _ h => h) (Or.inl ⟨by rfl, ?_⟩) (by assumption) ?_; rotate_left; (· intro w hSw; (try dsimp only at hSw); go_simp; first | done | with_reducible rfl); (try simp only [List.getElem_toArray, List.getElem_cons_zero, List.getElem_cons_succ, Act.put, List.setIfInBounds_toArray, List.set_cons_zero, List.set_cons_succ])))
  (refine wpAnyH_done (by kernel_rfl) ?_ _; refine NoPanic.normal ?_)
  clear hHeld
  go_wp2
  go_ret
  exact ⟨⟨_, rfl, by rw [HF.out]; exact ix⟩, HD5.out⟩

set_option maxHeartbeats 1000000 in
set_option maxRecDepth 100000 in
theorem sFine_any (p : Value) (a b : Int) (t : Value) (xs : List Nat) (w : World) (hp : GP w p a b) (hu : FS .f32 w t xs) (h1 : fieldOk a b xs.length = true) (h2 : 2 * a ≤ 16 ∧ 2 * b ≤ 16) :
    Calls Try.prog 103 #[p, t] w fun e w' => (∃ r, e = .returned (.tuple #[GV (2 * a) (2 * b), r]) ∧ FRes w.heap.size w' r (2 * a * (2 * b)).toNat (fnF a xs)) ∧ Below w.heap.size w w' := by
  obtain ⟨i0, hi, hz0, hz1, hz2⟩ := info_parts F32info
  have HU := Lib.hid hu
  obtain ⟨a1, c1, rfl, hlc, hcm, hwf, hmem⟩ := hu
  have HA := Lib.hid (fieldOk_true h1)
  obtain ⟨g, rfl, hg, hg0, hg1⟩ := hp
  have hw1 : IntKind.i64.wrap (2 * a) = 2 * a := by have := HA.out; rw [wrap_i64]; exact wrap64_of (by omega) (by omega)
  have hw2 : IntKind.i64.wrap (2 * b) = 2 * b := by have := HA.out; rw [wrap_i64]; exact wrap64_of (by omega) (by omega)
  clear h1 hmem hlc hcm
  go_enter Try.func103, Try.ntmps103
  go_wp2_with fail
  have HB0 := Lib.hid ((Below.refl w.heap.size w).alloc (Nat.le_refl _) (.cells #[.int .i64 0, .int .i64 0] 27))
  have HA0 := Lib.hid (heap_alloc_new w (.cells #[.int .i64 0, .int .i64 0] 27))
  have HS0 := Lib.hid (show w.heap.size < (w.alloc (.cells #[.int .i64 0, .int .i64 0] 27)).heap.size by simp)
  generalize w.alloc (.cells #[.int .i64 0, .int .i64 0] 27) = w1 at HB0 HA0 HS0 ⊢
  have c0 : w1.cell? ⟨g, 0, none⟩ = some (.int .i64 a) := by rw [HB0.out.cell (p := ⟨g, 0, none⟩) hg]; exact hg0
  have c1 : w1.cell? ⟨g, 1, none⟩ = some (.int .i64 b) := by rw [HB0.out.cell (p := ⟨g, 1, none⟩) hg]; exact hg1
  refine wp_region_noPanic ?_
  refine wp_region_held_drew (S := fun w' => w'.cell? ⟨g, 0, none⟩ = some (.int .i64 a) ∧ w'.cell? ⟨g, 1, none⟩ = some (.int .i64 b)) (by kernel_rfl) ⟨c0, c1⟩ (fun hHeld => ?_)
  have HD1 := Lib.hid (Below.refl w1.heap.size w1).drew
  clear c0 c1
  generalize w1.drew = v1 at HD1 hHeld ⊢
  ((refine wpAnyH_take (i := 0) (v := ?_) rfl (by kernel_rfl) (by kernel_rfl) (by kernel_rfl) (fun _ _ _ h => h) (Or.inl ⟨by rfl, ?_⟩) (by assumption) ?_; rotate_left; (· intro w hSw; (try dsimp only at hSw); go_simp; first | done | with_reducible rfl); (try simp only [List.getElem_toArray, List.getElem_cons_zero, List.getElem_cons_succ, Act.put, List.setIfInBounds_toArray, List.set_cons_zero, List.set_cons_succ])); (refine wpAnyH_take (i := 1) (v := ?_) rfl (by kernel_rfl) (by kernel_rfl) (by kernel_rfl) (fun _ _ _ h => h) (Or.inl ⟨by rfl, ?_⟩) (by assumption) ?_; rotate_left; (· intro w hSw; (try dsimp only at hSw); go_simp; first | done | with_reducible rfl); (try simp only [List.getElem_toArray, List.getElem_cons_zero, List.getElem_cons_succ, Act.put, List.setIfInBounds_toArray, List.set_cons_zero, List.set_cons_succ])); (refine wpAnyH_take (i := 2) (v := ?_) rfl (by kernel_rfl) (by kernel_rfl) (by kernel_rfl) (fun _ _ _ h => h) (Or.inl ⟨by rfl, ?_⟩) (by assumption) ?_; rotate_left; (· intro w hSw; (try dsimp only at hSw); go_simp; first | done | with_reducible rfl); (try simp only [List.getElem_toArray, List.getElem_cons_zero, List.getElem_cons_succ, Act.put, List.setIfInBounds_toArray, List.set_cons_zero, List.set_cons_succ])); (refine wpAnyH_take (i := 3) (v := ?_) rfl (by kernel_rfl) (by kernel_rfl) (by kernel_rfl) (fun _ _ _ h => h) (Or.inl ⟨by rfl, ?_⟩) (by assumption) ?_; rotate_left; (· intro w hSw; (try dsimp only at hSw); go_simp; first | done | with_reducible rfl); (try simp only [List.getElem_toArray, List.getElem_cons_zero, List.getElem_cons_succ, Act.put, List.setIfInBounds_toArray, List.set_cons_zero, List.set_cons_succ])); (refine wpAnyH_take (i := 4) (v := ?_) rfl (by kernel_rfl) (by kernel_rfl) (by kernel_rfl) (fun _ _ _ h => h) (Or.inl ⟨by rfl, ?_⟩) (by assumption) ?_; rotate_left; (· intro w hSw; (try dsimp only at hSw); go_simp; first | done | with_reducible rfl); (try simp only [List.getElem_toArray, List.getElem_cons_zero, List.getElem_cons_succ, Act.put, List.setIfInBounds_toArray, List.set_cons_zero, List.set_cons_succ])); (refine wpAnyH_take (i := 5) (v := ?_) rfl (by kernel_rfl) (by kernel_rfl) (by kernel_rfl) (fun _ _ _ h => h) (Or.inl ⟨by rfl, ?_⟩) (by assumption) ?_; rotate_left; (· intro w hSw; (try dsimp only at hSw); go_simp; first | done | with_reducible rfl); (try simp only [List.getElem_toArray, List.getElem_cons_zero, List.getElem_cons_succ, Act.put, List.setIfInBounds_toArray, List.set_cons_zero, List.set_cons_succ])); (refine wpAnyH_take (i := 6) (v := ?_) rfl (by kernel_rfl) (by kernel_rfl) (by kernel_rfl) (fun _ _ _ h => h) (Or.inl ⟨by rfl, ?_⟩) (by assumption) ?_; rotate_left; (· intro w hSw; (try dsimp only at hSw); go_simp; first | done | with_reducible rfl); (try simp only [List.getElem_toArray, List.getElem_cons_zero, List.getElem_cons_succ, Act.put, List.setIfInBounds_toArray, List.set_cons_zero, List.set_cons_succ])); (refine wpAnyH_take (i := 7) (v := ?_) rfl (by kernel_rfl) (by kernel_rfl) (by kernel_rfl) (fun _ _ _ h => h) (Or.inl ⟨by rfl, ?_⟩) (by assumption) ?_; rotate_left; (· intro w hSw; (try dsimp only at hSw); go_simp; first | done | with_reducible rfl); (try simp only [List.getElem_toArray, List.getElem_cons_zero, List.getElem_cons_succ, Act.put, List.setIfInBounds_toArray, List.set_cons_zero, List.set_cons_succ])); (refine wpAnyH_take (i := 8) (v := ?_) rfl (by kernel_rfl) (by kernel_rfl) (by kernel_rfl) (fun _ _ _ h => h) (Or.inl ⟨by rfl, ?_⟩) (by assumption) ?_; rotate_left; (· intro w hSw; (try dsimp only at hSw); go_simp; first | done | with_reducible rfl); (try simp only [List.getElem_toArray, List.getElem_cons_zero, List.getElem_cons_succ, Act.put, List.setIfInBounds_toArray, List.set_cons_zero, List.set_cons_succ])); (refine wpAnyH_take (i := 9) (v := ?_) rfl (by kernel_rfl) (by kernel_rfl) (by kernel_rfl) (fun _ _ _ h => h) (Or.inl ⟨by rfl, ?_⟩) (by assumption) ?_; rotate_left; (· intro w hSw; (try dsimp only at hSw); go_simp; first | done | with_reducible rfl); (try simp only [List.getElem_toArray, List.getElem_cons_zero, List.getElem_cons_succ, Act.put, List.setIfInBounds_toArray, List.set_cons_zero, List.set_cons_succ])); (refine wpAnyH_take (i := 10) (v := ?_) rfl (by kernel_rfl) (by kernel_rfl) (by kernel_rfl) (fun _ _ _ h => h) (Or.inl ⟨by rfl, ?_⟩) (by assumption) ?_; rotate_left; (· intro w hSw; (try dsimp only at hSw); go_simp; first | done | with_reducible rfl); (try simp only [List.getElem_toArray, List.getElem_cons_zero, List.getElem_cons_succ, Act.put, List.setIfInBounds_toArray, List.set_cons_zero, List.set_cons_succ])))
  (refine wpAnyH_ready (rs := [11]) (by kernel_rfl) (by simp) ?_; refine AllReadyH.cons (i := 11) rfl (fun K hK => ?_) AllReadyH.nil)
  go_simp
  go_wp2_with fail
  have HD2 := Lib.hid (HD1.out.alloc HD1.out.size (.cells #[.int .i64 0, .int .i64 0] 27))
  have HA2 := Lib.hid (heap_alloc_new v1 (.cells #[.int .i64 0, .int .i64 0] 27))
  have HK2 := Lib.hid HD1.out.size
  have HS2 := Lib.hid (show v1.heap.size < (v1.alloc (.cells #[.int .i64 0, .int .i64 0] 27)).heap.size by simp)
  generalize v1.alloc (.cells #[.int .i64 0, .int .i64 0] 27) = v2 at HD2 HA2 HS2 ⊢
  generalize v1.heap.size = k1 at HA2 HK2 HS2 ⊢
  have hgl : g < w1.heap.size := Nat.lt_of_lt_of_le hg HB0.out.size
  have hg2 : g ≠ k1 := Nat.ne_of_lt (Nat.lt_of_lt_of_le hgl HK2.out)
  have cc0 : v2.cell? ⟨g, 0, none⟩ = some (.int .i64 a) := by rw [HD2.out.cell (p := ⟨g, 0, none⟩) hgl, HB0.out.cell (p := ⟨g, 0, none⟩) hg]; exact hg0
  have cc1 : v2.cell? ⟨g, 1, none⟩ = some (.int .i64 b) := by rw [HD2.out.cell (p := ⟨g, 1, none⟩) hgl, HB0.out.cell (p := ⟨g, 1, none⟩) hg]; exact hg1
  (refine hK.out _ _ (⟨cc0, cc1⟩) (fun hHeld => ?_); clear hK K; (try simp only [List.getElem_toArray, List.getElem_cons_zero, List.getElem_cons_succ, Act.put, List.setIfInBounds_toArray, List.set_cons_zero, List.set_cons_succ]))
  have z0 : v2.cell? ⟨k1, 0, none⟩ = some (.int .i64 0) := by rw [Joins.cell_of_block HA2.out]; rfl
  have z1 : v2.cell? ⟨k1, 1, none⟩ = some (.int .i64 0) := by rw [Joins.cell_of_block HA2.out]; rfl
  have f0 : v2.frozen? ⟨k1, 0, none⟩ = false := by simp [World.frozen?, HA2.out]
  have f1 : v2.frozen? ⟨k1, 1, none⟩ = false := by simp [World.frozen?, HA2.out]
  (refine wpAnyH_ready (rs := [12]) (by kernel_rfl) (by simp) ?_; refine AllReadyH.cons (i := 12) rfl (fun K hK => ?_) AllReadyH.nil)
  go_simp
  have HD3 := Lib.hid ((HD2.out.setCell (p := ⟨k1, 0, none⟩) HK2.out (.int .i64 (2 * a))).setCell (p := ⟨k1, 1, none⟩) HK2.out (.int .i64 (2 * b)))
  have HP3 := Lib.hid (show GP ((v2.setCell ⟨k1, 0, none⟩ (.int .i64 (2 * a))).setCell ⟨k1, 1, none⟩ (.int .i64 (2 * b))) (.pointer (some ⟨k1, 0, none⟩)) (2 * a) (2 * b) from ⟨k1, rfl, by simpa using HS2.out, by go_simp, by go_simp⟩)
  generalize (v2.setCell ⟨k1, 0, none⟩ (.int .i64 (2 * a))).setCell ⟨k1, 1, none⟩ (.int .i64 (2 * b)) = w3 at HD3 HP3 ⊢
  have ce0 : w3.cell? ⟨g, 0, none⟩ = some (.int .i64 a) := by rw [HD3.out.cell (p := ⟨g, 0, none⟩) hgl, HB0.out.cell (p := ⟨g, 0, none⟩) hg]; exact hg0
  have ce1 : w3.cell? ⟨g, 1, none⟩ = some (.int .i64 b) := by rw [HD3.out.cell (p := ⟨g, 1, none⟩) hgl, HB0.out.cell (p := ⟨g, 1, none⟩) hg]; exact hg1
  (refine hK.out _ _ (⟨ce0, ce1⟩) (fun hHeld => ?_); clear hK K; (try simp only [List.getElem_toArray, List.getElem_cons_zero, List.getElem_cons_succ, Act.put, List.setIfInBounds_toArray, List.set_cons_zero, List.set_cons_succ]))
  (refine wpAnyH_done (by kernel_rfl) ?_ _; refine NoPanic.normal ?_)
  clear cc0 cc1 ce0 ce1 hHeld z0 z1 f0 f1 HD2
  go_wp2_with fail
  have hown0 := own_start w3.heap.size w3 (Nat.le_refl _)
  have hbel0 := (Below.refl w3.heap.size w3).alloc (Nat.le_refl _) (.cells #[] 37)
  generalize w3.alloc (.cells #[] 37) = w4 at hown0 hbel0 ⊢
  have HO0 := Lib.hid hown0
  have HDD := Lib.hid hbel0
  have HG := Lib.hid (show GP w3 (.pointer (some ⟨g, 0, none⟩)) a b from (GP.below ⟨g, rfl, hg, hg0, hg1⟩ (HB0.out.trans (HD3.out.mono HB0.out.size))))
  have HBW := Lib.hid (HB0.out.trans (HD3.out.mono HB0.out.size))
  clear hown0 hbel0 hg0 hg1 hw1 hw2 HK2 HS2
  have hA : 4 ≤ a ∧ a ≤ 16 ∧ 4 ≤ b ∧ b ≤ 16 := ⟨HA.out.1, HA.out.2.1, HA.out.2.2.1, HA.out.2.2.2.1⟩
  go_loopw [7, 8] (fun s i wr => ∃ (v : Nat) (rs : List Nat), i = .int .i64 (v : Int) ∧ (v : Int) ≤ 2 * b ∧ Hid ((rs.length : Int) = 2 * a * v) ∧ Hid (Eqs rs (fnF a xs)) ∧ (∃ g cap, s = .slice (some ⟨g, 0, none⟩) rs.length cap ∧ Hid (wr.ownsRow w3.heap.size 37 1 s rs.length (rs.map (Value.float .f32)))) ∧ Hid (Below w3.heap.size w3 wr)) (fun _ i _ => (2 * b - intOf i).toNat)
  case atStart => exact ⟨0, [], rfl, by omega, Lib.hid (by simp), Lib.hid (Eqs.nil _), ⟨_, _, rfl, HO0⟩, HDD⟩
  case round =>
    clear HO0 HDD
    obtain ⟨v, rs, rfl, hv, HL, HE, ⟨gr, cap, rfl, HO⟩, HD⟩ := hrel
    have hc0 := (HP3.out.ever _ HD.out).1
    have hc1 := (HP3.out.ever _ HD.out).2
    by_cases hlt : (v : Int) < 2 * b
    · go_wp2_with fail
      go_loopw [7, 9] (fun s i wr => ∃ (u : Nat) (rs : List Nat), i = .int .i64 (u : Int) ∧ (u : Int) ≤ 2 * a ∧ Hid ((rs.length : Int) = 2 * a * v + u) ∧ Hid (Eqs rs (fnF a xs)) ∧ (∃ g cap, s = .slice (some ⟨g, 0, none⟩) rs.length cap ∧ Hid (wr.ownsRow w3.heap.size 37 1 s rs.length (rs.map (Value.float .f32)))) ∧ Hid (Below w3.heap.size w3 wr)) (fun _ i _ => (2 * a - intOf i).toNat)
      case atStart => exact ⟨0, rs, rfl, by omega, Lib.hid (by have := HL.out; omega), HE, ⟨gr, cap, rfl, HO⟩, HD⟩
      case round =>
        clear HL HE HO HD hc0 hc1
        obtain ⟨u, ss, rfl, hu, HL, HE, ⟨gr, cap, rfl, HO⟩, HD⟩ := hrel
        have hc0 := (HP3.out.ever _ HD.out).1
        have hc1 := (HP3.out.ever _ HD.out).2
        have he0 := (HG.out.ever _ HD.out).1
        have he1 := (HG.out.ever _ HD.out).2
        by_cases hlu : (u : Int) < 2 * a
        · obtain ⟨e1, e2, e3⟩ := fnI_facts (a := a) (b := b) hA.1 hA.2.2.1 hlu hlt
          have hF := fnF_at xs hA.1 hlu HL.out
          generalize fnI a u v = k at e1 e2 e3 hF
          have hkl : k < xs.length := by have := HA.out.2.2.2.2.1; omega
          obtain ⟨bk, ok, e4, hcx⟩ := FS.at HU.out (HBW.out.trans (HD.out.mono HBW.out.size)) hkl
          obtain rfl := e4
          have ix := FS.is hwf k hkl
          generalize cn .f32 (xs.getD k 0) = X at ix hF
          generalize xs.getD k 0 = x0 at hcx ix
          have HF := Lib.hid hF
          have hm0 : 0 ≤ a * ((v : Int) / 2) := Int.mul_nonneg (by omega) (by omega)
          have hw1 : wrap64 (a * ((v : Int) / 2)) = a * ((v : Int) / 2) := wrap64_of (by omega) (by have := HA.out.2.2.2.2; omega)
          have hw2 : wrap64 ((u : Int) / 2 + a * ((v : Int) / 2)) = (k : Int) := by rw [e1]; exact wrap64_of (by omega) (by have := HA.out.2.2.2.2; omega)
          have i1 : (0 : Int) ≤ (k : Int) := Int.natCast_nonneg _
          have i2 : (k : Int) < (xs.length : Int) := by omega
          have hlen : ss.length < 1024 := by
            have := HL.out
            have hm : 2 * a * ((v : Int) + 1) ≤ 2 * a * (2 * b) := Int.mul_le_mul_of_nonneg_left (by omega) (by omega)
            have hm2 : 2 * a * (2 * b) ≤ 16 * 16 := Int.mul_le_mul h2.1 h2.2 (by omega) (by omega)
            rw [Int.mul_add, Int.mul_one] at hm
            omega
          clear hF e1 e2 e3 hm0
          go_wp2_with (at_builtin; refine wpList_append_lies _ rfl _ _ _ rfl w3.heap.size 37 i0 _ 1 4 Try.underlying24 hi hz0 hz1 hz2 rfl (by omega) (.slice (some ⟨gr, 0, none⟩) ss.length cap) ss.length (ss.map (Value.float .f32)) rfl (own_next0 HO.out x0) ⟨wr.heap.size, 0, none⟩ 1 1 [.float .f32 x0] rfl rfl (World.news_of_block (cs := #[.float .f32 x0]) (t := 37) (fr := (0, 0)) (heap_alloc_new _ _)) (by simp [Value.oneCell']) (by omega) (by unfold maxLen; omega) (by omega) (below_next0 HD.out x0).size (wr.heap.size + 1) (by simp) ?_; intro g2 cap2 w3' hown4 hgrow hat hltg)
          have hb5 := Lib.hid ((below_next0 HD.out x0).grown hgrow (below_next0 HD.out x0).size (fun k hk => ((own_next0 HO.out x0).lt k hk).1))
          have HO4 := Lib.hid (show w3'.ownsRow w3.heap.size 37 1 (.slice (some ⟨g2, 0, none⟩) (ss ++ [x0]).length cap2) (ss ++ [x0]).length ((ss ++ [x0]).map (Value.float .f32)) by simpa using hown4)
          have HE4 := Lib.hid (HE.out.snoc (r := x0) (by rw [HF.out]; exact ix))
          have HL4 := Lib.hid (show (ss ++ [x0]).length = ss.length + 1 by simp)
          have HL7 := Lib.hid (show ((ss ++ [x0]).length : Int) = 2 * a * v + ((u + 1 : Nat) : Int) by have := HL.out; rw [HL4.out]; omega)
          clear hown4 hgrow hat hcx hw1 hw2
          go_wp2
          go_roundw
          case rel => exact ⟨u + 1, ss ++ [x0], by go_num, by omega, HL7, HE4, ⟨g2, cap2, by rw [HL4.out], by rw [HL4.out] at HO4 ⊢; exact HO4⟩, hb5⟩
          case measure => simp [intOf]; omega
        · have hua : (u : Int) = 2 * a := by omega
          have HL8 := Lib.hid (show (ss.length : Int) = 2 * a * ((v + 1 : Nat) : Int) by have := HL.out; rw [this, hua]; simp [Int.mul_add])
          clear hua
          go_wp2
          go_roundw
          case rel => exact ⟨v + 1, ss, by go_num, by omega, HL8, HE, ⟨gr, cap, rfl, HO⟩, HD⟩
          case measure => simp [intOf]; omega
    · have hvb : (v : Int) = 2 * b := by omega
      have HK9 := Lib.hid (show rs.length = (2 * a * (2 * b)).toNat by have h1 := HL.out; rw [hvb] at h1; omega)
      have hk0 : w.heap.size < w3.heap.size := Nat.lt_of_lt_of_le HS0.out HD3.out.size
      have HA3 := (HD3.out.block w.heap.size HS0.out).trans HA0.out
      have HA9 := (HD.out.block w.heap.size hk0).trans HA3
      have y0 : wr.cell? ⟨w.heap.size, 0, none⟩ = some (.int .i64 0) := by rw [Joins.cell_of_block HA9]; rfl
      have y1 : wr.cell? ⟨w.heap.size, 1, none⟩ = some (.int .i64 0) := by rw [Joins.cell_of_block HA9]; rfl
      have f0 : wr.frozen? ⟨w.heap.size, 0, none⟩ = false := by simp [World.frozen?, HA9]
      have f1 : wr.frozen? ⟨w.heap.size, 1, none⟩ = false := by simp [World.frozen?, HA9]
      clear hvb HA3 HA9
      go_wp2
      refine bodyPost_ret (v := .tuple #[GV (2 * a) (2 * b), .slice (some ⟨gr, 0, none⟩) rs.length cap]) (by simp [results, Try.results103, go_sem, y0, y1]) rfl ?_
      have hbw := ((HBW.out.trans (HD.out.mono HBW.out.size)).setCell (p := ⟨w.heap.size, 0, none⟩) (Nat.le_refl _) (.int .i64 (2 * a))).setCell (p := ⟨w.heap.size, 1, none⟩) (Nat.le_refl _) (.int .i64 (2 * b))
      exact ⟨⟨_, rfl, rs, HK9.out, HE.out, ownsRow_le (own_cell (own_cell HO.out hk0 (.int .i64 (2 * a))) hk0 (.int .i64 (2 * b))) (Nat.le_of_lt hk0)⟩, hbw⟩
end Go.Proofs.Ytjfnecmnofcjbaa
