/-
  Fields on grids of half the size, of the program and of the model.
-/
import Derived.Test.YtjfnecmnofcjbaaFby
namespace Go.Proofs.Ytjfnecmnofcjbaa
open Go.Fl Go.RowKit
open Go.Joins (ownsRow_le)
set_option linter.unusedSimpArgs false
set_option linter.unusedVariables false

/-- Where the first number of the point u, v of the coarse grid comes from. -/
def csI (a : Int) (u v : Nat) : Nat := 2 * u + a.toNat * (2 * v)
/-- A quarter of the sum of four numbers. -/
def quarterF (x y z t : Nat) : Nat := fop .mul .f32 1048576000 (fop .add .f32 (fop .add .f32 (fop .add .f32 x y) z) t)
def csN (a : Int) (xs : List Nat) (k : Nat) : Nat := quarterF (cn .f32 (xs.getD k 0)) (cn .f32 (xs.getD (k + 1) 0)) (cn .f32 (xs.getD (k + a.toNat) 0)) (cn .f32 (xs.getD (k + a.toNat + 1) 0))
def csF (a : Int) (xs : List Nat) (j : Nat) : Nat := csN a xs (csI a (j % (a / 2).toNat) (j / (a / 2).toNat))
/-- A side that is halved. -/
def halves (a b : Int) : Prop := a % 2 = 0 ∧ b % 2 = 0 ∧ 8 ≤ a ∧ 8 ≤ b
theorem csI_facts {a b : Int} {u v : Nat} (ha : 4 ≤ a) (h : halves a b) (hu : (u : Int) < a / 2) (hv : (v : Int) < b / 2) :
    (csI a u v : Int) = 2 * (u : Int) + a * (2 * (v : Int)) ∧ (csI a u v : Int) + a + 1 < a * b ∧ 2 * (u : Int) + 1 < a ∧ 2 * (v : Int) + 1 < b := by
  obtain ⟨h1, h2, h3, h4⟩ := h
  have e : (csI a u v : Int) = 2 * (u : Int) + a * (2 * (v : Int)) := by
    unfold csI
    rw [Int.natCast_add, Int.natCast_mul, Int.natCast_mul, Int.natCast_mul, Int.toNat_of_nonneg (by omega)]
    rfl
  have hv2 : 2 * (v : Int) + 1 < b := by omega
  have h5 : a * (2 * (v : Int) + 2) ≤ a * b := Int.mul_le_mul_of_nonneg_left (by omega) (by omega)
  rw [Int.mul_add] at h5
  exact ⟨e, by rw [e]; omega, by omega, hv2⟩
theorem csF_at {a : Int} (xs : List Nat) {u v j : Nat} (ha : 4 ≤ a) (hu : (u : Int) < a / 2) (hj : (j : Int) = a / 2 * v + u) : csF a xs j = csN a xs (csI a u v) := by
  obtain ⟨n, hn⟩ := Int.eq_ofNat_of_zero_le (show 0 ≤ a / 2 by omega)
  rw [hn] at hu hj
  have hj' : j = n * v + u := by exact_mod_cast hj
  unfold csF
  rw [hn, Int.toNat_natCast, hj', Nat.mul_add_mod, Nat.mod_eq_of_lt (by omega), Nat.mul_add_div (by omega), Nat.div_eq_of_lt (show u < n by omega), Nat.add_zero]

def halvesB (a b : Int) : Bool := decide (a % 2 = 0) && decide (b % 2 = 0) && decide (8 ≤ a) && decide (8 ≤ b)
theorem halvesB_true {a b : Int} (h : halvesB a b = true) : halves a b := by
  unfold halvesB at h
  simp only [Bool.and_eq_true, decide_eq_true_eq] at h
  exact ⟨h.1.1.1, h.1.1.2, h.1.2, h.2⟩
def okCoarseField (a b : Int) (xs : List Nat) : Bool := fieldOk a b xs.length && halvesB a b
def lenCoarseField (a b : Int) (xs : List Nat) : Nat := if okCoarseField a b xs then (a / 2 * (b / 2)).toNat else 0
def wiCoarseField (a b : Int) (xs : List Nat) : Int := if okCoarseField a b xs then a / 2 else 0
def hiCoarseField (a b : Int) (xs : List Nat) : Int := if okCoarseField a b xs then b / 2 else 0
theorem okCoarse_true {a b : Int} {xs : List Nat} (h : okCoarseField a b xs = true) : fieldOk a b xs.length = true ∧ halves a b := by
  unfold okCoarseField at h
  rw [Bool.and_eq_true] at h
  exact ⟨h.1, halvesB_true h.2⟩
theorem lenCoarseField_le (a b : Int) (xs : List Nat) (_h : xs.length ≤ 1048576) : lenCoarseField a b xs ≤ 1048576 := by
  unfold lenCoarseField
  split
  · rename_i hk
    obtain ⟨h1, h2⟩ := okCoarse_true hk
    have := fieldOk_true h1
    have : a / 2 * (b / 2) ≤ 16 * 16 := Int.mul_le_mul (by omega) (by omega) (by omega) (by omega)
    omega
  · omega

/-- Four numbers of a field: the facts that a walk of a point wants. -/
theorem four_at {w wr : World} {bk ok cap : Nat} {xs : List Nat} (h : FS .f32 w (.slice (some ⟨bk, ok, none⟩) xs.length cap) xs) (hb : Below w.heap.size w wr) {k : Nat} (hk : k < xs.length) :
    wr.cell? ⟨bk, ok + k, none⟩ = some (.float .f32 (xs.getD k 0)) := FS.ever h hk wr hb

set_option maxHeartbeats 2000000 in
set_option maxRecDepth 100000 in
theorem coarse1_any (a b : Int) (t : Value) (xs : List Nat) (c1 c2 : Value) (w : World) (hu : FS .f32 w t xs) (h1 : fieldOk a b xs.length = true) (h2 : halves a b) (hc1 : GP w c1 a b) (hc2 : BX w c2 t) :
    Tells w 222 c1 c2 (a / 2) (b / 2) (csF a xs) := by
  refine ⟨enters_of Try.func222 (by kernel_rfl) rfl, ?_⟩
  intro u v j wr hu1 hv1 hj hbel
  have HU := Lib.hid hu
  have HA := Lib.hid (fieldOk_true h1)
  obtain ⟨a1, cap1, rfl, hlc, hcm, hwf, hmem⟩ := hu
  have hb1 := hc2.below hbel
  have hg1 := hc1.below hbel
  obtain ⟨k1, rfl, hk1, hc⟩ := hb1
  obtain ⟨k2, rfl, hk2, hg0, hg1⟩ := hg1
  have hA : 4 ≤ a ∧ a ≤ 16 ∧ 4 ≤ b ∧ b ≤ 16 := ⟨HA.out.1, HA.out.2.1, HA.out.2.2.1, HA.out.2.2.2.1⟩
  obtain ⟨e1, e2, e3, e4⟩ := csI_facts hA.1 h2 hu1 hv1
  have hF := csF_at xs hA.1 hu1 hj
  generalize csI a u v = k at e1 e2 hF
  obtain ⟨l, hl⟩ : ∃ l, k + a.toNat = l := ⟨_, rfl⟩
  have hl1 : (l : Int) = (k : Int) + a := by omega
  unfold csN quarterF at hF
  rw [hl] at hF
  have hn := HA.out.2.2.2.2.1
  have l0 : k < xs.length := by omega
  have l1 : k + 1 < xs.length := by omega
  have l2 : l < xs.length := by omega
  have l3 : l + 1 < xs.length := by omega
  have HE1 := Lib.hid (show (k : Int) = (2 * (u : Int)) % a + a * ((2 * (v : Int)) % b) by rw [e1, Int.emod_eq_of_lt (by omega) (by omega), Int.emod_eq_of_lt (by omega) (by omega)])
  have HE3 := Lib.hid (show (l : Int) = (2 * (u : Int)) % a + a * ((2 * (v : Int) + 1) % b) by rw [hl1, e1, Int.emod_eq_of_lt (by omega) (by omega), Int.emod_eq_of_lt (by omega) (by omega), Int.mul_add]; omega)
  obtain ⟨bk, ok, e5, hcx⟩ := FS.at HU.out hbel l0
  obtain rfl := e5
  have C0 := Lib.hid (FS.ever HU.out l0); have C1 := Lib.hid (FS.ever HU.out l1); have C2 := Lib.hid (FS.ever HU.out l2); have C3 := Lib.hid (FS.ever HU.out l3)
  have i0' := FS.is hwf k l0; have i1' := FS.is hwf (k + 1) l1; have i2' := FS.is hwf l l2; have i3' := FS.is hwf (l + 1) l3
  generalize cn .f32 (xs.getD k 0) = X0 at i0' hF
  generalize cn .f32 (xs.getD (k + 1) 0) = X1 at i1' hF
  generalize cn .f32 (xs.getD l 0) = X2 at i2' hF
  generalize cn .f32 (xs.getD (l + 1) 0) = X3 at i3' hF
  generalize xs.getD k 0 = x0 at i0' C0 hcx
  generalize xs.getD (k + 1) 0 = x1 at i1' C1
  generalize xs.getD l 0 = x2 at i2' C2
  generalize xs.getD (l + 1) 0 = x3 at i3' C3
  have HF := Lib.hid hF
  have HD0 := Lib.hid hbel
  have hq1 : IntKind.i64.wrap (2 * (u : Int)) = 2 * (u : Int) := by rw [wrap_i64]; exact wrap64_of (by omega) (by omega)
  have hq2 : IntKind.i64.wrap (2 * (v : Int)) = 2 * (v : Int) := by rw [wrap_i64]; exact wrap64_of (by omega) (by omega)
  have hq3 : IntKind.i64.wrap (2 * (v : Int) + 1) = 2 * (v : Int) + 1 := by rw [wrap_i64]; exact wrap64_of (by omega) (by omega)
  have hn256 := HA.out.2.2.2.2.2
  have hq4 : IntKind.i64.wrap ((k : Int) + 1) = (k : Int) + 1 := by rw [wrap_i64]; exact wrap64_of (by omega) (by omega)
  have hq5 : IntKind.i64.wrap ((l : Int) + 1) = (l : Int) + 1 := by rw [wrap_i64]; exact wrap64_of (by omega) (by omega)
  have m0 : (0 : Int) ≤ (k : Int) := Int.natCast_nonneg _
  have m1 : (k : Int) < (xs.length : Int) := by omega
  have m2 : (0 : Int) ≤ (l : Int) := Int.natCast_nonneg _
  have m3 : (l : Int) < (xs.length : Int) := by omega
  have m4 : (0 : Int) ≤ (k : Int) + 1 := by omega
  have m5 : (k : Int) + 1 < (xs.length : Int) := by omega
  have m6 : (0 : Int) ≤ (l : Int) + 1 := by omega
  have m7 : (l : Int) + 1 < (xs.length : Int) := by omega
  have m8 : ((k : Int) + 1).toNat = k + 1 := by omega
  have m9 : ((l : Int) + 1).toNat = l + 1 := by omega
  clear hF e1 e2 e3 e4 hmem hlc hcm h1 hc1 hc2 hn hl hl1 hcx l0 l1 l2 l3 hbel
  have hd3 := (Below.refl wr.heap.size wr).drew
  go_enter Try.func222, Try.ntmps222
  go_wp2_with fail
  refine wp_region_noPanic ?_
  refine wp_region_held_drew (S := fun w' => w'.cell? ⟨k2, 0, none⟩ = some (.int .i64 a) ∧ w'.cell? ⟨k2, 1, none⟩ = some (.int .i64 b)) (by kernel_rfl) ⟨hg0, hg1⟩ (fun hHeld => ?_)
  ((refine wpAnyH_take (i := 0) (v := ?_) rfl (by kernel_rfl) (by kernel_rfl) (by kernel_rfl) (fun _ _ _ h => h) (Or.inl ⟨by rfl, ?_⟩) (by assumption) ?_; rotate_left; (· intro w hSw; (try dsimp only at hSw); go_simp; first | done | with_reducible rfl); (try simp only [List.getElem_toArray, List.getElem_cons_zero, List.getElem_cons_succ, Act.put, List.setIfInBounds_toArray, List.set_cons_zero, List.set_cons_succ])); (refine wpAnyH_take (i := 1) (v := ?_) rfl (by kernel_rfl) (by kernel_rfl) (by kernel_rfl) (fun _ _ _ h => h) (Or.inl ⟨by rfl, ?_⟩) (by assumption) ?_; rotate_left; (· intro w hSw; (try dsimp only at hSw); go_simp; first | done | with_reducible rfl); (try simp only [List.getElem_toArray, List.getElem_cons_zero, List.getElem_cons_succ, Act.put, List.setIfInBounds_toArray, List.set_cons_zero, List.set_cons_succ])); (refine wpAnyH_take (i := 2) (v := ?_) rfl (by kernel_rfl) (by kernel_rfl) (by kernel_rfl) (fun _ _ _ h => h) (Or.inl ⟨by rfl, ?_⟩) (by assumption) ?_; rotate_left; (· intro w hSw; (try dsimp only at hSw); go_simp; first | done | with_reducible rfl); (try simp only [List.getElem_toArray, List.getElem_cons_zero, List.getElem_cons_succ, Act.put, List.setIfInBounds_toArray, List.set_cons_zero, List.set_cons_succ])); (refine wpAnyH_take (i := 3) (v := ?_) rfl (by kernel_rfl) (by kernel_rfl) (by kernel_rfl) (fun _ _ _ h => h) (Or.inl ⟨by rfl, ?_⟩) (by assumption) ?_; rotate_left; (· intro w hSw; (try dsimp only at hSw); go_simp; first | done | with_reducible rfl); (try simp only [List.getElem_toArray, List.getElem_cons_zero, List.getElem_cons_succ, Act.put, List.setIfInBounds_toArray, List.set_cons_zero, List.set_cons_succ])); (refine wpAnyH_take (i := 4) (v := ?_) rfl (by kernel_rfl) (by kernel_rfl) (by kernel_rfl) (fun _ _ _ h => h) (Or.inl ⟨by rfl, ?_⟩) (by assumption) ?_; rotate_left; (· intro w hSw; (try dsimp only at hSw); go_simp; first | done | with_reducible rfl); (try simp only [List.getElem_toArray, List.getElem_cons_zero, List.getElem_cons_succ, Act.put, List.setIfInBounds_toArray, List.set_cons_zero, List.set_cons_succ])); (refine wpAnyH_take (i := 6) (v := ?_) rfl (by kernel_rfl) (by kernel_rfl) (by kernel_rfl) (fun _ _ _ h => h) (Or.inl ⟨by rfl, ?_⟩) (by assumption) ?_; rotate_left; (· intro w hSw; (try dsimp only at hSw); go_simp; first | done | with_reducible rfl); (try simp only [List.getElem_toArray, List.getElem_cons_zero, List.getElem_cons_succ, Act.put, List.setIfInBounds_toArray, List.set_cons_zero, List.set_cons_succ])); (refine wpAnyH_take (i := 7) (v := ?_) rfl (by kernel_rfl) (by kernel_rfl) (by kernel_rfl) (fun _ _ _ h => h) (Or.inl ⟨by rfl, ?_⟩) (by assumption) ?_; rotate_left; (· intro w hSw; (try dsimp only at hSw); go_simp; first | done | with_reducible rfl); (try simp only [List.getElem_toArray, List.getElem_cons_zero, List.getElem_cons_succ, Act.put, List.setIfInBounds_toArray, List.set_cons_zero, List.set_cons_succ])); (refine wpAnyH_take (i := 8) (v := ?_) rfl (by kernel_rfl) (by kernel_rfl) (by kernel_rfl) (fun _ _ _ h => h) (Or.inl ⟨by rfl, ?_⟩) (by assumption) ?_; rotate_left; (· intro w hSw; (try dsimp only at hSw); go_simp; first | done | with_reducible rfl); (try simp only [List.getElem_toArray, List.getElem_cons_zero, List.getElem_cons_succ, Act.put, List.setIfInBounds_toArray, List.set_cons_zero, List.set_cons_succ])); (refine wpAnyH_take (i := 9) (v := ?_) rfl (by kernel_rfl) (by kernel_rfl) (by kernel_rfl) (fun _ _ _ h => h) (Or.inl ⟨by rfl, ?_⟩) (by assumption) ?_; rotate_left; (· intro w hSw; (try dsimp only at hSw); go_simp; first | done | with_reducible rfl); (try simp only [List.getElem_toArray, List.getElem_cons_zero, List.getElem_cons_succ, Act.put, List.setIfInBounds_toArray, List.set_cons_zero, List.set_cons_succ])); (refine wpAnyH_take (i := 10) (v := ?_) rfl (by kernel_rfl) (by kernel_rfl) (by kernel_rfl) (fun _ _ _ h => h) (Or.inl ⟨by rfl, ?_⟩) (by assumption) ?_; rotate_left; (· intro w hSw; (try dsimp only at hSw); go_simp; first | done | with_reducible rfl); (try simp only [List.getElem_toArray, List.getElem_cons_zero, List.getElem_cons_succ, Act.put, List.setIfInBounds_toArray, List.set_cons_zero, List.set_cons_succ])); (refine wpAnyH_take (i := 11) (v := ?_) rfl (by kernel_rfl) (by kernel_rfl) (by kernel_rfl) (fun _ _ _ h => h) (Or.inl ⟨by rfl, ?_⟩) (by assumption) ?_; rotate_left; (· intro w hSw; (try dsimp only at hSw); go_simp; first | done | with_reducible rfl); (try simp only [List.getElem_toArray, List.getElem_cons_zero, List.getElem_cons_succ, Act.put, List.setIfInBounds_toArray, List.set_cons_zero, List.set_cons_succ])))
  (refine wpAnyH_ready (rs := [5]) (by kernel_rfl) (by simp) ?_; refine AllReadyH.cons (i := 5) rfl (fun K hK => ?_) AllReadyH.nil)
  go_simp
  refine (indexOf_any a b (2 * (u : Int)) (2 * (v : Int)) k _ ⟨hA.1, hA.2.1⟩ ⟨hA.2.2.1, hA.2.2.2⟩ HE1.out).mono ?_; rintro e w5 ⟨rfl, hb5⟩
  have HD5 := Lib.hid (hd3.trans (hb5.mono hd3.size))
  clear hb5
  go_wp2_with fail
  (refine hK.out _ _ (⟨by rw [HD5.out.cell (p := ⟨k2, 0, none⟩) hk2]; exact hg0, by rw [HD5.out.cell (p := ⟨k2, 1, none⟩) hk2]; exact hg1⟩) (fun hHeld => ?_); clear hK K; (try simp only [List.getElem_toArray, List.getElem_cons_zero, List.getElem_cons_succ, Act.put, List.setIfInBounds_toArray, List.set_cons_zero, List.set_cons_succ]))
  (refine wpAnyH_ready (rs := [12]) (by kernel_rfl) (by simp) ?_; refine AllReadyH.cons (i := 12) rfl (fun K hK => ?_) AllReadyH.nil)
  go_simp
  refine (indexOf_any a b (2 * (u : Int)) (2 * (v : Int) + 1) l _ ⟨hA.1, hA.2.1⟩ ⟨hA.2.2.1, hA.2.2.2⟩ HE3.out).mono ?_; rintro e w6 ⟨rfl, hb6⟩
  have HD6 := Lib.hid (HD5.out.trans (hb6.mono HD5.out.size))
  clear hb6
  go_wp2_with fail
  (refine hK.out _ _ (⟨by rw [HD6.out.cell (p := ⟨k2, 0, none⟩) hk2]; exact hg0, by rw [HD6.out.cell (p := ⟨k2, 1, none⟩) hk2]; exact hg1⟩) (fun hHeld => ?_); clear hK K; (try simp only [List.getElem_toArray, List.getElem_cons_zero, List.getElem_cons_succ, Act.put, List.setIfInBounds_toArray, List.set_cons_zero, List.set_cons_succ]))
  ((refine wpAnyH_take (i := 13) (v := ?_) rfl (by kernel_rfl) (by kernel_rfl) (by kernel_rfl) (fun _ _ _ h => h) (Or.inl ⟨by rfl, ?_⟩) (by assumption) ?_; rotate_left; (· intro w hSw; (try dsimp only at hSw); go_simp; first | done | with_reducible rfl); (try simp only [List.getElem_toArray, List.getElem_cons_zero, List.getElem_cons_succ, Act.put, List.setIfInBounds_toArray, List.set_cons_zero, List.set_cons_succ])); (refine wpAnyH_take (i := 14) (v := ?_) rfl (by kernel_rfl) (by kernel_rfl) (by kernel_rfl) (fun _ _ _ h => h) (Or.inl ⟨by rfl, ?_⟩) (by assumption) ?_; rotate_left; (· intro w hSw; (try dsimp only at hSw); go_simp; first | done | with_reducible rfl); (try simp only [List.getElem_toArray, List.getElem_cons_zero, List.getElem_cons_succ, Act.put, List.setIfInBounds_toArray, List.set_cons_zero, List.set_cons_succ])))
  (refine wpAnyH_done (by kernel_rfl) ?_ _; refine NoPanic.normal ?_)
  clear hHeld hq1 hq2 hq3
  go_wp2_with fail
  have HD7 := Lib.hid (HD0.out.trans (HD6.out.mono HD0.out.size))
  refine wp_region_noPanic ?_
  refine wp_region_held_drew (S := fun w' => w'.cell? ⟨k1, 0, none⟩ = some (.slice (some ⟨bk, ok, none⟩) xs.length cap1) ∧ w'.cell? ⟨bk, ok + k, none⟩ = some (.float .f32 x0) ∧ w'.cell? ⟨bk, ok + (k + 1), none⟩ = some (.float .f32 x1) ∧ w'.cell? ⟨bk, ok + l, none⟩ = some (.float .f32 x2) ∧ w'.cell? ⟨bk, ok + (l + 1), none⟩ = some (.float .f32 x3)) (by kernel_rfl) ⟨by show w6.cell? _ = _; rw [HD6.out.cell (p := ⟨k1, 0, none⟩) hk1]; exact hc, C0.out _ HD7.out.drew, C1.out _ HD7.out.drew, C2.out _ HD7.out.drew, C3.out _ HD7.out.drew⟩ (fun hHeld => ?_)
  have HD8 := Lib.hid (HD6.out.trans ((Below.refl w6.heap.size w6).drew.mono HD6.out.size))
  generalize w6.drew = v6 at hHeld HD8 ⊢
  ((refine wpAnyH_take (i := 0) (v := ?_) rfl (by kernel_rfl) (by kernel_rfl) (by kernel_rfl) (fun _ _ _ h => h) (Or.inl ⟨by rfl, ?_⟩) (by assumption) ?_; rotate_left; (· intro w hSw; (try dsimp only at hSw); go_simp; first | done | with_reducible rfl); (try simp only [List.getElem_toArray, List.getElem_cons_zero, List.getElem_cons_succ, Act.put, List.setIfInBounds_toArray, List.set_cons_zero, List.set_cons_succ])); (refine wpAnyH_take (i := 1) (v := ?_) rfl (by kernel_rfl) (by kernel_rfl) (by kernel_rfl) (fun _ _ _ h => h) (Or.inl ⟨by rfl, ?_⟩) (by assumption) ?_; rotate_left; (· intro w hSw; (try dsimp only at hSw); go_simp; first | done | with_reducible rfl); (try simp only [List.getElem_toArray, List.getElem_cons_zero, List.getElem_cons_succ, Act.put, List.setIfInBounds_toArray, List.set_cons_zero, List.set_cons_succ])); (refine wpAnyH_take (i := 2) (v := ?_) rfl (by kernel_rfl) (by kernel_rfl) (by kernel_rfl) (fun _ _ _ h => h) (Or.inl ⟨by rfl, ?_⟩) (by assumption) ?_; rotate_left; (· intro w hSw; (try dsimp only at hSw); go_simp; first | done | with_reducible rfl); (try simp only [List.getElem_toArray, List.getElem_cons_zero, List.getElem_cons_succ, Act.put, List.setIfInBounds_toArray, List.set_cons_zero, List.set_cons_succ])); (refine wpAnyH_take (i := 3) (v := ?_) rfl (by kernel_rfl) (by kernel_rfl) (by kernel_rfl) (fun _ _ _ h => h) (Or.inl ⟨by rfl, ?_⟩) (by assumption) ?_; rotate_left; (· intro w hSw; (try dsimp only at hSw); go_simp; first | done | with_reducible rfl); (try simp only [List.getElem_toArray, List.getElem_cons_zero, List.getElem_cons_succ, Act.put, List.setIfInBounds_toArray, List.set_cons_zero, List.set_cons_succ])); (refine wpAnyH_take (i := 4) (v := ?_) rfl (by kernel_rfl) (by kernel_rfl) (by kernel_rfl) (fun _ _ _ h => h) (Or.inl ⟨by rfl, ?_⟩) (by assumption) ?_; rotate_left; (· intro w hSw; (try dsimp only at hSw); go_simp; first | done | with_reducible rfl); (try simp only [List.getElem_toArray, List.getElem_cons_zero, List.getElem_cons_succ, Act.put, List.setIfInBounds_toArray, List.set_cons_zero, List.set_cons_succ])); (refine wpAnyH_take (i := 5) (v := ?_) rfl (by kernel_rfl) (by kernel_rfl) (by kernel_rfl) (fun _ _ _ h => h) (Or.inl ⟨by rfl, ?_⟩) (by assumption) ?_; rotate_left; (· intro w hSw; (try dsimp only at hSw); go_simp; first | done | with_reducible rfl); (try simp only [List.getElem_toArray, List.getElem_cons_zero, List.getElem_cons_succ, Act.put, List.setIfInBounds_toArray, List.set_cons_zero, List.set_cons_succ])); (refine wpAnyH_take (i := 6) (v := ?_) rfl (by kernel_rfl) (by kernel_rfl) (by kernel_rfl) (fun _ _ _ h => h) (Or.inl ⟨by rfl, ?_⟩) (by assumption) ?_; rotate_left; (· intro w hSw; (try dsimp only at hSw); go_simp; first | done | with_reducible rfl); (try simp only [List.getElem_toArray, List.getElem_cons_zero, List.getElem_cons_succ, Act.put, List.setIfInBounds_toArray, List.set_cons_zero, List.set_cons_succ])); (refine wpAnyH_take (i := 7) (v := ?_) rfl (by kernel_rfl) (by kernel_rfl) (by kernel_rfl) (fun _ _ _ h => h) (Or.inl ⟨by rfl, ?_⟩) (by assumption) ?_; rotate_left; (· intro w hSw; (try dsimp only at hSw); go_simp; first | done | with_reducible rfl); (try simp only [List.getElem_toArray, List.getElem_cons_zero, List.getElem_cons_succ, Act.put, List.setIfInBounds_toArray, List.set_cons_zero, List.set_cons_succ])); (refine wpAnyH_take (i := 8) (v := ?_) rfl (by kernel_rfl) (by kernel_rfl) (by kernel_rfl) (fun _ _ _ h => h) (Or.inl ⟨by rfl, ?_⟩) (by assumption) ?_; rotate_left; (· intro w hSw; (try dsimp only at hSw); go_simp; first | done | with_reducible rfl); (try simp only [List.getElem_toArray, List.getElem_cons_zero, List.getElem_cons_succ, Act.put, List.setIfInBounds_toArray, List.set_cons_zero, List.set_cons_succ])); (refine wpAnyH_take (i := 10) (v := ?_) rfl (by kernel_rfl) (by kernel_rfl) (by kernel_rfl) (fun _ _ _ h => h) (Or.inl ⟨by rfl, ?_⟩) (by assumption) ?_; rotate_left; (· intro w hSw; (try dsimp only at hSw); go_simp; first | done | with_reducible rfl); (try simp only [List.getElem_toArray, List.getElem_cons_zero, List.getElem_cons_succ, Act.put, List.setIfInBounds_toArray, List.set_cons_zero, List.set_cons_succ])); (refine wpAnyH_take (i := 11) (v := ?_) rfl (by kernel_rfl) (by kernel_rfl) (by kernel_rfl) (fun _ _ _ h => h) (Or.inl ⟨by rfl, ?_⟩) (by assumption) ?_; rotate_left; (· intro w hSw; (try dsimp only at hSw); go_simp; first | done | with_reducible rfl); (try simp only [List.getElem_toArray, List.getElem_cons_zero, List.getElem_cons_succ, Act.put, List.setIfInBounds_toArray, List.set_cons_zero, List.set_cons_succ])); (refine wpAnyH_take (i := 12) (v := ?_) rfl (by kernel_rfl) (by kernel_rfl) (by kernel_rfl) (fun _ _ _ h => h) (Or.inl ⟨by rfl, ?_⟩) (by assumption) ?_; rotate_left; (· intro w hSw; (try dsimp only at hSw); go_simp; first | done | with_reducible rfl); (try simp only [List.getElem_toArray, List.getElem_cons_zero, List.getElem_cons_succ, Act.put, List.setIfInBounds_toArray, List.set_cons_zero, List.set_cons_succ])); (refine wpAnyH_take (i := 13) (v := ?_) rfl (by kernel_rfl) (by kernel_rfl) (by kernel_rfl) (fun _ _ _ h => h) (Or.inl ⟨by rfl, ?_⟩) (by assumption) ?_; rotate_left; (· intro w hSw; (try dsimp only at hSw); go_simp; first | done | with_reducible rfl); (try simp only [List.getElem_toArray, List.getElem_cons_zero, List.getElem_cons_succ, Act.put, List.setIfInBounds_toArray, List.set_cons_zero, List.set_cons_succ])); (refine wpAnyH_take (i := 15) (v := ?_) rfl (by kernel_rfl) (by kernel_rfl) (by kernel_rfl) (fun _ _ _ h => h) (Or.inl ⟨by rfl, ?_⟩) (by assumption) ?_; rotate_left; (· intro w hSw; (try dsimp only at hSw); go_simp; first | done | with_reducible rfl); (try simp only [List.getElem_toArray, List.getElem_cons_zero, List.getElem_cons_succ, Act.put, List.setIfInBounds_toArray, List.set_cons_zero, List.set_cons_succ])); (refine wpAnyH_take (i := 16) (v := ?_) rfl (by kernel_rfl) (by kernel_rfl) (by kernel_rfl) (fun _ _ _ h => h) (Or.inl ⟨by rfl, ?_⟩) (by assumption) ?_; rotate_left; (· intro w hSw; (try dsimp only at hSw); go_simp; first | done | with_reducible rfl); (try simp only [List.getElem_toArray, List.getElem_cons_zero, List.getElem_cons_succ, Act.put, List.setIfInBounds_toArray, List.set_cons_zero, List.set_cons_succ])); (refine wpAnyH_take (i := 17) (v := ?_) rfl (by kernel_rfl) (by kernel_rfl) (by kernel_rfl) (fun _ _ _ h => h) (Or.inl ⟨by rfl, ?_⟩) (by assumption) ?_; rotate_left; (· intro w hSw; (try dsimp only at hSw); go_simp; first | done | with_reducible rfl); (try simp only [List.getElem_toArray, List.getElem_cons_zero, List.getElem_cons_succ, Act.put, List.setIfInBounds_toArray, List.set_cons_zero, List.set_cons_succ])); (refine wpAnyH_take (i := 18) (v := ?_) rfl (by kernel_rfl) (by kernel_rfl) (by kernel_rfl) (fun _ _ _ h => h) (Or.inl ⟨by rfl, ?_⟩) (by assumption) ?_; rotate_left; (· intro w hSw; (try dsimp only at hSw); go_simp; first | done | with_reducible rfl); (try simp only [List.getElem_toArray, List.getElem_cons_zero, List.getElem_cons_succ, Act.put, List.setIfInBounds_toArray, List.set_cons_zero, List.set_cons_succ])); (refine wpAnyH_take (i := 19) (v := ?_) rfl (by kernel_rfl) (by kernel_rfl) (by kernel_rfl) (fun _ _ _ h => h) (Or.inl ⟨by rfl, ?_⟩) (by assumption) ?_; rotate_left; (· intro w hSw; (try dsimp only at hSw); go_simp; first | done | with_reducible rfl); (try simp only [List.getElem_toArray, List.getElem_cons_zero, List.getElem_cons_succ, Act.put, List.setIfInBounds_toArray, List.set_cons_zero, List.set_cons_succ])))
  (refine wpAnyH_ready (rs := [9]) (by kernel_rfl) (by simp) ?_; refine AllReadyH.cons (i := 9) rfl (fun K hK => ?_) AllReadyH.nil)
  refine hstep_fa rfl .add 37 37 _ _ rfl rfl .f32 x0 x1 rfl rfl i0' i1' ?_
  intro r1 n1 hr1
  (refine hK.out _ _ (by assumption) (fun hHeld => ?_); clear hK K; (try simp only [List.getElem_toArray, List.getElem_cons_zero, List.getElem_cons_succ, Act.put, List.setIfInBounds_toArray, List.set_cons_zero, List.set_cons_succ]))
  (refine wpAnyH_ready (rs := [14]) (by kernel_rfl) (by simp) ?_; refine AllReadyH.cons (i := 14) rfl (fun K hK => ?_) AllReadyH.nil)
  refine hstep_fa rfl .add 37 37 _ _ rfl rfl .f32 r1 x2 rfl rfl hr1 i2' ?_
  intro r2 n2 hr2
  (refine hK.out _ _ (by assumption) (fun hHeld => ?_); clear hK K; (try simp only [List.getElem_toArray, List.getElem_cons_zero, List.getElem_cons_succ, Act.put, List.setIfInBounds_toArray, List.set_cons_zero, List.set_cons_succ]))
  (refine wpAnyH_ready (rs := [20]) (by kernel_rfl) (by simp) ?_; refine AllReadyH.cons (i := 20) rfl (fun K hK => ?_) AllReadyH.nil)
  refine hstep_fa rfl .add 37 37 _ _ rfl rfl .f32 r2 x3 rfl rfl hr2 i3' ?_
  intro r3 n3 hr3
  (refine hK.out _ _ (by assumption) (fun hHeld => ?_); clear hK K; (try simp only [List.getElem_toArray, List.getElem_cons_zero, List.getElem_cons_succ, Act.put, List.setIfInBounds_toArray, List.set_cons_zero, List.set_cons_succ]))
  (refine wpAnyH_ready (rs := [21]) (by kernel_rfl) (by simp) ?_; refine AllReadyH.cons (i := 21) rfl (fun K hK => ?_) AllReadyH.nil)
  refine hstep_fa rfl .mul 37 37 _ _ rfl rfl .f32 1048576000 r3 rfl rfl (Is.const rfl) hr3 ?_
  intro r4 n4 hr4
  (refine hK.out _ _ (by assumption) (fun hHeld => ?_); clear hK K; (try simp only [List.getElem_toArray, List.getElem_cons_zero, List.getElem_cons_succ, Act.put, List.setIfInBounds_toArray, List.set_cons_zero, List.set_cons_succ]))
  ((refine wpAnyH_take (i := 22) (v := ?_) rfl (by kernel_rfl) (by kernel_rfl) (by kernel_rfl) (fun _ _ _ h => h) (Or.inl ⟨by rfl, ?_⟩) (by assumption) ?_; rotate_left; (· intro w hSw; (try dsimp only at hSw); go_simp; first | done | with_reducible rfl); (try simp only [List.getElem_toArray, List.getElem_cons_zero, List.getElem_cons_succ, Act.put, List.setIfInBounds_toArray, List.set_cons_zero, List.set_cons_succ])))
  (refine wpAnyH_done (by kernel_rfl) ?_ _; refine NoPanic.normal ?_)
  clear hHeld
  go_wp2
  go_ret
  exact ⟨⟨_, rfl, by rw [HF.out]; exact hr4⟩, below_drewN (below_drewN (below_drewN (below_drewN HD8.out n1) n2) n3) n4⟩
end Go.Proofs.Ytjfnecmnofcjbaa
