/-
  Sums of products of two fields in eighths; two fields gathered; fields that are the same everywhere.
-/
import Derived.Test.YtlfnbnhbobohlaaGat
import Derived.Test.YtlfnbnhbobohlaaSby
import Derived.Test.YtlfnbnhbobohlaaRpt
import Derived.Test.YtlfnbnhbobohlaaNar
namespace Go.Proofs.Ytlfnbnhbobohlaa
open Go.Fl Go.RowKit
open Go.Joins (ownsRow_le)
set_option linter.unusedSimpArgs false
set_option linter.unusedVariables false

theorem bx9_of {w : World} {k : Nat} {v : Value} {t : TypeId} (h : w.heap[k]? = some (.cells #[v] t)) : w.cell? ⟨k, 0, none⟩ = some v := by rw [Go.Joins.cell_of_block h]; rfl
theorem cell_kept {w w' : World} {k i : Nat} {v : Value} (h : w.cell? ⟨k, i, none⟩ = some v) (hb : Below w.heap.size w w') : w'.cell? ⟨k, i, none⟩ = some v := by
  rw [hb.cell (p := ⟨k, i, none⟩) (block_lt_of_cell h)]; exact h

theorem Dy.addv64 {u x y : Nat} {n m : Int} (hx : Dy .f64 u x n) (hy : Dv .f64 u y m) (hu : u ≤ 1400) (h : (n + m).natAbs < 2 ^ 53) : Dy .f64 u (fop .add .f64 x y) (n + m) := hx.addv hy h (fit64 h hu)
def dotF (xs ys : List Nat) (k : Nat) : Nat := fop .mul .f64 (wid (xs.getD k 0)) (wid (ys.getD k 0))
theorem fg_in {f g : Int} (hf : -32 ≤ f ∧ f ≤ 32) (hg : -4096 ≤ g ∧ g ≤ 4096) : -131072 ≤ f * g ∧ f * g ≤ 131072 := by
  by_cases h : 0 ≤ g
  · have := mul_in (A := 32) (B := 4096) hf.1 hf.2 h hg.2 (by omega)
    omega
  · have := mul_in (A := 32) (B := 4096) hf.1 hf.2 (show 0 ≤ -g by omega) (by omega) (by omega)
    rw [Int.mul_neg] at this
    omega
theorem dot_dy {xs ys : List Nat} {F G : Nat → Int} (hF : DvL xs F) (hG : DyL ys G) (hB : ∀ j, -32 ≤ F j ∧ F j ≤ 32) (hC : ∀ j, -4096 ≤ G j ∧ G j ≤ 4096) (n : Nat) (hx : n ≤ xs.length) (hy : n ≤ ys.length) (hn : n ≤ 64) :
    Dy .f64 1062 (sumFn .f64 (dotF xs ys) n) (sumN (fun j => F j * G j) n) := by
  induction n with
  | zero => exact (show Dy .f64 1062 0 0 from Dy.of (by decide +kernel))
  | succ n ih =>
    have h1 := ih (by omega) (by omega) (by omega)
    have h2 := fg_in (hB n) (hC n)
    have h3 := ((hF n (by omega)).wid.1.mul64 (hG n (by omega)).wid.dv (w := 1062) (by decide) (by omega) (by decide)).1
    have h4 := sumN_le (fun j => F j * G j) 131072 n (fun j => fg_in (hB j) (hC j))
    rw [sumFn, sumN]
    exact h1.addv64 h3 (by decide) (by omega)

set_option maxHeartbeats 1000000 in
set_option maxRecDepth 100000 in
theorem fdot1_any (u v : Value) (xs ys : List Nat) (k ka kb : Nat) (w : World) (hu : FS .f32 w u xs) (hv : FS .f32 w v ys) (hx : k < xs.length) (hy : k < ys.length) (ix : Is .f32 (xs.getD k 0) (xs.getD k 0)) (iy : Is .f32 (ys.getD k 0) (ys.getD k 0))
    (ha : w.cell? ⟨ka, 0, none⟩ = some u) (hb : w.cell? ⟨kb, 0, none⟩ = some v) :
    Calls Try.prog 109 #[.int .i64 (k : Int), .pointer (some ⟨ka, 0, none⟩), .pointer (some ⟨kb, 0, none⟩)] w fun e w' => (∃ r, e = .returned (.float .f64 r) ∧ Is .f64 r (dotF xs ys k)) ∧ Below w.heap.size w w' := by
  have hu0 := hu; have hv0 := hv
  obtain ⟨a1, c1, rfl, _⟩ := hu
  obtain ⟨a2, c2, rfl, _⟩ := hv
  obtain ⟨b1, o1, e1, hcx⟩ := FS.at hu0 (Below.refl _ _) hx
  obtain ⟨b2, o2, e2, hcy⟩ := FS.at hv0 (Below.refl _ _) hy
  obtain rfl := e1; obtain rfl := e2
  unfold dotF
  have i1 : (k : Int) < (xs.length : Int) := by omega
  have i2 : (k : Int) < (ys.length : Int) := by omega
  clear hu0 hv0
  generalize xs.getD k 0 = x at hcx ix ⊢
  generalize ys.getD k 0 = y at hcy iy ⊢
  go_enter Try.func109, Try.ntmps109
  go_wp2_with (first | ((with_reducible apply Loose.wp_start); kernel_rfl; kernel_rfl) | ((with_reducible apply Loose.start_cons)) | ((with_reducible apply Loose.start_nil)) | ((with_reducible apply Loose.walk_nil); intro n) | ((with_reducible apply Loose.walk_skip); exact rfl; (go_simp; first | done | exact rfl)) | ((with_reducible apply Loose.step_fc); rfl; rfl; rfl; rfl; (first | with_reducible assumption | exact Is.const rfl); (first | with_reducible assumption | exact Is.const rfl); (first | with_reducible assumption | exact rfl); exact rfl; (go_simp; first | done | exact rfl)) | ((with_reducible apply Loose.step_fa); rfl; rfl; rfl; rfl; (first | with_reducible assumption | exact Is.const rfl); (first | with_reducible assumption | exact Is.const rfl); exact rfl; (intro r; go_simp; first | done | exact rfl); intro r hr) | ((with_reducible apply Loose.step_wid); rfl; rfl; (first | with_reducible assumption | exact Is.const rfl); exact U32; exact U64; exact rfl; (intro r; go_simp; first | done | exact rfl); intro r hr) | ((with_reducible apply Loose.step_nar); rfl; rfl; (first | with_reducible assumption | exact Is.const rfl); exact U64; exact U32; (with_reducible assumption); exact rfl; (intro r; go_simp; first | done | exact rfl); intro r hr) | ((with_reducible apply Loose.step_assign); rfl; rfl; (with_reducible assumption); exact rfl; (intro r; go_simp; first | done | exact rfl); intro r hr) | ((with_reducible apply Loose.step_move); rfl; rfl; (with_reducible assumption); exact rfl; (intro r; go_simp; first | done | exact rfl); intro r hr) | ((with_reducible apply Loose.step_same); rfl; rfl; exact U32; exact U32; (first | with_reducible assumption | exact Is.const rfl); exact rfl; (intro r; go_simp; first | done | exact rfl); intro r hr) | ((with_reducible apply Loose.step_same); rfl; rfl; exact U64; exact U64; (first | with_reducible assumption | exact Is.const rfl); exact rfl; (intro r; go_simp; first | done | exact rfl); intro r hr) | ((with_reducible apply Loose.step_eq); rfl; (intro n; go_simp; first | done | exact rfl); exact rfl; (go_simp; first | done | exact rfl)))
  go_ret
  exact ⟨⟨_, rfl, by assumption⟩, by first | exact below_drewN (Below.refl _ _) _ | exact below_drewN (below_drewN (Below.refl _ _) _) _⟩

set_option maxHeartbeats 2000000 in
set_option maxRecDepth 100000 in
theorem iFieldDot_e8 (a b : Int) (u v : Value) (xs ys : List Nat) (F G : Nat → Int) (w : World) (hu : FS .f32 w u xs) (hv : FS .f32 w v ys) (hF : DvL xs F) (hG : DyL ys G) (hB : ∀ j, -32 ≤ F j ∧ F j ≤ 32) (hC : ∀ j, -4096 ≤ G j ∧ G j ≤ 4096)
    (h1 : fieldOk a b xs.length = true) (hl : ys.length = xs.length) (hn : xs.length ≤ 64) :
    Calls Try.prog 56 #[GV a b, u, v] w fun e w' => (∃ r, e = .returned (.tuple #[.float .f32 r, .bool true]) ∧ Dy .f32 137 r (sumN (fun j => F j * G j) xs.length)) ∧ Below w.heap.size w w' := by
  have HU := Lib.hid hu; have HV := Lib.hid hv
  obtain ⟨a1, c1, rfl, _⟩ := hu
  obtain ⟨a2, c2, rfl, _⟩ := hv
  have H1 := Lib.hid h1
  have H2 := Lib.hid (show fieldOk a b ys.length = true by rw [hl]; exact h1)
  have HA := Lib.hid (fieldOk_true h1)
  have HPT := Lib.hid (show IntKind.i64.wrap (a * b) = (xs.length : Int) by rw [wrap_i64, ← HA.out.2.2.2.2.1]; exact wrap64_of (by omega) (by omega))
  have HDY := Lib.hid (dot_dy hF hG hB hC xs.length (Nat.le_refl _) (by omega) hn)
  have HSM := Lib.hid (sumN_le (fun j => F j * G j) 131072 xs.length (fun j => fg_in (hB j) (hC j)))
  have HNN := Lib.hid hn; have HLL := Lib.hid hl
  have n1 := heap_alloc_new w (.cells #[.int .i64 a, .int .i64 b] 27)
  have n2 := heap_alloc_new (w.alloc (.cells #[.int .i64 a, .int .i64 b] 27)) (.cells #[.slice a1 xs.length c1] 24)
  have n3 := heap_alloc_new ((w.alloc (.cells #[.int .i64 a, .int .i64 b] 27)).alloc (.cells #[.slice a1 xs.length c1] 24)) (.cells #[.slice a2 ys.length c2] 24)
  have b2 := (Below.refl _ ((w.alloc (.cells #[.int .i64 a, .int .i64 b] 27)).alloc (.cells #[.slice a1 xs.length c1] 24))).alloc (Nat.le_refl _) (.cells #[.slice a2 ys.length c2] 24)
  have b1 := ((Below.refl _ (w.alloc (.cells #[.int .i64 a, .int .i64 b] 27))).alloc (Nat.le_refl _) (.cells #[.slice a1 xs.length c1] 24)).alloc (by simp) (.cells #[.slice a2 ys.length c2] 24)
  have hcg := GP.below (gp_new w a b 27) b1
  have hca := cell_kept (bx9_of n2) b2
  have hcb := bx9_of n3
  rw [World.size_alloc] at hca
  rw [World.size_alloc, World.size_alloc] at hcb
  have HB := Lib.hid ((((Below.refl w.heap.size w).alloc (Nat.le_refl _) (.cells #[.int .i64 a, .int .i64 b] 27)).alloc (by simp) (.cells #[.slice a1 xs.length c1] 24)).alloc (by simp; omega) (.cells #[.slice a2 ys.length c2] 24))
  have HCG := Lib.hid hcg; have HCA := Lib.hid hca; have HCB := Lib.hid hcb
  have c0 := hcg.cells.1; have c1' := hcg.cells.2
  clear n1 n2 n3 b1 b2 hcg h1 hl hn
  go_enter Try.func56, Try.ntmps56
  go_wp2_with fail
  clear hca hcb c0 c1'
  generalize ((w.alloc (.cells #[.int .i64 a, .int .i64 b] 27)).alloc (.cells #[.slice a1 xs.length c1] 24)).alloc (.cells #[.slice a2 ys.length c2] 24) = w1 at HB HCG HCA HCB ⊢
  refine (iIsField_any a b a1 xs.length c1 _).mono ?_; rw [H1.out]; rintro e w2 ⟨rfl, hb2⟩
  have HD2 := Lib.hid hb2
  have c0 := (GP.below HCG.out hb2).cells.1; have c1' := (GP.below HCG.out hb2).cells.2; have ca := cell_kept HCA.out hb2; have cb := cell_kept HCB.out hb2
  clear hb2
  go_wp2_with fail
  refine (iIsField_any a b a2 ys.length c2 _).mono ?_; rw [H2.out]; rintro e w3 ⟨rfl, hb3⟩
  have HD3 := Lib.hid (HD2.out.trans (hb3.mono HD2.out.size))
  clear hb3 c0 c1' ca cb
  have c0 := (GP.below HCG.out HD3.out).cells.1; have c1' := (GP.below HCG.out HD3.out).cells.2
  go_wp2_with fail
  refine (pointsOf_any a b _).mono ?_; rw [HPT.out]; rintro e w4 ⟨rfl, hb4⟩
  have HD4 := Lib.hid (HD3.out.trans (hb4.mono HD3.out.size))
  clear hb4 c0 c1'
  go_wp2_with fail
  have HT := Lib.hid (show TellsK w4 109 #[.pointer (some ⟨w.heap.size + 1, 0, none⟩), .pointer (some ⟨w.heap.size + 1 + 1, 0, none⟩)] xs.length .f64 (dotF xs ys) from
    ⟨enters_of Try.func109 (by kernel_rfl) rfl, fun k w5 hk hb => by
      have hd := HD4.out.trans (hb.mono HD4.out.size)
      exact fdot1_any _ _ xs ys k _ _ w5 (HU.out.below (HB.out.trans (hd.mono HB.out.size))) (HV.out.below (HB.out.trans (hd.mono HB.out.size))) hk (by have := HLL.out; omega) (hF k hk).is (hG k (by have := HLL.out; omega)).is (cell_kept HCA.out hd) (cell_kept HCB.out hd)⟩)
  refine (sumBy64_any xs.length _ _ _ _ (by have := HNN.out; omega) HT.out).mono ?_; rintro e w5 ⟨⟨r, rfl, hr⟩, hb5⟩
  have HD5 := Lib.hid (HD4.out.trans (hb5.mono HD4.out.size))
  have hd5 := dyis HDY.out hr
  clear hb5 hr HT
  go_wp2_with fail
  have hlt : (sumN (fun j => F j * G j) xs.length).natAbs < 2 ^ 24 := by have := HSM.out; have := HNN.out; omega
  refine (iNarrow_any r r hd5.is (Dy.fits (u := 137) hd5 hlt (by decide)) _).mono ?_; rintro e w' ⟨⟨s, rfl, hs⟩, n, rfl⟩
  have hs9 := dyis (Dy.nar (u := 137) hd5 hlt (by decide)) hs
  clear hlt hs
  go_wp2_with fail
  go_ret2
  exact ⟨⟨_, rfl, hs9⟩, HB.out.trans ((below_drewN HD5.out n).mono HB.out.size)⟩

set_option maxHeartbeats 2000000 in
set_option maxRecDepth 100000 in
theorem iGatherTwo_e8 (a b : Int) (ha : 4 ≤ a) (ha' : a ≤ 7) (hb : 4 ≤ b) (hb' : b ≤ 7) (u v : Value) (xs ys : List Nat) (F G : Nat → Int) (n m : Int) (n0 : -112 ≤ n) (n1 : n < 248) (m0 : -112 ≤ m) (m1 : m < 248) (w : World)
    (hu : FS .f32 w u xs) (hv : FS .f32 w v ys) (hF : DvL xs F) (hG : DvL ys G) (hB : ∀ j, -32 ≤ F j ∧ F j ≤ 32) (hC : ∀ j, -32 ≤ G j ∧ G j ≤ 32) (hl : (xs.length : Int) = a * b) (hl2 : (ys.length : Int) = a * b) :
    Calls Try.prog 58 #[GV a b, u, v, .complex .f32 (E8 n) (E8 m)] w fun e w' => (∃ r s, e = .returned (.tuple #[.complex .f32 r s, .bool true]) ∧ Dy .f32 140 r (gatI a b F n m) ∧ Dy .f32 140 s (gatI a b G n m)) ∧ Below w.heap.size w w' := by
  have HU := Lib.hid hu; have HV := Lib.hid hv
  obtain ⟨a1, c1, rfl, _⟩ := hu
  obtain ⟨a2, c2, rfl, _⟩ := hv
  have HG1 := Lib.hid (fun (w : World) (h : FS .f32 w (.slice a1 xs.length c1) xs) => iGather_e8 a b ha ha' hb hb' _ xs F n m n0 n1 m0 m1 w h hF hB hl)
  have HG2 := Lib.hid (fun (w : World) (h : FS .f32 w (.slice a2 ys.length c2) ys) => iGather_e8 a b ha ha' hb hb' _ ys G n m n0 n1 m0 m1 w h hG hC hl2)
  have HP := Lib.hid (gp_new w a b 27)
  have HB0 := Lib.hid ((Below.refl w.heap.size w).alloc (Nat.le_refl _) (.cells #[.int .i64 a, .int .i64 b] 27))
  clear hF hG hB hC hl hl2 n0 n1 m0 m1 ha ha' hb hb'
  generalize gatI a b F n m = X at HG1 ⊢
  generalize gatI a b G n m = Y at HG2 ⊢
  go_enter Try.func58, Try.ntmps58
  go_wp2_with fail
  generalize w.alloc (.cells #[.int .i64 a, .int .i64 b] 27) = w1 at HB0 HP ⊢
  refine (HG1.out _ (HU.out.below HB0.out)).mono ?_; rintro e w2 ⟨⟨r, rfl, hr⟩, hb2⟩
  have HB2 := Lib.hid (HB0.out.trans (hb2.mono HB0.out.size))
  have c0 := (GP.below HP.out hb2).cells.1; have c1' := (GP.below HP.out hb2).cells.2
  clear hb2
  go_wp2_with fail
  refine (HG2.out _ (HV.out.below HB2.out)).mono ?_; rintro e w3 ⟨⟨s, rfl, hs⟩, hb3⟩
  have HB3 := Lib.hid (HB2.out.trans (hb3.mono HB2.out.size))
  clear hb3 c0 c1'
  go_wp2_with fail
  go_ret2
  exact ⟨⟨_, _, rfl, hr, hs⟩, HB3.out⟩

set_option maxHeartbeats 2000000 in
set_option maxRecDepth 100000 in
theorem iEven_any (a b : Int) (p q n : Nat) (w : World) (hg : gridOk a b = true) (hn : (n : Int) = a * b) (ip : Is .f32 p p) (iq : Is .f32 q q) (fp : fin .f32 p = true) (fq : fin .f32 q = true) :
    Calls Try.prog 57 #[GV a b, .complex .f32 p q] w fun e w' => (∃ u v, e = .returned (.tuple #[u, v, .bool true]) ∧ FOwn w.heap.size w' u (List.replicate n p) ∧ FOwn w.heap.size w' v (List.replicate n q)) ∧ Below w.heap.size w w' := by
  have HA := Lib.hid (gridOk_true hg)
  have hm1 : a * b ≤ 16 * 16 := Int.mul_le_mul HA.out.2.1 HA.out.2.2.2 (by have := HA.out; omega) (by omega)
  have hm0 : 4 * 4 ≤ a * b := Int.mul_le_mul HA.out.1 HA.out.2.2.1 (by omega) (by have := HA.out; omega)
  have H1 := Lib.hid hg
  have HN := Lib.hid (show 1 ≤ n ∧ n ≤ 256 by omega)
  have HPT := Lib.hid (show IntKind.i64.wrap (a * b) = (n : Int) by rw [wrap_i64, ← hn]; exact wrap64_of (by omega) (by omega))
  have HFC := Lib.hid (fun W => iFiniteC_fin p q ip iq fp fq W)
  have HP := Lib.hid (gp_new w a b 27)
  have HB0 := Lib.hid ((Below.refl w.heap.size w).alloc (Nat.le_refl _) (.cells #[.int .i64 a, .int .i64 b] 27))
  clear hg hn ip iq fp fq hm1 hm0
  go_enter Try.func57, Try.ntmps57
  go_wp2_with fail
  generalize w.alloc (.cells #[.int .i64 a, .int .i64 b] 27) = w1 at HB0 HP ⊢
  refine (iValidGrid_any a b _).mono ?_; rw [H1.out]; rintro e w2 ⟨rfl, hb2⟩
  have HD2 := Lib.hid hb2
  clear hb2
  go_wp2_with fail
  refine (HFC.out _).mono ?_; rintro e w' ⟨rfl, k1, rfl⟩
  have HD3 := Lib.hid (below_drewN HD2.out k1)
  generalize w2.drewN k1 = w3 at HD3 ⊢
  have c0 := (GP.below HP.out HD3.out).cells.1; have c1 := (GP.below HP.out HD3.out).cells.2
  go_wp2_with fail
  refine (pointsOf_any a b _).mono ?_; rw [HPT.out]; rintro e w4 ⟨rfl, hb4⟩
  have HD4 := Lib.hid (HD3.out.trans (hb4.mono HD3.out.size))
  clear hb4 c0 c1
  have hx := bx9_of (heap_alloc_new w4 (.cells #[.float .f32 p] 46))
  have HD5 := Lib.hid (HD4.out.alloc HD4.out.size (.cells #[.float .f32 p] 46))
  have HX := Lib.hid hx
  clear hx
  go_wp2_with fail
  generalize w4.alloc (.cells #[.float .f32 p] 46) = w5 at HD5 HX ⊢
  refine (repeat_any _ 0 1 p n _ HX.out HN.out.1 HN.out.2).mono ?_; rintro e w6 ⟨⟨g, rfl, hO⟩, hb6⟩
  have HD6 := Lib.hid (HD5.out.trans (hb6.mono HD5.out.size)); have HO := Lib.hid hO
  clear hO hb6
  have hal := (Below.refl w6.heap.size w6).alloc (Nat.le_refl _) (.cells #[.float .f32 q] 46)
  have hx := bx9_of (heap_alloc_new w6 (.cells #[.float .f32 q] 46))
  have HX7 := Lib.hid hx; have HD7 := Lib.hid (HD6.out.trans (hal.mono HD6.out.size))
  have HO7 := Lib.hid (World.ownsRow.kept HO.out (grown_below (row := none) hal) (.inr (by simp [Value.ownBlock])))
  clear hx hal
  go_wp2_with fail
  generalize w6.alloc (.cells #[.float .f32 q] 46) = w7 at HD7 HX7 HO7 ⊢
  refine (repeat_any _ 0 1 q n _ HX7.out HN.out.1 HN.out.2).mono ?_; rintro e w8 ⟨⟨g8, rfl, hO8⟩, hb8⟩
  have HD8 := Lib.hid (HD7.out.trans (hb8.mono HD7.out.size)); have HO8 := Lib.hid hO8
  have HO9 := Lib.hid (World.ownsRow.kept HO7.out (grown_below (row := none) hb8) (.inr (by simp [Value.ownBlock])))
  clear hO8 hb8
  go_wp2_with fail
  go_ret3
  exact ⟨⟨_, _, rfl, by unfold FOwn; rw [List.length_replicate]; exact ownsRow_le HO9.out (Nat.le_trans HB0.out.size HD5.out.size), by unfold FOwn; rw [List.length_replicate]; exact ownsRow_le HO8.out (Nat.le_trans HB0.out.size HD7.out.size)⟩, HB0.out.trans (HD8.out.mono HB0.out.size)⟩
end Go.Proofs.Ytlfnbnhbobohlaa
