/-
  Sweeps of rows, of the model.
-/
import Derived.Test.YtjfnecmnofcjbaaRwsM
import Derived.Test.YtjfnecmnofcjbaaLapS
import Derived.Test.YtjfnecmnofcjbaaBrd
namespace Go.Proofs.Ytjfnecmnofcjbaa
open Go.Fl Go.RowKit
open Go.Joins (ownsRow_le)
set_option linter.unusedSimpArgs false
set_option linter.unusedVariables false

def okSweepRows (a b : Int) (xs zs : List Nat) : Bool := fieldOk a b xs.length && fieldOk a b zs.length
def lenSweepRows (a b : Int) (xs zs : List Nat) : Nat := if okSweepRows a b xs zs then xs.length else 0
theorem lenSweepRows_le (a b : Int) (xs zs : List Nat) (h : xs.length ≤ 1048576) (h2 : zs.length ≤ 1048576) : lenSweepRows a b xs zs ≤ 1048576 := by unfold lenSweepRows; split <;> omega
theorem okRws_yes {a b : Int} {xs zs : List Nat} (h1 : fieldOk a b xs.length = true) (h2 : fieldOk a b zs.length = true) : okSweepRows a b xs zs = true ∧ lenSweepRows a b xs zs = xs.length := by
  have e : okSweepRows a b xs zs = true := by unfold okSweepRows; rw [h1, h2]; rfl
  exact ⟨e, by unfold lenSweepRows; rw [if_pos e]⟩
theorem okRws_no {a b : Int} {xs zs : List Nat} (h : (fieldOk a b xs.length && fieldOk a b zs.length) = false) : okSweepRows a b xs zs = false ∧ lenSweepRows a b xs zs = 0 := by
  have e : okSweepRows a b xs zs = false := h
  exact ⟨e, by unfold lenSweepRows; rw [if_neg (by rw [e]; simp)]⟩
def rwsF (a b : Int) (xs zs : List Nat) : Nat → Nat := rowsF a b (lvlF zs) (fun j => cn .f32 (xs.getD j 0)) b.toNat
theorem rwsF_of {a b : Int} {xs zs ls es : List Nat} (h1 : fieldOk a b xs.length = true) (hl : EqOn ls (lvlF zs) 0 xs.length) (he : EqOn es (rowsF a b (fun j => cn .f32 (ls.getD j 0)) (fun j => cn .f32 (xs.getD j 0)) b.toNat) 0 xs.length) : EqOn es (rwsF a b xs zs) 0 xs.length := by
  have hA := fieldOk_true h1
  exact fun j q1 q2 => by
    have := he j q1 q2
    rwa [rowsF_congr hA.1 hA.2.2.1 hA.2.2.2.2.1 (fun i hi => (hl i (Nat.zero_le _) hi).eq) (fun _ _ => rfl) _ (by omega) j q2] at this
theorem RWr.of {B : Nat} {w : World} {v : Value} {xs : List Nat} (h : FOwn B w v xs) (hn : 0 < xs.length) : ∃ g cap, v = .slice (some ⟨g, 0, none⟩) xs.length cap ∧ RW B w g cap xs := by
  obtain ⟨g, cap, e, _, _⟩ := World.ownsRow.form h hn
  exact ⟨g, cap, e, by have h' : w.ownsRow B 37 1 v xs.length (xs.map (Value.float .f32)) := h; rw [e] at h'; exact h'⟩
theorem RWr.le {B B' : Nat} {w : World} {g cap : Nat} {xs : List Nat} (h : RW B w g cap xs) (hB : B' ≤ B) : RW B' w g cap xs := ownsRow_le h hB
theorem RWr.res {B : Nat} {w : World} {g cap n : Nat} {xs : List Nat} {F : Nat → Nat} (h : RW B w g cap xs) (hn : xs.length = n) (he : EqOn xs F 0 n) : FRes B w (.slice (some ⟨g, 0, none⟩) n cap) n F := by
  subst hn; exact ⟨xs, rfl, EqOn.eqs he rfl, h⟩
/-- The place of a point: the numbers of a walk. -/
theorem place_facts {a b : Int} {x y n : Nat} (hA : 4 ≤ a ∧ a ≤ 16 ∧ 4 ≤ b ∧ b ≤ 16) (hab : (n : Int) = a * b) (hx : (x : Int) < a) (hy : (y : Int) < b) : ∃ k : Nat, k = x + a.toNat * y ∧ (k : Int) = (x : Int) + a * (y : Int) ∧ wrap64 (a * (y : Int)) = a * (y : Int) ∧ IntKind.i64.wrap (a * (y : Int)) = a * (y : Int) ∧ wrap64 ((x : Int) + a * (y : Int)) = (k : Int) ∧ IntKind.i64.wrap ((x : Int) + a * (y : Int)) = (k : Int) ∧ k < n ∧ (k : Int) < (n : Int) ∧ (0 : Int) ≤ (k : Int) ∧ (k : Int) < a * b ∧ k % a.toNat = x ∧ k / a.toNat = y := by
  obtain ⟨m, rfl⟩ := Int.eq_ofNat_of_zero_le (show 0 ≤ a by omega)
  have h1 : (m : Int) * ((y : Int) + 1) ≤ (m : Int) * b := Int.mul_le_mul_of_nonneg_left (by omega) (by omega)
  rw [Int.mul_add, Int.mul_one] at h1
  have h2 : 0 ≤ (m : Int) * (y : Int) := Int.mul_nonneg (by omega) (by omega)
  have h3 : (m : Int) * b ≤ 16 * 16 := Int.mul_le_mul hA.2.1 hA.2.2.2 (by omega) (by omega)
  have e : ((x + (m : Int).toNat * y : Nat) : Int) = (x : Int) + (m : Int) * (y : Int) := by simp
  have hp := at_point (a := (m : Int)) (u := x) (v := y) (j := x + (m : Int).toNat * y) hA.1 hx (by rw [e]; omega)
  exact ⟨x + (m : Int).toNat * y, rfl, e, wrap64_of (by omega) (by omega), by rw [wrap_i64]; exact wrap64_of (by omega) (by omega), by rw [e]; exact wrap64_of (by omega) (by omega), by rw [wrap_i64, e]; exact wrap64_of (by omega) (by omega), by omega, by omega, by omega, by omega, hp.1, hp.2⟩

theorem meas_upV {a x : Int} {v v' : Value} {n : Nat} (hv : v = .int .i64 x) (hv' : v' = .int .i64 (n : Int)) (hx : x = ((n + 1 : Nat) : Int)) (h : (n : Int) < a) : (a - intOf v).toNat < (a - intOf v').toNat := by
  rw [hv, hv']; simp only [intOf]; omega
theorem meas_natV {x : Int} {v v' : Value} {n k : Nat} (hv : v = .int .i64 x) (hv' : v' = .int .i64 (k : Int)) (hx : x = ((k + 1 : Nat) : Int)) (h : k < n) : n - (intOf v).toNat < n - (intOf v').toNat := by
  rw [hv, hv']; simp only [intOf]; omega
theorem meas_up {a x : Int} {n : Nat} (hx : x = ((n + 1 : Nat) : Int)) (h : (n : Int) < a) : (a - x).toNat < (a - (n : Int)).toNat := by omega
theorem meas_nat {n k : Nat} {x : Int} (hx : x = ((k + 1 : Nat) : Int)) (h : k < n) : n - x.toNat < n - ((k : Nat) : Int).toNat := by omega
theorem wrap_next {k n : Nat} (h : k < n) (hn : n ≤ 256) : wrap64 ((k : Int) + 1) = ((k + 1 : Nat) : Int) := by rw [wrap64_of (by omega) (by omega)]; omega
theorem wrap_nexti {k : Nat} {a : Int} (h : (k : Int) < a) (hn : a ≤ 16) : wrap64 ((k : Int) + 1) = ((k + 1 : Nat) : Int) := by rw [wrap64_of (by omega) (by omega)]; omega
theorem mod_next {j m x : Nat} (h1 : ¬ j % m < x) (h2 : j % m < x + 1) : j % m = x := by omega

set_option maxHeartbeats 4000000 in
set_option maxRecDepth 100000 in
theorem sSweepRows_yes (a b : Int) (u : Value) (xs : List Nat) (v : Value) (zs : List Nat) (w : World) (hu : FS .f32 w u xs) (hn : xs.length ≤ 1048576) (hv : FS .f32 w v zs) (hn2 : zs.length ≤ 1048576) (h1 : fieldOk a b xs.length = true) (h2 : fieldOk a b zs.length = true) :
    Calls Try.prog 26 #[GV a b, u, v] w fun e w' => (∃ x, e = .returned (.tuple #[x, .bool true]) ∧ FRes w.heap.size w' x xs.length (rwsF a b xs zs)) ∧ Below w.heap.size w w' := by
  obtain ⟨i0, hi, hz0, hz1, hz2⟩ := info_parts F32info
  have HU := Lib.hid hu; have HV := Lib.hid hv
  have HN := Lib.hid hn; have HN2 := Lib.hid hn2
  obtain ⟨a1, c1, rfl, hlc, hcm, hwf, hmem⟩ := hu
  obtain ⟨a2, c2, rfl, hlc2, hcm2, hwf2, hmem2⟩ := hv
  have HWX := Lib.hid hwf
  have HP := Lib.hid (gp_new w a b 27)
  have HPB := Lib.hid (heap_alloc_new w (.cells #[.int .i64 a, .int .i64 b] 27))
  have hb0 := (Below.refl w.heap.size w).alloc (Nat.le_refl _) (.cells #[.int .i64 a, .int .i64 b] 27)
  clear hmem hlc hcm hwf hmem2 hlc2 hcm2 hwf2 hn hn2
  have HLL := Lib.hid (show zs.length = xs.length by have := (fieldOk_true h1).2.2.2.2.1; have := (fieldOk_true h2).2.2.2.2.1; omega)
  have HA := Lib.hid (fieldOk_true h1)
  have HGO := Lib.hid (show gridOk a b = true from decide_eq_true ⟨HA.out.1, HA.out.2.1, HA.out.2.2.1, HA.out.2.2.2.1⟩)
  have hpos : 0 < xs.length := by
    have := HA.out; have h4 : 4 * 4 ≤ a * b := Int.mul_le_mul this.1 this.2.2.1 (by omega) (by omega); omega
  have H1 := Lib.hid h1; have H2 := Lib.hid h2
  clear h1 h2
  go_enter Try.func26, Try.ntmps26
  go_wp2_with fail
  generalize w.alloc (.cells #[.int .i64 a, .int .i64 b] 27) = w1 at hb0 HP HPB ⊢
  refine (sFits_any _ a b a1 xs.length c1 _ HP.out).mono ?_; rw [H1.out]; rintro e w' ⟨rfl, m1, rfl⟩
  go_wp2_with fail
  refine (sFits_any _ a b a2 zs.length c2 _ (GP.drewN HP.out m1)).mono ?_; rw [H2.out]; rintro e w' ⟨rfl, m2, rfl⟩
  go_wp2_with fail
  have hbb := below_drewN hb0 (m1 + m2)
  have HPB2 := Lib.hid (show (w1.drewN (m1 + m2)).heap[w.heap.size]? = _ from HPB.out)
  generalize w1.drewN (m1 + m2) = w2 at hbb HPB2 ⊢
  refine (sOwn_any _ xs _ (HU.out.below hbb) hpos HN.out).mono ?_; rintro e w3 ⟨⟨p, rfl, hp⟩, hb3⟩
  obtain ⟨gv, capv, rfl, hrv⟩ := RWr.of hp hpos
  have HB3 := Lib.hid (hbb.trans (hb3.mono hbb.size))
  have HPB3 := Lib.hid ((hb3.block w.heap.size (Array.getElem?_eq_some_iff.1 HPB2.out).1).trans HPB2.out)
  have HKV := Lib.hid (show w.heap.size ≠ gv from by have := (hrv.lt gv rfl).1; have := (Array.getElem?_eq_some_iff.1 HPB2.out).1; omega)
  have HRV := Lib.hid (RWr.le hrv hbb.size)
  clear hp hb3 hrv hbb
  go_wp2_with fail
  refine (sLevel_any _ zs _ (HV.out.below HB3.out) HN2.out).mono ?_; rintro e w4 ⟨⟨q, rfl, hq⟩, hb4⟩
  rw [HLL.out] at hq
  obtain ⟨gl, capl, ls, rfl, hlsl, hlse, hlso⟩ := fres_row hq hpos
  have hrl : RW w3.heap.size w4 gl capl ls := by show w4.ownsRow _ _ _ (.slice _ ls.length _) ls.length _; rw [hlsl]; exact hlso
  have HNE := Lib.hid (show gl ≠ gv from by have := (hrl.lt gl rfl).1; have := (HRV.out.lt gv rfl).2; omega)
  have HRL := Lib.hid (RWr.le hrl HB3.out.size)
  have HRV4 := Lib.hid (HRV.out.still hb4)
  have HPB4 := Lib.hid ((hb4.block w.heap.size (Array.getElem?_eq_some_iff.1 HPB3.out).1).trans HPB3.out)
  have HB4 := Lib.hid (HB3.out.trans (hb4.mono HB3.out.size))
  have HLS := Lib.hid hlsl; have HLE := Lib.hid hlse
  have HWL := Lib.hid (show ∀ x ∈ ls, x < 2 ^ FloatKind.f32.format.width from (EqOn.eqs hlse hlsl).lt)
  have HE0 := Lib.hid (show EqOn xs (rowsF a b (fun j => cn .f32 (ls.getD j 0)) (fun j => cn .f32 (xs.getD j 0)) 0) 0 xs.length from fun q _ hq => FS.is HWX.out q hq)
  clear hq hlsl hlse hlso hrl hb4 HRV HPB2 HPB3 HB3
  go_wp2_with fail
  go_loopw [10] (fun i wr => ∃ (y : Nat) (es : List Nat), i = .int .i64 (y : Int) ∧ (y : Int) ≤ b ∧ Hid (es.length = xs.length) ∧ Hid (∀ x ∈ es, x < 2 ^ FloatKind.f32.format.width) ∧ Hid (EqOn es (rowsF a b (fun j => cn .f32 (ls.getD j 0)) (fun j => cn .f32 (xs.getD j 0)) y) 0 xs.length) ∧ Hid (RW w.heap.size wr gv capv es) ∧ Hid (RW w.heap.size wr gl capl ls) ∧ Hid (wr.heap[w.heap.size]? = some (.cells #[.int .i64 a, .int .i64 b] 27)) ∧ Hid (Below w.heap.size w wr)) (fun i _ => (b - intOf i).toNat)
  case atStart => exact ⟨0, xs, rfl, by have := HA.out; omega, Lib.hid rfl, HWX, HE0, HRV4, HRL, HPB4, HB4⟩
  case round =>
    clear HRV4 HRL HPB4 HB4 HE0
    obtain ⟨y, es, rfl, hyb, HEL, HEW, HE, HVE, HVL, HG, HB⟩ := hrel
    have g0 := (pair_cells HG.out).1; have g1 := (pair_cells HG.out).2.1
    by_cases hlt : (y : Int) < b
    · have HLT := Lib.hid hlt
      have hwy : wrap64 ((y : Int) + 1) = ((y + 1 : Nat) : Int) := wrap_nexti hlt HA.out.2.2.2.1
      have HWY := Lib.hid hwy
      clear hwy
      go_wp2_with fail
      clear g0 g1
      have o1 := own_start w.heap.size wr HB.out.size
      have d1 := (Below.refl wr.heap.size wr).alloc (Nat.le_refl _) (.cells #[] 37)
      have HRS := Lib.hid o1
      have HVE1 := Lib.hid (HVE.out.still d1); have HVL1 := Lib.hid (HVL.out.still d1)
      have HG1 := Lib.hid ((d1.block w.heap.size (Array.getElem?_eq_some_iff.1 HG.out).1).trans HG.out)
      have HB1 := Lib.hid (HB.out.trans (d1.mono HB.out.size))
      have HGR := Lib.hid (show wr.heap.size ≠ gv ∧ wr.heap.size ≠ gl ∧ wr.heap.size ≠ w.heap.size by have q1 := (HVE.out.lt gv rfl).2; have q2 := (HVL.out.lt gl rfl).2; have q3 := (Array.getElem?_eq_some_iff.1 HG.out).1; omega)
      clear o1 d1 HVE HVL HG HB
      generalize wr.alloc (.cells #[] 37) = w5 at HRS HVE1 HVL1 HG1 HB1 ⊢
      generalize wr.heap.size = gr0 at HRS HGR ⊢
      go_loopw [11, 12] (fun s i wr => ∃ rs : List Nat, i = .int .i64 (rs.length : Int) ∧ (rs.length : Int) ≤ a ∧ Hid (Eqs rs (rightF a b (fun j => cn .f32 (ls.getD j 0)) (fun j => cn .f32 (es.getD j 0)) y)) ∧ (∃ g cap, s = .slice (some ⟨g, 0, none⟩) rs.length cap ∧ Hid (g ≠ gv ∧ g ≠ gl ∧ g ≠ w.heap.size) ∧ Hid (wr.ownsRow w.heap.size 37 1 s rs.length (rs.map (Value.float .f32)))) ∧ Hid (RW w.heap.size wr gv capv es) ∧ Hid (RW w.heap.size wr gl capl ls) ∧ Hid (wr.heap[w.heap.size]? = some (.cells #[.int .i64 a, .int .i64 b] 27)) ∧ Hid (Below w.heap.size w wr)) (fun _ i _ => (a - intOf i).toNat)
      case atStart => exact ⟨[], rfl, by have := HA.out; show (0 : Int) ≤ a; omega, Lib.hid (Eqs.nil _), ⟨_, _, rfl, HGR, HRS⟩, HVE1, HVL1, HG1, HB1⟩
      case round =>
        clear HRS HVE1 HVL1 HG1 HB1 HGR
        obtain ⟨rs, rfl, hra, HRE, ⟨g, cap, rfl, HGG, HO⟩, HVE, HVL, HG, HB⟩ := hrel
        have g0 := (pair_cells HG.out).1; have g1 := (pair_cells HG.out).2.1
        by_cases hlx : (rs.length : Int) < a
        · have HLX := Lib.hid hlx
          obtain ⟨k, hk0, hk1, q1, q2, q3, q4, hkn, iK1, iK0, hkab, hku, hkv⟩ := place_facts (x := rs.length) (y := y) (And.intro HA.out.1 (And.intro HA.out.2.1 (And.intro HA.out.2.2.1 HA.out.2.2.2.1))) HA.out.2.2.2.2.1 hlx hlt
          have hwx : wrap64 ((rs.length : Int) + 1) = ((rs.length + 1 : Nat) : Int) := wrap_nexti hlx HA.out.2.1
          have HWXX := Lib.hid hwx
          have HK0 := Lib.hid hk0; have HKN := Lib.hid hkn; have HKA := Lib.hid hkab; have HKU := Lib.hid (And.intro hku hkv)
          have HI1 := Lib.hid iK1; have HI0 := Lib.hid iK0
          clear hk0 hk1 hkn hkab hku hkv hwx iK1 iK0
          go_wp2_with fail
          clear g0 g1 q1 q2 q3 q4
          have HNB := sNear_any _ a b k wr (gp_of HG.out) HGO.out HKA.out
          rw [HKU.out.1, HKU.out.2] at HNB
          have F2 := nbI_facts (a := a) (b := b) 0 (-1) rs.length y HA.out.1 HA.out.2.2.1
          have F3 := nbI_facts (a := a) (b := b) 0 1 rs.length y HA.out.1 HA.out.2.2.1
          have hF : rightF a b (fun j => cn .f32 (ls.getD j 0)) (fun j => cn .f32 (es.getD j 0)) y rs.length = fop .add .f32 (fop .add .f32 (cn .f32 (ls.getD k 0)) (cn .f32 (es.getD (nbI a b 0 (-1) rs.length y) 0))) (cn .f32 (es.getD (nbI a b 0 1 rs.length y) 0)) := by unfold rightF; rw [HK0.out]
          generalize nbI a b (-1) 0 rs.length y = n0 at HNB
          generalize nbI a b 1 0 rs.length y = n1 at HNB
          generalize nbI a b 0 (-1) rs.length y = n2 at F2 HNB hF
          generalize nbI a b 0 1 rs.length y = n3 at F3 HNB hF
          have l2 : n2 < xs.length := lt_of_ar HA.out.2.2.2.2.1 F2.2
          have l3 : n3 < xs.length := lt_of_ar HA.out.2.2.2.2.1 F3.2
          refine HNB.mono ?_; rintro e w6 ⟨kk, rfl, hkk, hnear, hb6⟩
          have HVE6 := Lib.hid (HVE.out.still hb6); have HVL6 := Lib.hid (HVL.out.still hb6)
          have HG6 := Lib.hid ((hb6.block w.heap.size (Array.getElem?_eq_some_iff.1 HG.out).1).trans HG.out)
          have HO6 := Lib.hid (fown_below (show FOwn w.heap.size wr _ rs from HO.out) hb6)
          have HB6 := Lib.hid (HB.out.trans (hb6.mono HB.out.size))
          have HKK := Lib.hid (show kk ≠ g by have := (HO.out.lt g rfl).2; omega)
          have HNR := Lib.hid hnear
          have I2 := FS.is HEW.out n2 (by rw [HEL.out]; exact l2)
          have I3 := FS.is HEW.out n3 (by rw [HEL.out]; exact l3)
          have IL := FS.is HWL.out k (by rw [HLS.out]; exact HKN.out)
          have C2 := Lib.hid (fun (w' : World) (h : RW w.heap.size w' gv capv es) => h.at (show n2 < es.length by rw [HEL.out]; exact l2))
          have C3 := Lib.hid (fun (w' : World) (h : RW w.heap.size w' gv capv es) => h.at (show n3 < es.length by rw [HEL.out]; exact l3))
          have CL := Lib.hid (fun (w' : World) (h : RW w.heap.size w' gl capl ls) => h.at (show k < ls.length by rw [HLS.out]; exact HKN.out))
          have HF := Lib.hid hF
          generalize cn .f32 (es.getD n2 0) = Y2 at I2 HF
          generalize cn .f32 (es.getD n3 0) = Y3 at I3 HF
          generalize cn .f32 (ls.getD k 0) = X at IL HF
          generalize es.getD n2 0 = y2 at I2 C2
          generalize es.getD n3 0 = y3 at I3 C3
          generalize ls.getD k 0 = x at IL CL
          have j2 : (n2 : Int) < (xs.length : Int) := by omega
          have j3 : (n3 : Int) < (xs.length : Int) := by omega
          have m2 : (0 : Int) ≤ (n2 : Int) := Int.natCast_nonneg _
          have m3 : (0 : Int) ≤ (n3 : Int) := Int.natCast_nonneg _
          have iK1 := HI1.out; have iK0 := HI0.out
          clear hF F2 F3 l2 l3 hb6 hnear hkk HVE HVL HG HO HB hlx
          go_wp2_with fail
          have h1 := CL.out w6 HVL6.out
          have h2 := (cellsFour HNR.out).2.2.1
          have h3 := C2.out w6 HVE6.out
          have h4 := (cellsFour HNR.out).2.2.2
          have h5 := C3.out w6 HVE6.out
          refine wp_region_noPanic ?_
          refine wp_region_held_drew (S := (fun w' => w'.cell? ⟨gl, k, none⟩ = some (.float .f32 x) ∧ w'.cell? ⟨kk, 2, none⟩ = some (.int .i64 n2) ∧ w'.cell? ⟨gv, n2, none⟩ = some (.float .f32 y2) ∧ w'.cell? ⟨kk, 3, none⟩ = some (.int .i64 n3) ∧ w'.cell? ⟨gv, n3, none⟩ = some (.float .f32 y3))) (by kernel_rfl) ⟨h1, h2, h3, h4, h5⟩ (fun hHeld => ?_)
          ((refine wpAnyH_take (i := 0) (v := ?_) rfl (by kernel_rfl) (by kernel_rfl) (by kernel_rfl) (fun _ _ _ h => h) (Or.inl ⟨by rfl, ?_⟩) (by assumption) ?_; rotate_left; (· intro w hSw; (try dsimp only at hSw); go_simp; first | done | with_reducible rfl); (try simp only [List.getElem_toArray, List.getElem_cons_zero, List.getElem_cons_succ, Act.put, List.setIfInBounds_toArray, List.set_cons_zero, List.set_cons_succ])); (refine wpAnyH_take (i := 1) (v := ?_) rfl (by kernel_rfl) (by kernel_rfl) (by kernel_rfl) (fun _ _ _ h => h) (Or.inl ⟨by rfl, ?_⟩) (by assumption) ?_; rotate_left; (· intro w hSw; (try dsimp only at hSw); go_simp; first | done | with_reducible rfl); (try simp only [List.getElem_toArray, List.getElem_cons_zero, List.getElem_cons_succ, Act.put, List.setIfInBounds_toArray, List.set_cons_zero, List.set_cons_succ])); (refine wpAnyH_take (i := 2) (v := ?_) rfl (by kernel_rfl) (by kernel_rfl) (by kernel_rfl) (fun _ _ _ h => h) (Or.inl ⟨by rfl, ?_⟩) (by assumption) ?_; rotate_left; (· intro w hSw; (try dsimp only at hSw); go_simp; first | done | with_reducible rfl); (try simp only [List.getElem_toArray, List.getElem_cons_zero, List.getElem_cons_succ, Act.put, List.setIfInBounds_toArray, List.set_cons_zero, List.set_cons_succ])); (refine wpAnyH_take (i := 3) (v := ?_) rfl (by kernel_rfl) (by kernel_rfl) (by kernel_rfl) (fun _ _ _ h => h) (Or.inl ⟨by rfl, ?_⟩) (by assumption) ?_; rotate_left; (· intro w hSw; (try dsimp only at hSw); go_simp; first | done | with_reducible rfl); (try simp only [List.getElem_toArray, List.getElem_cons_zero, List.getElem_cons_succ, Act.put, List.setIfInBounds_toArray, List.set_cons_zero, List.set_cons_succ])); (refine wpAnyH_take (i := 4) (v := ?_) rfl (by kernel_rfl) (by kernel_rfl) (by kernel_rfl) (fun _ _ _ h => h) (Or.inl ⟨by rfl, ?_⟩) (by assumption) ?_; rotate_left; (· intro w hSw; (try dsimp only at hSw); go_simp; first | done | with_reducible rfl); (try simp only [List.getElem_toArray, List.getElem_cons_zero, List.getElem_cons_succ, Act.put, List.setIfInBounds_toArray, List.set_cons_zero, List.set_cons_succ])); (refine wpAnyH_take (i := 5) (v := ?_) rfl (by kernel_rfl) (by kernel_rfl) (by kernel_rfl) (fun _ _ _ h => h) (Or.inl ⟨by rfl, ?_⟩) (by assumption) ?_; rotate_left; (· intro w hSw; (try dsimp only at hSw); go_simp; first | done | with_reducible rfl); (try simp only [List.getElem_toArray, List.getElem_cons_zero, List.getElem_cons_succ, Act.put, List.setIfInBounds_toArray, List.set_cons_zero, List.set_cons_succ])); (refine wpAnyH_take (i := 6) (v := ?_) rfl (by kernel_rfl) (by kernel_rfl) (by kernel_rfl) (fun _ _ _ h => h) (Or.inl ⟨by rfl, ?_⟩) (by assumption) ?_; rotate_left; (· intro w hSw; (try dsimp only at hSw); go_simp; first | done | with_reducible rfl); (try simp only [List.getElem_toArray, List.getElem_cons_zero, List.getElem_cons_succ, Act.put, List.setIfInBounds_toArray, List.set_cons_zero, List.set_cons_succ])); (refine wpAnyH_take (i := 7) (v := ?_) rfl (by kernel_rfl) (by kernel_rfl) (by kernel_rfl) (fun _ _ _ h => h) (Or.inl ⟨by rfl, ?_⟩) (by assumption) ?_; rotate_left; (· intro w hSw; (try dsimp only at hSw); go_simp; first | done | with_reducible rfl); (try simp only [List.getElem_toArray, List.getElem_cons_zero, List.getElem_cons_succ, Act.put, List.setIfInBounds_toArray, List.set_cons_zero, List.set_cons_succ])); (refine wpAnyH_take (i := 8) (v := ?_) rfl (by kernel_rfl) (by kernel_rfl) (by kernel_rfl) (fun _ _ _ h => h) (Or.inl ⟨by rfl, ?_⟩) (by assumption) ?_; rotate_left; (· intro w hSw; (try dsimp only at hSw); go_simp; first | done | with_reducible rfl); (try simp only [List.getElem_toArray, List.getElem_cons_zero, List.getElem_cons_succ, Act.put, List.setIfInBounds_toArray, List.set_cons_zero, List.set_cons_succ])); (refine wpAnyH_take (i := 9) (v := ?_) rfl (by kernel_rfl) (by kernel_rfl) (by kernel_rfl) (fun _ _ _ h => h) (Or.inl ⟨by rfl, ?_⟩) (by assumption) ?_; rotate_left; (· intro w hSw; (try dsimp only at hSw); go_simp; first | done | with_reducible rfl); (try simp only [List.getElem_toArray, List.getElem_cons_zero, List.getElem_cons_succ, Act.put, List.setIfInBounds_toArray, List.set_cons_zero, List.set_cons_succ])); (refine wpAnyH_take (i := 10) (v := ?_) rfl (by kernel_rfl) (by kernel_rfl) (by kernel_rfl) (fun _ _ _ h => h) (Or.inl ⟨by rfl, ?_⟩) (by assumption) ?_; rotate_left; (· intro w hSw; (try dsimp only at hSw); go_simp; first | done | with_reducible rfl); (try simp only [List.getElem_toArray, List.getElem_cons_zero, List.getElem_cons_succ, Act.put, List.setIfInBounds_toArray, List.set_cons_zero, List.set_cons_succ])); (refine wpAnyH_take (i := 12) (v := ?_) rfl (by kernel_rfl) (by kernel_rfl) (by kernel_rfl) (fun _ _ _ h => h) (Or.inl ⟨by rfl, ?_⟩) (by assumption) ?_; rotate_left; (· intro w hSw; (try dsimp only at hSw); go_simp; first | done | with_reducible rfl); (try simp only [List.getElem_toArray, List.getElem_cons_zero, List.getElem_cons_succ, Act.put, List.setIfInBounds_toArray, List.set_cons_zero, List.set_cons_succ])); (refine wpAnyH_take (i := 13) (v := ?_) rfl (by kernel_rfl) (by kernel_rfl) (by kernel_rfl) (fun _ _ _ h => h) (Or.inl ⟨by rfl, ?_⟩) (by assumption) ?_; rotate_left; (· intro w hSw; (try dsimp only at hSw); go_simp; first | done | with_reducible rfl); (try simp only [List.getElem_toArray, List.getElem_cons_zero, List.getElem_cons_succ, Act.put, List.setIfInBounds_toArray, List.set_cons_zero, List.set_cons_succ])); (refine wpAnyH_take (i := 14) (v := ?_) rfl (by kernel_rfl) (by kernel_rfl) (by kernel_rfl) (fun _ _ _ h => h) (Or.inl ⟨by rfl, ?_⟩) (by assumption) ?_; rotate_left; (· intro w hSw; (try dsimp only at hSw); go_simp; first | done | with_reducible rfl); (try simp only [List.getElem_toArray, List.getElem_cons_zero, List.getElem_cons_succ, Act.put, List.setIfInBounds_toArray, List.set_cons_zero, List.set_cons_succ])); (refine wpAnyH_take (i := 15) (v := ?_) rfl (by kernel_rfl) (by kernel_rfl) (by kernel_rfl) (fun _ _ _ h => h) (Or.inl ⟨by rfl, ?_⟩) (by assumption) ?_; rotate_left; (· intro w hSw; (try dsimp only at hSw); go_simp; first | done | with_reducible rfl); (try simp only [List.getElem_toArray, List.getElem_cons_zero, List.getElem_cons_succ, Act.put, List.setIfInBounds_toArray, List.set_cons_zero, List.set_cons_succ])); (refine wpAnyH_take (i := 16) (v := ?_) rfl (by kernel_rfl) (by kernel_rfl) (by kernel_rfl) (fun _ _ _ h => h) (Or.inl ⟨by rfl, ?_⟩) (by assumption) ?_; rotate_left; (· intro w hSw; (try dsimp only at hSw); go_simp; first | done | with_reducible rfl); (try simp only [List.getElem_toArray, List.getElem_cons_zero, List.getElem_cons_succ, Act.put, List.setIfInBounds_toArray, List.set_cons_zero, List.set_cons_succ])); (refine wpAnyH_take (i := 17) (v := ?_) rfl (by kernel_rfl) (by kernel_rfl) (by kernel_rfl) (fun _ _ _ h => h) (Or.inl ⟨by rfl, ?_⟩) (by assumption) ?_; rotate_left; (· intro w hSw; (try dsimp only at hSw); go_simp; first | done | with_reducible rfl); (try simp only [List.getElem_toArray, List.getElem_cons_zero, List.getElem_cons_succ, Act.put, List.setIfInBounds_toArray, List.set_cons_zero, List.set_cons_succ])))
          (refine wpAnyH_ready (rs := [11]) (by kernel_rfl) (by simp) ?_; refine AllReadyH.cons (i := 11) rfl (fun K hK => ?_) AllReadyH.nil)
          refine hstep_fa rfl .add 37 37 _ _ rfl rfl .f32 x y2 rfl rfl IL I2 ?_
          intro r1 n1a hr1
          (refine hK.out _ _ (⟨h1, h2, h3, h4, h5⟩) (fun hHeld => ?_); clear hK K; (try simp only [List.getElem_toArray, List.getElem_cons_zero, List.getElem_cons_succ, Act.put, List.setIfInBounds_toArray, List.set_cons_zero, List.set_cons_succ]))
          (refine wpAnyH_ready (rs := [18]) (by kernel_rfl) (by simp) ?_; refine AllReadyH.cons (i := 18) rfl (fun K hK => ?_) AllReadyH.nil)
          refine hstep_fa rfl .add 37 37 _ _ rfl rfl .f32 r1 y3 rfl rfl hr1 I3 ?_
          intro r n2a hr
          (refine hK.out _ _ (⟨h1, h2, h3, h4, h5⟩) (fun hHeld => ?_); clear hK K; (try simp only [List.getElem_toArray, List.getElem_cons_zero, List.getElem_cons_succ, Act.put, List.setIfInBounds_toArray, List.set_cons_zero, List.set_cons_succ]))
          (refine wpAnyH_ready (rs := [19]) (by kernel_rfl) (by simp) ?_; refine AllReadyH.cons (i := 19) rfl (fun K hK => ?_) AllReadyH.nil)
          go_simp
          have hd4 := (below_drewN (Below.refl w6.heap.size w6) (1 + n1a + n2a)).alloc (Nat.le_refl _) (.cells #[.float .f32 r] 37)
          have hown3 := World.ownsRow.kept HO6.out (grown_below (row := none) hd4) (.inr (by simp [Value.ownBlock]))
          have HVE7 := Lib.hid (HVE6.out.still hd4); have HVL7 := Lib.hid (HVL6.out.still hd4)
          have HG7 := Lib.hid ((hd4.block w.heap.size (Array.getElem?_eq_some_iff.1 HG6.out).1).trans HG6.out)
          have HN7 := Lib.hid ((hd4.block kk (Array.getElem?_eq_some_iff.1 HNR.out).1).trans HNR.out)
          have HB7 := Lib.hid (HB6.out.trans (hd4.mono HB6.out.size))
          (refine hK.out _ _ (⟨CL.out _ HVL7.out, (cellsFour HN7.out).2.2.1, C2.out _ HVE7.out, (cellsFour HN7.out).2.2.2, C3.out _ HVE7.out⟩) (fun hHeld => ?_); clear hK K; (try simp only [List.getElem_toArray, List.getElem_cons_zero, List.getElem_cons_succ, Act.put, List.setIfInBounds_toArray, List.set_cons_zero, List.set_cons_succ]))
          (refine wpAnyH_ready (rs := [20]) (by kernel_rfl) (by simp) ?_; refine AllReadyH.cons (i := 20) rfl (fun K hK => ?_) AllReadyH.nil)
          refine step_append_lies _ (by rfl) _ _ _ (by rfl) w.heap.size 37 i0 _ 1 4 Try.underlying24 hi hz0 hz1 hz2 rfl (by omega) (.slice (some ⟨g, 0, none⟩) rs.length cap) rs.length (rs.map (Value.float .f32)) (by rfl) hown3
            ⟨w6.heap.size, 0, none⟩ 1 1 [.float .f32 r] (by rfl) (by rfl) (World.news_of_block (cs := #[.float .f32 r]) (t := 37) (fr := (0, 0)) (heap_alloc_new _ _)) (by simp [Value.oneCell'])
            (by have := HA.out; have := HLX.out; omega) (by have := HA.out; have := HLX.out; unfold maxLen; omega) (by have := HA.out; have := HLX.out; omega) HB7.out.size (w6.heap.size + 1) (by simp) ?_
          intro g2 cap2 w8 hown4 hgrow hat hltg
          have HB8 := Lib.hid (HB7.out.grown hgrow HB7.out.size (fun k hk => (hown3.lt k hk).1))
          have HVE8 := Lib.hid (World.ownsRow.kept HVE7.out hgrow (.inr (by simp [Value.ownBlock]; exact fun e => HGG.out.1 e.symm)))
          have HVL8 := Lib.hid (World.ownsRow.kept HVL7.out hgrow (.inr (by simp [Value.ownBlock]; exact fun e => HGG.out.2.1 e.symm)))
          have HG8 := Lib.hid ((hgrow.block w.heap.size (Array.getElem?_eq_some_iff.1 HG7.out).1 (by simp [Value.ownBlock]; exact fun e => HGG.out.2.2 e.symm)).trans HG7.out)
          have HN8 := Lib.hid ((hgrow.block kk (Array.getElem?_eq_some_iff.1 HN7.out).1 (by simp [Value.ownBlock]; exact HKK.out)).trans HN7.out)
          have HGG8 := Lib.hid (show g2 ≠ gv ∧ g2 ≠ gl ∧ g2 ≠ w.heap.size from hat.elim (fun h => by simp [Value.ownBlock] at h; rw [← h]; exact HGG.out) (fun h => by have q1 := (HVE6.out.lt gv rfl).2; have q2 := (HVL6.out.lt gl rfl).2; have q3 := (Array.getElem?_eq_some_iff.1 HG6.out).1; omega))
          have HO8 := Lib.hid (show w8.ownsRow w.heap.size 37 1 (.slice (some ⟨g2, 0, none⟩) (rs.length + 1) cap2) (rs.length + 1) ((rs ++ [r]).map (Value.float .f32)) by simpa using hown4)
          have HRE8 := Lib.hid (HRE.out.snoc (show Is .f32 r (rightF a b (fun j => cn .f32 (ls.getD j 0)) (fun j => cn .f32 (es.getD j 0)) y rs.length) by rw [HF.out]; exact hr))
          have HL8 := Lib.hid (show (rs ++ [r]).length = rs.length + 1 by simp)
          (refine hK.out _ _ (⟨CL.out _ HVL8.out, (cellsFour HN8.out).2.2.1, C2.out _ HVE8.out, (cellsFour HN8.out).2.2.2, C3.out _ HVE8.out⟩) (fun hHeld => ?_); clear hK K; (try simp only [List.getElem_toArray, List.getElem_cons_zero, List.getElem_cons_succ, Act.put, List.setIfInBounds_toArray, List.set_cons_zero, List.set_cons_succ]))
          (refine wpAnyH_ready (rs := [21]) (by kernel_rfl) (by simp) ?_; refine AllReadyH.cons (i := 21) rfl (fun K hK => ?_) AllReadyH.nil)
          go_simp
          (refine hK.out _ _ (⟨CL.out _ HVL8.out, (cellsFour HN8.out).2.2.1, C2.out _ HVE8.out, (cellsFour HN8.out).2.2.2, C3.out _ HVE8.out⟩) (fun hHeld => ?_); clear hK K; (try simp only [List.getElem_toArray, List.getElem_cons_zero, List.getElem_cons_succ, Act.put, List.setIfInBounds_toArray, List.set_cons_zero, List.set_cons_succ]))
          (refine wpAnyH_done (by kernel_rfl) ?_ _; refine NoPanic.normal ?_)
          clear hHeld h1 h2 h3 h4 h5 hr1 hr hd4 hown3 hown4 hgrow hat hltg iK0 iK1 j2 j3 m2 m3
          go_wp2_with fail
          go_roundw
          case rel => exact ⟨rs ++ [r], by rw [HL8.out]; first | exact congrArg (Value.int .i64) HWXX.out | go_num, by rw [HL8.out]; have := HLX.out; omega, HRE8, ⟨g2, cap2, by rw [HL8.out], HGG8, by rw [HL8.out]; exact HO8.out⟩, HVE8, HVL8, HG8, HB8⟩
          case measure => exact meas_upV rfl rfl HWXX.out HLX.out
        · have hra2 : (rs.length : Int) = a := by omega
          have HRL := Lib.hid (show rs.length = a.toNat by omega)
          have hrn : (rs.length : Int) ≤ 256 := by have := HA.out; omega
          have HROW := Lib.hid (show RW w.heap.size wr g cap rs from HO.out)
          have HRF := Lib.hid (HROW.out.fs HRE.out.lt)
          have HR3 := Lib.hid (show 3 ≤ rs.length ∧ rs.length ≤ 256 by have := HA.out; omega)
          clear hra2 hrn HO
          go_wp2_with fail
          clear g0 g1
          refine (sRing_any _ rs _ HRF.out HR3.out.1 HR3.out.2).mono ?_; rintro e w6 ⟨⟨q, rfl, hq⟩, hb6⟩
          obtain ⟨gq, capq, qs, rfl, hql, hqe, hqo⟩ := fres_row hq (by have := HR3.out; omega)
          have hrq : RW wr.heap.size w6 gq capq qs := by show w6.ownsRow _ _ _ (.slice _ qs.length _) qs.length _; rw [hql]; exact hqo
          have HVE6 := Lib.hid (HVE.out.still hb6); have HVL6 := Lib.hid (HVL.out.still hb6)
          have HG6 := Lib.hid ((hb6.block w.heap.size (Array.getElem?_eq_some_iff.1 HG.out).1).trans HG.out)
          have HB6 := Lib.hid (HB.out.trans (hb6.mono HB.out.size))
          have HQV := Lib.hid (show gq ≠ gv by have q1 := (hrq.lt gq rfl).1; have q2 := (HVE.out.lt gv rfl).2; omega)
          have HRQ := Lib.hid (RWr.le hrq HB.out.size); have HQL := Lib.hid hql; have HQE := Lib.hid hqe
          clear hq hql hqe hqo hrq hb6 HVE HVL HG HB
          go_wp2_with fail
          go_loopw [75] (fun i wr => ∃ (x : Nat) (fs : List Nat), i = .int .i64 (x : Int) ∧ x ≤ rs.length ∧ Hid (fs.length = xs.length) ∧ Hid (∀ q ∈ fs, q < 2 ^ FloatKind.f32.format.width) ∧ Hid (∀ j, j < xs.length → fs.getD j 0 = if j / a.toNat = y ∧ j % a.toNat < x then qs.getD (j % a.toNat) 0 else es.getD j 0) ∧ Hid (RW w.heap.size wr gv capv fs) ∧ Hid (RW w.heap.size wr gq capq qs) ∧ Hid (RW w.heap.size wr gl capl ls) ∧ Hid (wr.heap[w.heap.size]? = some (.cells #[.int .i64 a, .int .i64 b] 27)) ∧ Hid (Below w.heap.size w wr)) (fun i _ => rs.length - (intOf i).toNat)
          case atStart => exact ⟨0, es, rfl, Nat.zero_le _, HEL, HEW, Lib.hid (fun j _ => by rw [if_neg (fun h => absurd h.2 (Nat.not_lt_zero _))]), HVE6, HRQ, HVL6, HG6, HB6⟩
          case round =>
            clear HVE6 HRQ HVL6 HG6 HB6
            obtain ⟨x, fs, rfl, hxr, HFL, HFW, HFE, HVF, HRQ, HVL, HG, HB⟩ := hrel
            by_cases hlq : x < rs.length
            · have g0 := (pair_cells HG.out).1; have g1 := (pair_cells HG.out).2.1
              have hxa : (x : Int) < a := by have := HRL.out; have := HA.out; omega
              obtain ⟨k, hk0, hk1, q1, q2, q3, q4, hkn, iK1, iK0, hkab, hku, hkv⟩ := place_facts (x := x) (y := y) (And.intro HA.out.1 (And.intro HA.out.2.1 (And.intro HA.out.2.2.1 HA.out.2.2.2.1))) HA.out.2.2.2.2.1 hxa hlt
              have HK0 := Lib.hid hk0; have HKN := Lib.hid hkn; have HKU := Lib.hid (And.intro hku hkv)
              have xq := HRQ.out.at (show x < qs.length by rw [HQL.out]; exact hlq)
              have ixq := HQE.out x (Nat.zero_le _) hlq
              have iX0 : (0 : Int) ≤ (x : Int) := Int.natCast_nonneg _
              have iX1 : (x : Int) < (rs.length : Int) := by omega
              have HLQ := Lib.hid hlq
              have HWQ := Lib.hid (wrap_next hlq HR3.out.2)
              have hf := HVF.out.frozenAt k
              have xv := HVF.out.at (show k < fs.length by rw [HFL.out]; exact hkn)
              generalize hz : qs.getD x 0 = z at xq ixq
              generalize ringV rs x = Z at ixq
              have HZ := Lib.hid hz
              clear hk0 hk1 hkn hkab hku hkv hz hxa
              go_wp2_with fail
              refine wp_region_noPanic ?_
              refine wp_region_held_drew (S := fun w' => w'.cell? ⟨w.heap.size, 0, none⟩ = some (.int .i64 a) ∧ w'.cell? ⟨gq, x, none⟩ = some (.float .f32 z)) (by kernel_rfl) ⟨g0, xq⟩ (fun hHeld => ?_)
              ((refine wpAnyH_take (i := 0) (v := ?_) rfl (by kernel_rfl) (by kernel_rfl) (by kernel_rfl) (fun _ _ _ h => h) (Or.inl ⟨by rfl, ?_⟩) (by assumption) ?_; rotate_left; (· intro w hSw; (try dsimp only at hSw); go_simp; first | done | with_reducible rfl); (try simp only [List.getElem_toArray, List.getElem_cons_zero, List.getElem_cons_succ, Act.put, List.setIfInBounds_toArray, List.set_cons_zero, List.set_cons_succ])); (refine wpAnyH_take (i := 1) (v := ?_) rfl (by kernel_rfl) (by kernel_rfl) (by kernel_rfl) (fun _ _ _ h => h) (Or.inl ⟨by rfl, ?_⟩) (by assumption) ?_; rotate_left; (· intro w hSw; (try dsimp only at hSw); go_simp; first | done | with_reducible rfl); (try simp only [List.getElem_toArray, List.getElem_cons_zero, List.getElem_cons_succ, Act.put, List.setIfInBounds_toArray, List.set_cons_zero, List.set_cons_succ])); (refine wpAnyH_take (i := 2) (v := ?_) rfl (by kernel_rfl) (by kernel_rfl) (by kernel_rfl) (fun _ _ _ h => h) (Or.inl ⟨by rfl, ?_⟩) (by assumption) ?_; rotate_left; (· intro w hSw; (try dsimp only at hSw); go_simp; first | done | with_reducible rfl); (try simp only [List.getElem_toArray, List.getElem_cons_zero, List.getElem_cons_succ, Act.put, List.setIfInBounds_toArray, List.set_cons_zero, List.set_cons_succ])); (refine wpAnyH_take (i := 3) (v := ?_) rfl (by kernel_rfl) (by kernel_rfl) (by kernel_rfl) (fun _ _ _ h => h) (Or.inl ⟨by rfl, ?_⟩) (by assumption) ?_; rotate_left; (· intro w hSw; (try dsimp only at hSw); go_simp; first | done | with_reducible rfl); (try simp only [List.getElem_toArray, List.getElem_cons_zero, List.getElem_cons_succ, Act.put, List.setIfInBounds_toArray, List.set_cons_zero, List.set_cons_succ])); (refine wpAnyH_take (i := 4) (v := ?_) rfl (by kernel_rfl) (by kernel_rfl) (by kernel_rfl) (fun _ _ _ h => h) (Or.inl ⟨by rfl, ?_⟩) (by assumption) ?_; rotate_left; (· intro w hSw; (try dsimp only at hSw); go_simp; first | done | with_reducible rfl); (try simp only [List.getElem_toArray, List.getElem_cons_zero, List.getElem_cons_succ, Act.put, List.setIfInBounds_toArray, List.set_cons_zero, List.set_cons_succ])); (refine wpAnyH_take (i := 5) (v := ?_) rfl (by kernel_rfl) (by kernel_rfl) (by kernel_rfl) (fun _ _ _ h => h) (Or.inl ⟨by rfl, ?_⟩) (by assumption) ?_; rotate_left; (· intro w hSw; (try dsimp only at hSw); go_simp; first | done | with_reducible rfl); (try simp only [List.getElem_toArray, List.getElem_cons_zero, List.getElem_cons_succ, Act.put, List.setIfInBounds_toArray, List.set_cons_zero, List.set_cons_succ])); (refine wpAnyH_take (i := 6) (v := ?_) rfl (by kernel_rfl) (by kernel_rfl) (by kernel_rfl) (fun _ _ _ h => h) (Or.inl ⟨by rfl, ?_⟩) (by assumption) ?_; rotate_left; (· intro w hSw; (try dsimp only at hSw); go_simp; first | done | with_reducible rfl); (try simp only [List.getElem_toArray, List.getElem_cons_zero, List.getElem_cons_succ, Act.put, List.setIfInBounds_toArray, List.set_cons_zero, List.set_cons_succ])); (refine wpAnyH_take (i := 7) (v := ?_) rfl (by kernel_rfl) (by kernel_rfl) (by kernel_rfl) (fun _ _ _ h => h) (Or.inl ⟨by rfl, ?_⟩) (by assumption) ?_; rotate_left; (· intro w hSw; (try dsimp only at hSw); go_simp; first | done | with_reducible rfl); (try simp only [List.getElem_toArray, List.getElem_cons_zero, List.getElem_cons_succ, Act.put, List.setIfInBounds_toArray, List.set_cons_zero, List.set_cons_succ])); (refine wpAnyH_take (i := 8) (v := ?_) rfl (by kernel_rfl) (by kernel_rfl) (by kernel_rfl) (fun _ _ _ h => h) (Or.inl ⟨by rfl, ?_⟩) (by assumption) ?_; rotate_left; (· intro w hSw; (try dsimp only at hSw); go_simp; first | done | with_reducible rfl); (try simp only [List.getElem_toArray, List.getElem_cons_zero, List.getElem_cons_succ, Act.put, List.setIfInBounds_toArray, List.set_cons_zero, List.set_cons_succ])); (refine wpAnyH_take (i := 9) (v := ?_) rfl (by kernel_rfl) (by kernel_rfl) (by kernel_rfl) (fun _ _ _ h => h) (Or.inl ⟨by rfl, ?_⟩) (by assumption) ?_; rotate_left; (· intro w hSw; (try dsimp only at hSw); go_simp; first | done | with_reducible rfl); (try simp only [List.getElem_toArray, List.getElem_cons_zero, List.getElem_cons_succ, Act.put, List.setIfInBounds_toArray, List.set_cons_zero, List.set_cons_succ])); (refine wpAnyH_take (i := 10) (v := ?_) rfl (by kernel_rfl) (by kernel_rfl) (by kernel_rfl) (fun _ _ _ h => h) (Or.inl ⟨by rfl, ?_⟩) (by assumption) ?_; rotate_left; (· intro w hSw; (try dsimp only at hSw); go_simp; first | done | with_reducible rfl); (try simp only [List.getElem_toArray, List.getElem_cons_zero, List.getElem_cons_succ, Act.put, List.setIfInBounds_toArray, List.set_cons_zero, List.set_cons_succ])); (refine wpAnyH_take (i := 11) (v := ?_) rfl (by kernel_rfl) (by kernel_rfl) (by kernel_rfl) (fun _ _ _ h => h) (Or.inl ⟨by rfl, ?_⟩) (by assumption) ?_; rotate_left; (· intro w hSw; (try dsimp only at hSw); go_simp; first | done | with_reducible rfl); (try simp only [List.getElem_toArray, List.getElem_cons_zero, List.getElem_cons_succ, Act.put, List.setIfInBounds_toArray, List.set_cons_zero, List.set_cons_succ])))
              (refine wpAnyH_ready (rs := [12]) (by kernel_rfl) (by simp) ?_; refine AllReadyH.cons (i := 12) rfl (fun K hK => ?_) AllReadyH.nil)
              go_simp
              have PT := RW.put (show RW w.heap.size wr.drew gv capv fs from HVF.out) k z
              have HVF5 := Lib.hid PT.1
              have HRQ5 := Lib.hid (RW.other (show RW w.heap.size wr.drew gq capq qs from HRQ.out) PT.2 HQV.out)
              have HVL5 := Lib.hid (RW.other (show RW w.heap.size wr.drew gl capl ls from HVL.out) PT.2 HNE.out)
              have HG5 := Lib.hid ((PT.2.block w.heap.size (Array.getElem?_eq_some_iff.1 HG.out).1 (fun e => HKV.out (Option.some.inj e))).trans (show wr.drew.heap[w.heap.size]? = _ from HG.out))
              have HB5 := Lib.hid (HB.out.drew.setCell (p := ⟨gv, k, none⟩) (HVF.out.lt gv rfl).1 (.float .f32 z))
              have xq5 := HRQ5.out.at (show x < qs.length by rw [HQL.out]; exact hlq)
              rw [HZ.out] at xq5
              (refine hK.out _ _ (⟨(pair_cells HG5.out).1, xq5⟩) (fun hHeld => ?_); clear hK K; (try simp only [List.getElem_toArray, List.getElem_cons_zero, List.getElem_cons_succ, Act.put, List.setIfInBounds_toArray, List.set_cons_zero, List.set_cons_succ]))
              (refine wpAnyH_done (by kernel_rfl) ?_ _; refine NoPanic.normal ?_)
              clear hHeld PT xq xv hf g0 g1 q1 q2 q3 q4 iK0 iK1 xq5
              go_wp2_with fail
              go_roundw
              case rel => exact ⟨x + 1, fs.set k z, congrArg (Value.int .i64) HWQ.out, HLQ.out, Lib.hid (by rw [List.length_set]; exact HFL.out), Lib.hid (fun q hq => by
                  rcases List.mem_or_eq_of_mem_set hq with h | h
                  · exact HFW.out q h
                  · subst h; exact ixq.lt), Lib.hid (fun j hj => by
                  rw [getD_set _ _ _ _ (by rw [HFL.out]; exact HKN.out)]
                  by_cases e : j = k
                  · rw [if_pos e, e, HKU.out.1, HKU.out.2, if_pos ⟨rfl, Nat.lt_succ_self x⟩, HZ.out]
                  · rw [if_neg e, HFE.out j hj]
                    by_cases h1 : j / a.toNat = y
                    · by_cases h2 : j % a.toNat < x
                      · rw [if_pos ⟨h1, h2⟩, if_pos ⟨h1, by omega⟩]
                      · have h3 : ¬ j % a.toNat < x + 1 := fun h3 => e (by
                          have h4 : j % a.toNat = x := mod_next h2 h3
                          rw [HK0.out, ← h4, ← h1]
                          exact (Nat.mod_add_div j a.toNat).symm)
                        rw [if_neg (fun h => h2 h.2), if_neg (fun h => h3 h.2)]
                    · rw [if_neg (fun h => h1 h.1), if_neg (fun h => h1 h.1)]), HVF5, HRQ5, HVL5, HG5, HB5⟩
              case measure => exact meas_natV rfl rfl HWQ.out HLQ.out
            · have hxe : x = a.toNat := by have := HRL.out; omega
              have HSTEP := Lib.hid (rows_step (fs := fs) HA.out.1 HA.out.2.2.1 HA.out.2.2.2.2.1 HLT.out HE.out HRL.out (Eqs.on HRE.out HRL.out) (by have := HQE.out; rw [HRL.out] at this; exact this) (fun j hj => by
                rw [HFE.out j hj]
                by_cases h1 : j / a.toNat = y
                · rw [if_pos h1, if_pos ⟨h1, by rw [hxe]; exact Nat.mod_lt _ (by have := HA.out; omega)⟩]
                · rw [if_neg h1, if_neg (fun h => h1 h.1)]))
              clear hxe
              go_wp2_with fail
              go_roundw
              case rel => exact ⟨y + 1, fs, by first | exact congrArg (Value.int .i64) HWY.out | go_num, by have := HLT.out; omega, HFL, HFW, HSTEP, HVF, HVL, HG, HB⟩
              case measure => exact meas_upV rfl rfl HWY.out HLT.out
    · have hk2 : (y : Int) = b := by omega
      have HE2 := Lib.hid (show EqOn es (rwsF a b xs zs) 0 xs.length from rwsF_of H1.out HLE.out (by have := HE.out; rw [show y = b.toNat by omega] at this; exact this))
      clear hk2
      go_wp2_with fail
      go_ret2
      exact ⟨⟨_, rfl, RWr.res HVE.out HEL.out HE2.out⟩, HB.out⟩
end Go.Proofs.Ytjfnecmnofcjbaa
