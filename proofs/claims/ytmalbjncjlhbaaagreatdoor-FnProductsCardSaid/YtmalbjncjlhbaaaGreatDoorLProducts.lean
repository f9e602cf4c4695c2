/- FnProducts: for all two lists of bytes the law returns true: of complex numbers whose parts are small whole numbers, products are exact and do not depend on the order, quotients lead back from them; bits and texts of any numbers are read back. No condition. -/
import Derived.Test.YtmalbjncjlhbaaaGreatDoorRows
import Derived.Test.YtmalbjncjlhbaaaGreatDoorCards
import Derived.Test.YtmalbjncjlhbaaaGreatDoorTie
import Derived.WalkKit
import Derived.ProofKit
import Derived.OpenShut
import Derived.ShutString
import Derived.ChangeOld
import Derived.Below
import Derived.Laws.Cover2
import Derived.LaidMore
import Derived.LaidSub
import Derived.MakeChecks
import Derived.Stop.Joined
import Derived.SevenTiedAt
import Derived.Lib.LaidTab
import Derived.Test.YtmalbjncjlhbaaaGreatDoorRdC
import Derived.Test.YtmalbjncjlhbaaaGreatDoorRtC
import Derived.Test.YtmalbjncjlhbaaaGreatDoorNaW
import Derived.Test.YtmalbjncjlhbaaaGreatDoorBc
import Derived.Test.YtmalbjncjlhbaaaGreatDoorBz
import Derived.Test.YtmalbjncjlhbaaaGreatDoorMi
import Derived.Test.YtmalbjncjlhbaaaGreatDoorSmc
import Derived.Test.YtmalbjncjlhbaaaGreatDoorDq
import Derived.Test.YtmalbjncjlhbaaaGreatDoorCsm
import Derived.Test.YtmalbjncjlhbaaaGreatDoorSam
import Derived.Test.YtmalbjncjlhbaaaGreatDoorHs
import Derived.Stop.LaidErr
import Derived.Shelf.Vars
import Derived.Lay
import Derived.Deep.CutRange
namespace Go.Proofs.YtmalbjncjlhbaaaGreatDoor.fnProducts
open Go.ChangeShapes Go.WideShapes Go.ChangeAt Go.RowKit Go.Fl
open Go.ChangeMaps (open_string shut_string)
set_option linter.unusedVariables false
set_option linter.unusedSimpArgs false
open Go.Nl (NS)

def dB64 : List Int := [0, 1, 56, 2, 57, 49, 28, 3, 61, 58, 42, 50, 38, 29, 17, 4, 62, 47, 59, 36, 45, 43, 51, 22, 53, 39, 33, 30, 24, 18, 12, 5, 63, 55, 48, 27, 60, 41, 37, 16, 46, 35, 44, 21, 52, 32, 23, 11, 54, 26, 40, 15, 34, 20, 31, 10, 25, 14, 19, 9, 13, 8, 7, 6]
theorem gTz : Tryz.prog.globalNamed "math/bits.deBruijn64tab" = some 6 := by kernel_rfl
theorem gSyn : Tryz.prog.globalNamed "strconv.ErrSyntax" = some 3 := by kernel_rfl
theorem synType : (Tryz.prog.globals[3]?).map (·.type) = some 101 := by kernel_rfl
theorem gRng : Tryz.prog.globalNamed "strconv.ErrRange" = some 4 := by kernel_rfl
theorem rngType : (Tryz.prog.globals[4]?).map (·.type) = some 101 := by kernel_rfl
theorem star : "*" ++ "errors.errorString" = "*errors.errorString" := by decide
theorem errRow (u : TypeId) (h : Tryz.prog.typeName? 3 u = some "*errors.errorString") : u = 157 :=
  typeName_ptr_named (P := Tryz.prog) (nm := "errors.errorString") (by rw [star]; kernel_rfl) (by kernel_rfl) (by decide) u (by rw [star]; exact h)

theorem lays {W : World} (h : laidMetH Tryz.prog Rows.fnProductsRow.laid W) : LaysF W := by
  have h1 := h.filter (fun x => x.1 == "math/bits.deBruijn64tab")
  rw [MakeChecks.laidMetH_plain _ _ _ (by kernel_rfl)] at h1 h
  have h2 : Lib.TabIs Tryz.prog W "math/bits.deBruijn64tab" .u8 dB64 := Lib.tabIs_of_head (rest := []) gTz (show (Tryz.prog.globals[6]?).map (·.type) = some 161 by kernel_rfl) Tryz.underlying161 Tryz.underlying5 (by kernel_rfl) (by kernel_rfl) h1
  have k2 := h.filter (fun x => x.1 == "strconv.ErrSyntax")
  have k3 := h.filter (fun x => x.1 == "strconv.ErrRange")
  rw [show List.filter (fun x => x.1 == "strconv.ErrSyntax") Rows.fnProductsRow.laid = [("strconv.ErrSyntax", Rows.laid_strconv_ErrSyntax)] from by rfl] at k2
  rw [show List.filter (fun x => x.1 == "strconv.ErrRange") Rows.fnProductsRow.laid = [("strconv.ErrRange", Rows.laid_strconv_ErrRange)] from by rfl] at k3
  obtain ⟨a1, s1, v1, _⟩ := laid_sentinel k2 gSyn synType Tryz.underlying101 errRow Tryz.underlying157 Tryz.underlying159 rfl rfl Tryz.underlying9 (by kernel_rfl) (by kernel_rfl)
  obtain ⟨a2, s2, v2, _⟩ := laid_sentinel k3 gRng rngType Tryz.underlying101 errRow Tryz.underlying157 Tryz.underlying159 rfl rfl Tryz.underlying9 (by kernel_rfl) (by kernel_rfl)
  exact ⟨⟨_, _, show W.cell? ⟨3, 0, none⟩ = _ from by have h0 := World.var?_cell gSyn v1 0; simpa using h0⟩, ⟨_, _, show W.cell? ⟨4, 0, none⟩ = _ from by have h0 := World.var?_cell gRng v2 0; simpa using h0⟩, h2.cell gTz 15 (by decide)⟩

theorem is_bits {x X : Nat} (ix : Is .f32 x X) : Is .f32 (bits32 X) X := by
  have e := ix.eq
  subst e
  have := bits_cn_lt (by have := ix.lt; rwa [w32] at this)
  exact ⟨cn_bits x, by rw [w32]; exact this⟩
theorem back_any (X : Nat) (h : bits32 X < 4294967296) (w : World) : Calls Tryz.prog 7 #[.int .i64 (bits32 X : Int)] w fun e w' => e = .returned (.tuple #[.float .f32 (bits32 X), .bool true]) ∧ w = w' := by
  have h1 := iFromBits_yes (bits32 X : Int) (by omega) (by omega) w
  rwa [Int.toNat_natCast] at h1
theorem cown_CS {B : Nat} {w : World} {v : Value} {xs : List (Nat × Nat)} (h : COwn B w v xs) (hc : c32 xs) : CS w v xs := by
  have h0 := h
  rcases h.2 with ⟨rfl, hn⟩ | ⟨g, cap, cur, rfl, hB, hg, hl, hm, _⟩
  · have e : xs = [] := List.length_eq_zero_iff.1 hn
    subst e
    exact ⟨none, 0, rfl, Nat.le_refl _, Nat.zero_le _, hc, .inl rfl⟩
  · refine ⟨_, cap, rfl, by simpa using hl, hm, hc, .inr ⟨g, 0, rfl, (Array.getElem?_eq_some_iff.1 hg).1, fun i hi => ?_⟩⟩
    rw [Nat.zero_add]
    exact cown_at h0 rfl hi
theorem rd_textC {B : Nat} {xs : List (Nat × Nat)} {e : Ending} {w : World} (hn : xs.length ≤ 256) (hw : c32 xs) (h : RdC B (textC xs) e w) :
    ∃ v, e = .returned (.tuple #[v, .bool true]) ∧ COwn B w v (xs.map fun p => (bits32 (cn .f32 p.1), bits32 (cn .f32 p.2))) := by
  rcases h with ⟨ys, v, h1, h2, h3⟩ | ⟨h1, h2⟩
  · rw [read_textC xs hn hw] at h1
    obtain rfl := Option.some.inj h1
    exact ⟨v, h2, h3⟩
  · rw [read_textC xs hn hw] at h1; cases h1
theorem back_same {xs : List (Nat × Nat)} (hw : c32 xs) (k : Nat) (hk : k < xs.length) : ∃ X Y, Is .f32 ((xs.map fun p => (bits32 (cn .f32 p.1), bits32 (cn .f32 p.2))).getD k (0, 0)).1 X ∧ Is .f32 (xs.getD k (0, 0)).1 X ∧
    Is .f32 ((xs.map fun p => (bits32 (cn .f32 p.1), bits32 (cn .f32 p.2))).getD k (0, 0)).2 Y ∧ Is .f32 (xs.getD k (0, 0)).2 Y := by
  obtain ⟨i1, i2⟩ := c32_at hw hk
  have e : (xs.map fun p => (bits32 (cn .f32 p.1), bits32 (cn .f32 p.2))).getD k (0, 0) = (bits32 (cn .f32 (xs.getD k (0, 0)).1), bits32 (cn .f32 (xs.getD k (0, 0)).2)) := by simp [List.getD, hk]
  rw [e]
  exact ⟨_, _, is_bits i1, i1, is_bits i2, i2⟩
theorem fneg2 {Y : Nat} (h : cn .f32 Y = Y) (hl : Y < 2 ^ FloatKind.f32.format.width) : Fl.fneg .f32 (Fl.fneg .f32 Y) = Y := by
  by_cases hn : Fl.nan .f32 Y = true
  · have e : Fl.fneg .f32 Y = qn .f32 := by unfold Fl.fneg; rw [if_pos hn]
    rw [e, ← h, cn_nan _ hn]
    unfold Fl.fneg
    rw [if_pos (by decide)]
  · have e : Fl.fneg .f32 Y = Op.negFloat .f32 Y := by unfold Fl.fneg; rw [if_neg hn]
    have h2 : Fl.nan .f32 (Op.negFloat .f32 Y) = false := by
      have : rung FloatKind.f32.format (Op.negFloat .f32 Y) = rung FloatKind.f32.format Y := (neg_bits hl).1
      unfold Fl.nan isNaN at hn ⊢
      rw [this]; simpa using hn
    rw [e]
    unfold Fl.fneg
    rw [h2]
    exact neg_neg Y

theorem sq_zero {r s : Int} (h : r * r + s * s = 0) : r = 0 ∧ s = 0 := by
  have h1 : ((r.natAbs * r.natAbs : Nat) : Int) = r * r := Int.natAbs_mul_self
  have h2 : ((s.natAbs * s.natAbs : Nat) : Int) = s * s := Int.natAbs_mul_self
  have h3 : r.natAbs * r.natAbs = 0 := by omega
  have h4 : s.natAbs * s.natAbs = 0 := by omega
  have h5 : r.natAbs = 0 := by rcases Nat.mul_eq_zero.1 h3 with h | h <;> exact h
  have h6 : s.natAbs = 0 := by rcases Nat.mul_eq_zero.1 h4 with h | h <;> exact h
  omega
theorem wrap_small {x : Int} (h : x.natAbs ≤ 1000000) : wrap64 x = x := by unfold wrap64; omega
structure Wraps (p q r s : Int) : Prop where
  a : wrap64 (p * r) = p * r
  b : wrap64 (q * s) = q * s
  c : wrap64 (p * r - q * s) = p * r - q * s
  d : wrap64 (p * s) = p * s
  e : wrap64 (q * r) = q * r
  f : wrap64 (p * s + q * r) = p * s + q * r
  g : wrap64 (p * p) = p * p
  h : wrap64 (q * q) = q * q
  i : wrap64 (p * p + q * q) = p * p + q * q
theorem wraps {p q r s : Int} (hp : p.natAbs ≤ 200) (hq : q.natAbs ≤ 200) (hr : r.natAbs ≤ 200) (hs : s.natAbs ≤ 200) : Wraps p q r s := by
  have m1 := mul_bd hp hr; have m2 := mul_bd hq hs; have m3 := mul_bd hp hs; have m4 := mul_bd hq hr; have m5 := mul_bd hp hp; have m6 := mul_bd hq hq
  exact ⟨wrap_small (by omega), wrap_small (by omega), wrap_small (by omega), wrap_small (by omega), wrap_small (by omega), wrap_small (by omega), wrap_small (by omega), wrap_small (by omega), wrap_small (by omega)⟩

set_option maxHeartbeats 1000000 in
set_option maxRecDepth 100000 in
theorem walk (a0 : Option Addr) (len0 cap0 : Nat) (z0 : List Int) (a1 : Option Addr) (len1 cap1 : Nat) (z1 : List Int) (W : World) (w0 : NS .u8 W (.slice a0 len0 cap0) z0) (w1 : NS .u8 W (.slice a1 len1 cap1) z1)
    (hL : laidMetH Tryz.prog Rows.fnProductsRow.laid W) (m : Int) (hm : W.cell? ⟨1, 0, none⟩ = some (.int .i64 m)) :
    Calls Tryz.prog 4 #[.slice a0 len0 cap0, .slice a1 len1 cap1] W fun e w' => e = .returned (.bool true) ∧ Below W.heap.size W w' := by
  have hT := Lib.hid (lays hL)
  clear hL
  have hlt0 : 1 < W.heap.size := block_lt_of_cell hm
  have HMX := Lib.hid hm
  have HC := Lib.hid w0
  have HD := Lib.hid w1
  clear hm w0 w1
  by_cases hl : (1048576 < len0 ∨ 1048576 < len1)
  · have HL := Lib.hid (show decide (1048576 < len0 ∨ 1048576 < len1) = true from decide_eq_true hl)
    clear hl
    go_enter Tryz.func4, Tryz.ntmps4
    go_wp2_with fail
    refine (zLong_any _ _ _ _ _ _ _).mono ?_; rw [HL.out]; rintro e w' ⟨rfl, rfl⟩
    go_wp2_with fail
    go_ret
    exact ⟨rfl, Below.refl _ _⟩
  have HL := Lib.hid (show decide (1048576 < len0 ∨ 1048576 < len1) = false from decide_eq_false hl)
  clear hl
  go_enter Tryz.func4, Tryz.ntmps4
  go_wp2_with fail
  refine (zLong_any _ _ _ _ _ _ _).mono ?_; rw [HL.out]; rintro e W2 ⟨rfl, hw⟩
  obtain rfl := hw.symm
  clear hw HL
  go_wp2_with fail
  refine (sWhole_any _ z0 _ HC.out).mono ?_
  rintro e v1 ⟨v, xs, rfl, hx1, hxw, hxo, b1⟩
  obtain ⟨pa, rfl⟩ := List.length_eq_one_iff.1 hx1
  obtain ⟨av, capa, rfl, hf⟩ := cown_form hxo
  rcases hf with hf | ⟨ga, rfl, _, _⟩
  · cases hf
  obtain ⟨p, q, hp, hq, rfl⟩ := hxw pa (by simp)
  have hcell : v1.cell? ⟨ga, 0, none⟩ = some (.complex .f32 (iW p) (iW q)) := cown_at hxo rfl (k := 0) (by simp)
  have HB1 := Lib.hid b1
  have HA := Lib.hid (iW_small hp hq)
  have tA : floatToIntVal .f32 (iW p) .i64 = some p := whole_int hp
  have tB : floatToIntVal .f32 (iW q) .i64 = some q := whole_int hq
  clear b1 hxo hxw hx1
  generalize iW p = A at HA tA hcell
  generalize iW q = B at HA tB hcell
  go_wp2_with fail
  clear hcell
  refine (sWhole_any _ z1 _ (HD.out.below HB1.out)).mono ?_
  rintro e v2 ⟨v, ys, rfl, hx1, hxw, hxo, b2⟩
  obtain ⟨pb, rfl⟩ := List.length_eq_one_iff.1 hx1
  obtain ⟨av2, capb, rfl, hf⟩ := cown_form hxo
  rcases hf with hf | ⟨gb, rfl, _, _⟩
  · cases hf
  obtain ⟨r, s, hr, hs, rfl⟩ := hxw pb (by simp)
  have hcell : v2.cell? ⟨gb, 0, none⟩ = some (.complex .f32 (iW r) (iW s)) := cown_at hxo rfl (k := 0) (by simp)
  have HB2 := Lib.hid (HB1.out.trans (b2.mono HB1.out.size))
  have HBb := Lib.hid (iW_small hr hs)
  have tC : floatToIntVal .f32 (iW r) .i64 = some r := whole_int hr
  have tD : floatToIntVal .f32 (iW s) .i64 = some s := whole_int hs
  clear b2 hxo hxw hx1 HB1
  generalize iW r = C at HBb tC hcell
  generalize iW s = D at HBb tD hcell
  go_wp2_with fail
  clear hcell
  have HPR := Lib.hid (mulC_num HA.out HBb.out)
  have hw := wraps HA.out.pa HA.out.pb HBb.out.pa HBb.out.pb
  clear hp hq hr hs
  refine (iMulC_any _ _ _ _ _ _ _ _ HA.out.a.is HA.out.b.is HBb.out.a.is HBb.out.b.is HPR.out.2.1 HPR.out.2.2 _).mono ?_
  rintro e w' ⟨⟨P1, P2, rfl, i1, i2⟩, n1, rfl⟩
  have HP1 := Lib.hid (dv_is HPR.out.1.a i1)
  have HP2 := Lib.hid (dv_is HPR.out.1.b i2)
  clear i1 i2
  obtain ⟨wa, wb, wc, wd, we, wf, wg, wh, wi⟩ := hw
  go_upto_region 9 with (first | (apply wpList_toInt32; rfl; rfl; exact U32; exact UI; (with_reducible assumption)) | fail)
  rw [wi]
  clear wa wb wc wd we wf wg wh wi tA tB tC tD
  have HB3 := Lib.hid (below_drewN HB2.out n1)
  generalize v2.drewN n1 = v3 at HB3 ⊢
  clear HB2
  have m1 := mul_bd HA.out.pa HBb.out.pa; have m2 := mul_bd HA.out.pb HBb.out.pb; have m3 := mul_bd HA.out.pa HBb.out.pb; have m4 := mul_bd HA.out.pb HBb.out.pa; have m5 := mul_bd HA.out.pa HA.out.pa; have m6 := mul_bd HA.out.pb HA.out.pb
  obtain ⟨X, hX⟩ : ∃ X, X = p * r - q * s := ⟨_, rfl⟩
  obtain ⟨Y, hY⟩ : ∃ Y, Y = p * s + q * r := ⟨_, rfl⟩
  obtain ⟨Z, hZ⟩ : ∃ Z, Z = p * p + q * q := ⟨_, rfl⟩
  have HFX := Lib.hid (show Dv .f32 149 (floatOfInt .f32 X) X from iW_dv (by omega))
  have HFY := Lib.hid (show Dv .f32 149 (floatOfInt .f32 Y) Y from iW_dv (by omega))
  have HFZ := Lib.hid (show Dv .f32 149 (floatOfInt .f32 Z) Z from iW_dv (by omega))
  clear m1 m2 m3 m4 m5 m6
  rw [← hX, ← hY, ← hZ]
  have HX := Lib.hid hX; have HY := Lib.hid hY; have HZ := Lib.hid hZ
  have c1 : fcmp .eql .f32 P1 (floatOfInt .f32 X) = true := by rw [HP1.out.eql HFX.out, HX.out]; exact decide_eq_true rfl
  have c2 : fcmp .eql .f32 P2 (floatOfInt .f32 Y) = true := by rw [HP2.out.eql HFY.out, HY.out]; exact decide_eq_true rfl
  clear hX hY hZ
  go_wp2_with (first | (apply wpList_cneq; rfl; rfl; rfl; (with_reducible exact c1); (with_reducible exact c2)) | fail)
  clear c1 c2
  have HQR := Lib.hid (mulC_num HBb.out HA.out)
  refine (iMulC_any _ _ _ _ _ _ _ _ HBb.out.a.is HBb.out.b.is HA.out.a.is HA.out.b.is HQR.out.2.1 HQR.out.2.2 _).mono ?_
  rintro e w' ⟨⟨Q1, Q2, rfl, i1, i2⟩, n2, rfl⟩
  have c1 : fcmp .eql .f32 Q1 P1 = true := by rw [(dv_is HQR.out.1.a i1).eql HP1.out]; exact decide_eq_true (by grind)
  have c2 : fcmp .eql .f32 Q2 P2 = true := by rw [(dv_is HQR.out.1.b i2).eql HP2.out]; exact decide_eq_true (by grind)
  clear i1 i2
  go_wp2_with (first | (apply wpList_cneq; rfl; rfl; rfl; (with_reducible exact c1); (with_reducible exact c2)) | fail)
  clear c1 c2
  refine (iPowC_any _ _ _ _ HA.out.a.is HA.out.b.is (powC_num HA.out).2 _).mono ?_
  rintro e w' ⟨⟨R1, rfl, i1⟩, n3, rfl⟩
  have iZ := HFZ.out.is
  have c1 : fcmp .neq .f32 (nar (pwF A B)) (floatOfInt .f32 Z) = false := by rw [(powC_num HA.out).1.neq HFZ.out, HZ.out, decide_eq_true rfl]; rfl
  go_wp2_with (first | (apply wpList_fcmp; rfl; rfl; rfl; rfl; (first | with_reducible assumption | exact Is.const rfl); (first | with_reducible assumption | exact Is.const rfl); (first | with_reducible assumption | exact rfl)) | fail)
  clear c1 i1 iZ
  refine (iConj_any _ _ _ _ HA.out.a.is HA.out.b.is _).mono ?_
  rintro e w' ⟨⟨C1, C2, rfl, i1, i2⟩, n4, rfl⟩
  go_wp2_with fail
  have HAC := Lib.hid (mulC_num HA.out HA.out.conj)
  refine (iMulC_any _ _ _ _ _ _ _ _ HA.out.a.is HA.out.b.is i1 i2 HAC.out.2.1 HAC.out.2.2 _).mono ?_
  rintro e w' ⟨⟨D1, D2, rfl, i3, i4⟩, n5, rfl⟩
  have c1 : fcmp .eql .f32 D1 (floatOfInt .f32 Z) = true := by rw [(dv_is HAC.out.1.a i3).eql HFZ.out, HZ.out]; exact decide_eq_true (by grind)
  have c2 : fcmp .eql .f32 D2 0 = true := by rw [(dv_is HAC.out.1.b i4).eql (show Dv .f32 149 0 0 from ⟨by decide, by decide, by decide +kernel⟩)]; exact decide_eq_true (by grind)
  clear i1 i2 i3 i4 HAC
  go_wp2_with (first | (apply wpList_cneq; rfl; rfl; rfl; (with_reducible exact c1); (with_reducible exact c2)) | fail)
  clear c1 c2
  have hwd : wid (floatOfInt .f32 Z) = pwF A B := by rw [HZ.out]; exact long_num HA.out
  refine (iLongC_any _ _ _ _ HA.out.a.is HA.out.b.is (by rw [← hwd]; exact fits_root _) _).mono ?_
  rintro e w' ⟨⟨L1, rfl, i1⟩, n6, rfl⟩
  go_wp2_with fail
  refine (sRoot_any _ _ HFZ.out.is _).mono ?_
  rintro e w' ⟨⟨L2, rfl, i2⟩, n7, rfl⟩
  rw [hwd] at i2
  clear hwd
  have HS1 := Lib.hid (fun w => by have h := sSameNumber_any L1 _ L2 _ i1 i2 w; rw [decide_eq_true rfl] at h; exact h : ∀ w : World, Calls Tryz.prog 15 #[.float .f32 L1, .float .f32 L2] w fun e w' => e = .returned (.bool true) ∧ w = w')
  clear i1 i2
  go_wp2_with fail
  refine (HS1.out _).mono ?_
  rintro e w' ⟨rfl, hw⟩
  obtain rfl := hw
  clear HS1
  go_upto_region 11 with fail
  go_cut [136] from 120 to 136 (fun b wx => b = .bool false ∧ Hid (Below W.heap.size W wx))
  case first =>
    have z0 : Dv .f32 149 0 0 := ⟨by decide, by decide, by decide +kernel⟩
    have c1 : fcmp .eql .f32 C 0 = decide (r = 0) := HBb.out.a.eql z0
    have c2 : fcmp .eql .f32 D 0 = decide (s = 0) := HBb.out.b.eql z0
    clear z0
    have HSC := Lib.hid (scale_num HA.out)
    have iA := HA.out.a.is
    have iB := HA.out.b.is
    have i2 : Is .f32 1073741824 1073741824 := Is.const (by decide)
    have HSX := Lib.hid (iScaleCx_any A A B B 1073741824 1073741824 iA iB i2)
    have HCS := Lib.hid (show ∀ S1 S2 u1 u2, Is .f32 S1 (fop .mul .f32 A 1073741824) → Is .f32 S2 (fop .mul .f32 B 1073741824) → Is .f32 u1 (fop .add .f32 A A) → Is .f32 u2 (fop .add .f32 B B) → fcmp .eql .f32 S1 u1 = true ∧ fcmp .eql .f32 S2 u2 = true from fun S1 S2 u1 u2 h1 h2 h3 h4 =>
      ⟨by rw [(dv_is HSC.out.1 h1).eql (dv_is HSC.out.2.2.1 h3)]; exact decide_eq_true (by omega), by rw [(dv_is HSC.out.2.1 h2).eql (dv_is HSC.out.2.2.2 h4)]; exact decide_eq_true (by omega)⟩)
    by_cases hb : r = 0 ∧ s = 0
    · rw [decide_eq_true hb.1] at c1
      rw [decide_eq_true hb.2] at c2
      clear hb
      go_wp2_with (first | (apply wpList_cneqB true true; rfl; rfl; rfl; (with_reducible exact c1); (with_reducible exact c2)) | fail)
      refine (HSX.out _).mono ?_
      rintro e w' ⟨⟨S1, S2, rfl, i3, i4⟩, n8, rfl⟩
      go_wp2_with (first | (apply wpList_csum; rfl; exact .inl rfl; rfl; rfl; (with_reducible exact iA); (with_reducible exact iB); (with_reducible exact iA); (with_reducible exact iB); intro u1 u2 n9 i5 i6; obtain ⟨q1, q2⟩ := HCS.out _ _ _ _ i3 i4 i5 i6) | (apply wpList_cneq; rfl; rfl; rfl; (with_reducible exact q1); (with_reducible exact q2)) | fail)
      go_meet
      case rel => exact ⟨rfl, Lib.hid (below_drewN HB3.out _)⟩
    · have HQC := Lib.hid (quoC_num ⟨HP1.out, HP2.out, HPR.out.1.pa, HPR.out.1.pb⟩ HBb.out HA.out.pa HA.out.pb (fun h => hb (sq_zero h)))
      obtain ⟨e, f, h1, h2, h3⟩ : ∃ e f : Bool, fcmp .eql .f32 C 0 = e ∧ fcmp .eql .f32 D 0 = f ∧ (!(e && f)) = true := ⟨_, _, c1, c2, by
        have h5 : ¬ (decide (r = 0) = true ∧ decide (s = 0) = true) := fun h => hb ⟨of_decide_eq_true h.1, of_decide_eq_true h.2⟩
        generalize decide (r = 0) = e at h5 ⊢
        generalize decide (s = 0) = f at h5 ⊢
        cases e <;> cases f <;> simp_all⟩
      clear c1 c2 hb
      go_wp2_with (first | (apply wpList_cneqB e f; rfl; rfl; rfl; (with_reducible exact h1); (with_reducible exact h2); rw [h3]) | fail)
      refine (iQuoC_any _ _ _ _ _ _ _ _ HP1.out.is HP2.out.is HBb.out.a.is HBb.out.b.is HQC.out.1.2 HQC.out.2.2 _).mono ?_
      rintro e w' ⟨⟨E1, E2, rfl, i3, i4⟩, n8, rfl⟩
      have d1 : fcmp .eql .f32 E1 A = true := by rw [(dv_is HQC.out.1.1 i3).eql HA.out.a]; exact decide_eq_true rfl
      have d2 : fcmp .eql .f32 E2 B = true := by rw [(dv_is HQC.out.2.1 i4).eql HA.out.b]; exact decide_eq_true rfl
      clear i3 i4 h1 h2 h3
      go_wp2_with (first | (apply wpList_cneq; rfl; rfl; rfl; (with_reducible exact d1); (with_reducible exact d2)) | fail)
      clear d1 d2
      refine (HSX.out _).mono ?_
      rintro e w' ⟨⟨S1, S2, rfl, i3, i4⟩, n8, rfl⟩
      go_wp2_with (first | (apply wpList_csum; rfl; exact .inl rfl; rfl; rfl; (with_reducible exact iA); (with_reducible exact iB); (with_reducible exact iA); (with_reducible exact iB); intro u1 u2 n9 i5 i6; obtain ⟨q1, q2⟩ := HCS.out _ _ _ _ i3 i4 i5 i6) | (apply wpList_cneq; rfl; rfl; rfl; (with_reducible exact q1); (with_reducible exact q2)) | fail)
      go_meet
      case rel => exact ⟨rfl, Lib.hid (below_drewN HB3.out _)⟩
  case rest =>
    obtain ⟨rfl, HB4⟩ := hcut
    generalize wc = v4 at HB4 ⊢
    clear HB3 HA HBb HPR HP1 HP2 HFX HFY HFZ HX HY HZ HQR
    go_wp2_with fail
    refine (zAt_any _ _ _ z0 9 (.inr rfl) _ (HC.out.below HB4.out)).mono ?_
    rintro e w3 ⟨⟨t, rfl, t0, t1⟩, hw3⟩
    obtain rfl := hw3.symm
    clear hw3
    obtain ⟨N, rfl⟩ : ∃ N : Nat, t = N := ⟨t.toNat, by omega⟩
    go_wp2_with fail
    refine (sB10Any_any _ z1 N _ (HD.out.below HB4.out) (by omega)).mono ?_
    rintro e v5 ⟨v, xs, rfl, hxl, hxw, hxo, b5⟩
    have hxn : xs.length ≤ 8 := by omega
    have HXW := Lib.hid hxw; have HXO := Lib.hid hxo; have HXN := Lib.hid hxn
    have HB5 := Lib.hid (HB4.out.trans (b5.mono HB4.out.size))
    clear b5 hxl hxw hxo hxn t0 t1 HB4
    go_wp2_with fail
    refine (iComplexText_yes _ xs _ (cown_CS HXO.out HXW.out) (by have := HXN.out; omega) (hT.out.on HB5.out).tz).mono ?_
    rintro e v6 ⟨rfl, b6⟩
    have HB6 := Lib.hid (HB5.out.trans (b6.mono HB5.out.size))
    have HXO := Lib.hid (cown_below HXO.out b6)
    clear b6 HB5
    have hsz : (⟨(textC xs).toArray⟩ : ByteArray).size ≤ 1048576 := by
      show (textC xs).toArray.size ≤ 1048576
      rw [List.size_toArray]; exact textC_size xs (by have := HXN.out; omega)
    go_wp2_with fail
    refine (iReadComplex_any ⟨(textC xs).toArray⟩ _ hsz (hT.out.on HB6.out) m (by rw [HB6.out.cell (p := ⟨_, 0, none⟩) hlt0]; exact HMX.out)).mono ?_
    rintro e v7 ⟨h7, b7⟩
    obtain ⟨u, rfl, ho7⟩ := rd_textC (by have := HXN.out; omega) HXW.out h7
    have HB7 := Lib.hid (HB6.out.trans (b7.mono HB6.out.size))
    have HXO := Lib.hid (cown_below HXO.out b7)
    have HUO := Lib.hid ho7
    clear h7 b7 ho7 HB6 hsz
    go_wp2_with fail
    refine (sNumber_any _ z0 _ (HC.out.below HB7.out)).mono ?_
    rintro e v8 ⟨x, Xx, rfl, ix, b8⟩
    have HB8 := Lib.hid (HB7.out.trans (b8.mono HB7.out.size))
    have HXO := Lib.hid (cown_below HXO.out b8)
    have HUO := Lib.hid (cown_below HUO.out b8)
    clear b8 HB7
    have hbl := bits_cn_lt (by have := ix.lt; rwa [w32] at this)
    rw [ix.eq] at hbl
    have HBK := Lib.hid (back_any Xx hbl)
    have iq := is_bits ix
    have HIB := Lib.hid (iBitsOf_any x Xx ix)
    clear hbl
    generalize bits32 Xx = qq at HBK iq HIB
    go_wp2_with (first | (go_at_call 8; refine (HIB.out _).mono ?_; rintro e w' ⟨rfl, rfl⟩) | (go_at_call 7; refine (HBK.out _).mono ?_; rintro e w' ⟨rfl, rfl⟩))
    refine (sB10Complex_any _ z0 _ (HC.out.below HB8.out)).mono ?_
    rintro e v9 ⟨cr, ci, U, V, rfl, iU, iV, b9⟩
    have HB9 := Lib.hid (HB8.out.trans (b9.mono HB8.out.size))
    have HXO := Lib.hid (cown_below HXO.out b9)
    have HUO := Lib.hid (cown_below HUO.out b9)
    clear b9 HB8 HBK HIB
    go_upto_region 20 with (first | (apply wpList_wid; rfl; rfl; (with_reducible exact iU); exact U32; exact U64; intro wr1 k1 hwr1) | (apply wpList_wid; rfl; rfl; (with_reducible exact iV); exact U32; exact U64; intro wr2 k2 hwr2) | fail)
    have hbd := below_drewN (Below.refl v9.heap.size v9) (k1 + k2)
    have HB10 := Lib.hid (HB9.out.trans (hbd.mono HB9.out.size))
    have HXO := Lib.hid (cown_below HXO.out hbd)
    have HUO := Lib.hid (cown_below HUO.out hbd)
    generalize v9.drewN (k1 + k2) = v10 at HB10 HXO HUO ⊢
    clear hbd HB9
    have H1 := Lib.hid (fun w => by have h := sSameNumber_any qq Xx x Xx iq ix w; rw [decide_eq_true rfl] at h; exact h : ∀ w : World, Calls Tryz.prog 15 #[.float .f32 qq, .float .f32 x] w fun e w' => e = .returned (.bool true) ∧ w = w')
    have HFU := Lib.hid (wid_fits iU.lt' iU.canon); have HFV := Lib.hid (wid_fits iV.lt' iV.canon)
    have HNU := Lib.hid (nar_wid iU.lt' iU.canon); have HNV := Lib.hid (nar_wid iV.lt' iV.canon)
    have HF2 := Lib.hid (show Fl.fneg .f32 (Fl.fneg .f32 V) = V from fneg2 iV.canon iV.lt')
    have HSC := Lib.hid (fun a b a' b' h1 h2 h3 h4 w => by have h := iSameComplex_any a U b V a' U b' V h1 h2 h3 h4 w; rw [decide_eq_true ⟨rfl, rfl⟩] at h; exact h : ∀ (a b a' b' : Nat), Is .f32 a U → Is .f32 b V → Is .f32 a' U → Is .f32 b' V → ∀ w : World, Calls Tryz.prog 34 #[.complex .f32 a b, .complex .f32 a' b'] w fun e w' => e = .returned (.bool true) ∧ ∃ n, w' = w.drewN n)
    go_wp2_with fail
    refine (same10_yes _ _ _ _ _ xs _ HUO.out HXO.out (by simp) (back_same HXW.out) (by have := HXN.out; omega)).mono ?_
    rintro e w' ⟨rfl, n2, rfl⟩
    go_wp2_with fail
    refine (H1.out _).mono ?_
    rintro e w' ⟨rfl, hw⟩
    obtain rfl := hw
    go_wp2_with fail
    refine (iNarrowCx_any _ _ _ _ hwr1 hwr2 HFU.out HFV.out _).mono ?_
    rintro e w' ⟨⟨g1, g2, rfl, j1, j2⟩, n3, rfl⟩
    rw [HNU.out] at j1; rw [HNV.out] at j2
    go_wp2_with fail
    refine (HSC.out _ _ _ _ j1 j2 iU iV _).mono ?_
    rintro e w' ⟨rfl, n4, rfl⟩
    go_wp2_with fail
    refine (iConj_any _ _ _ _ iU iV _).mono ?_
    rintro e w' ⟨⟨g3, g4, rfl, j3, j4⟩, n5, rfl⟩
    go_wp2_with fail
    refine (iConj_any _ _ _ _ j3 j4 _).mono ?_
    rintro e w' ⟨⟨g5, g6, rfl, j5, j6⟩, n6, rfl⟩
    rw [HF2.out] at j6
    go_wp2_with fail
    refine (HSC.out _ _ _ _ j5 j6 iU iV _).mono ?_
    rintro e w' ⟨rfl, n7, rfl⟩
    have HFC := Lib.hid (iFiniteCx_any cr U ci V iU iV)
    have HF1 := Lib.hid (sIsFinite_any cr U iU)
    have HFB := Lib.hid (sIsFinite_any ci V iV)
    generalize fin .f32 U = b1 at HFC HF1
    generalize fin .f32 V = b2 at HFC HFB
    clear H1 HSC j1 j2 j3 j4 j5 j6 HFU HFV HNU HNV HF2
    go_wp2_with fail
    refine (HFC.out _).mono ?_
    rintro e w' ⟨rfl, n8, rfl⟩
    go_wp2_with fail
    refine (HF1.out _).mono ?_
    rintro e w' ⟨rfl, n9, rfl⟩
    cases b1
    · go_wp2_with fail
      go_ret
      exact ⟨rfl, below_drewN HB10.out _⟩
    · go_wp2_with fail
      refine (HFB.out _).mono ?_
      rintro e w' ⟨rfl, n10, rfl⟩
      cases b2
      · go_wp2_with fail
        go_ret
        exact ⟨rfl, below_drewN HB10.out _⟩
      · go_wp2_with fail
        go_ret
        exact ⟨rfl, below_drewN HB10.out _⟩

/-! ### from the walk to the statement -/
theorem own : ownKnob Tryz.prog.godebug = none := by kernel_rfl
theorem laidOut : laidOutB Tryz.prog = true := by kernel_rfl
set_option maxRecDepth 100000 in
theorem lifted (os : Os) (started : os.Started) (H : Type) (enc : TypeId × Value → H) :
    ReturnsInHanded {} Tryz.checked os 4 .any (fun w args => (Rows.fnProductsSpec.pre enc Tryz.prog Tryz.f4 [] false w args ∧ laidMetH Tryz.prog Rows.fnProductsRow.laid w) ∧ sizedMet enc Tryz.prog Tryz.f4 (OpenSpec.ofChange Rows.fnProductsSpec) false w args)
      (Rows.fnProductsSpec.post enc Tryz.prog Tryz.f4 false true false false) := by
  refine handed_shaped (C := Tryz.checked) own started (by kernel_rfl) Tryz.func4
    (ChangeSpec.witness_shaped (enc := enc) (C := Tryz.checked) (os := os) (X := fun w _ => laidMetH Tryz.prog Rows.fnProductsRow.laid w) false (World.laidAll Tryz.prog os Rows.fnProductsRow.laid) #[.slice none 0 0, .slice none 0 0] 8 (World.laidAll_os _ _ _) (World.shaped_of_ZipB (by kernel_rfl) (by kernel_rfl)) (by kernel_rfl) (by kernel_rfl) (by kernel_rfl) (by rw [MakeChecks.laidMetH_plain _ _ _ (by kernel_rfl)]; exact laidMet_laidAll _ (by kernel_rfl) (by kernel_rfl))) ?_
  intro W base args ds gs before hval0 hW hL hS
  obtain ⟨m, hm⟩ := cell_of_shapedOpen_int (k := .i64) (g := 1) (t := 3) (zero := #[.int .i64 0]) hS (of_decide_eq_true (by kernel_rfl)) (by kernel_rfl) rfl (by kernel_rfl) (by kernel_rfl) Tryz.underlying3
  have hval : ∀ (j : Nat) t v, Tryz.f4.params[j]? = some t → args[j]? = some v → Value.okWide Tryz.prog W .any base t v := hval0
  have hW' := hW
  obtain ⟨p, q, hA0, hV, rfl, hfz, hnd⟩ := hW
  have hA : DataW.TrodAll enc Tryz.prog W 0 (fun _ => true) true Tryz.f4.params.toList args.toList ds p := hA0
  rw [Tryz.params4] at hA hval
  obtain ⟨v0, vs0, d0, ds0, p0, q0, hargs, rfl, rfl, h0, r0⟩ := trodAll_cons hA
  obtain ⟨v1, vs1, d1, ds1, p1, q1, rfl, rfl, rfl, h1, r1⟩ := trodAll_cons r0
  obtain ⟨rfl, rfl, rfl⟩ := trodAll_nil r1
  obtain rfl : args = #[v0, v1] := by cases args; simp_all
  obtain ⟨rfl, rfl⟩ := trodVars_none hV
  obtain ⟨a0, len0, cap0, rfl⟩ := okWide_slice Tryz.underlying22 (hval 0 22 v0 rfl rfl)
  have k0 := h0
  have lt0 : ∀ x ∈ p0, x.block < W.heap.size := by obtain ⟨m, hm⟩ := k0; exact DataW.trod_lt m _ _ _ hm
  obtain ⟨z0, w0⟩ : ∃ zs, Nl.NS .u8 W (.slice a0 len0 cap0) zs := Nl.open_nums Tryz.underlying22 Tryz.underlying5 (by kernel_rfl) h0
  obtain ⟨a1, len1, cap1, rfl⟩ := okWide_slice Tryz.underlying22 (hval 1 22 v1 rfl rfl)
  have k1 := h1
  have lt1 : ∀ x ∈ p1, x.block < W.heap.size := by obtain ⟨m, hm⟩ := k1; exact DataW.trod_lt m _ _ _ hm
  obtain ⟨z1, w1⟩ : ∃ zs, Nl.NS .u8 W (.slice a1 len1 cap1) zs := Nl.open_nums Tryz.underlying22 Tryz.underlying5 (by kernel_rfl) h1
  clear hA0 hval0
  refine (walk a0 len0 cap0 z0 a1 len1 cap1 z1 W w0 w1 hL m hm).mono fun e W' ⟨he, bel⟩ => ?_
  subst he
  exact ⟨_, rfl, _, _, _, [], _, [], hW', trodAll_mk1 (shut_bool Tryz.underlying4 _), (trodAll_cons_mk (Below.trod laidOut (by kernel_rfl) (of_decide_eq_true (by kernel_rfl)) k0 bel lt0) (trodAll_cons_mk (Below.trod laidOut (by kernel_rfl) (of_decide_eq_true (by kernel_rfl)) k1 bel lt1) trodAll_mk0)), rfl, bel.frame _, fun h => by cases h⟩

theorem over : Rows.FnProductsSaid :=
  OpenClaim.holds_of_wide 4 Tryz.f4 rfl rfl rfl rfl rfl rfl rfl ⟨rfl, rfl, rfl, rfl, rfl⟩ rfl rfl rfl rfl rfl (by kernel_rfl) Tryz.func4 (by kernel_rfl)
    (of_decide_eq_true (by kernel_rfl)) (by unfold Func.isWrapper; first | (rw [if_pos (by decide +kernel)]; kernel_rfl) | (rw [if_neg (by decide +kernel)]; exact ⟨rfl, rfl⟩))
    (fun os started H enc _ => lifted os started H enc)

/-- The card: what the program's text lays is tied to it. -/
theorem proved : Rows.FnProductsCardSaid :=
  Claim7.holds_tied_plain_at .later [] _ _ _ _ over (fun _ h => by cases h) (by kernel_rfl) (fun _ h => by cases h) fnProducts_row_tie rfl ⟨rfl, rfl⟩ (by kernel_rfl) rfl
    (fun f fn hf hfn => by
      obtain rfl : f = 4 := Option.some.inj ((show Tryz.prog.funcNamed Rows.fnProductsRow.func = some 4 by kernel_rfl).symm.trans hf) |>.symm
      obtain rfl : fn = Tryz.f4 := (Option.some.inj (Tryz.func4.symm.trans hfn)).symm
      exact ⟨by kernel_rfl, fun j t ht => by
        rw [Tryz.params4] at ht
        have hm : t ∈ Tryz.f4.params.toList := by rw [Tryz.params4]; simpa using Array.mem_of_getElem? ht
        rw [Tryz.params4] at hm
        have hall : ((Tryz.f4.params.toList).all fun u => !Tryz.prog.wantsStandIn u) = true := by kernel_rfl
        rw [Tryz.params4] at hall
        exact (show Tryz.prog.wantsStandIn t = false by simpa using List.all_eq_true.1 hall t hm)⟩)
    (by kernel_rfl)
#print axioms proved
end Go.Proofs.YtmalbjncjlhbaaaGreatDoor.fnProducts
