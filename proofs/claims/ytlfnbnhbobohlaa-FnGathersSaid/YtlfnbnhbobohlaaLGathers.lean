/- FnGathers: for all two lists of bytes the law returns true: what they draw is a grid, a particle and a field; what the particle gathers of the field, times its charge, is the sum of the field times what it leaves, a field that is the same everywhere is gathered as it is, and of a field that is doubled the double is gathered. No condition. -/
import Derived.Test.YtlfnbnhbobohlaaRows
import Derived.WalkKit
import Derived.ProofKit
import Derived.OpenShut
import Derived.ShutString
import Derived.ChangeOld
import Derived.Below
import Derived.Laws.Cover2
import Derived.Test.YtlfnbnhbobohlaaGam
import Derived.Test.YtlfnbnhbobohlaaLng
namespace Go.Proofs.Ytlfnbnhbobohlaa.fnGathers
open Go.ChangeShapes Go.WideShapes Go.ChangeAt Go.RowKit Go.Fl
open Go.ChangeMaps (open_string shut_string)
set_option linter.unusedVariables false
open Go.Nl (NS)

theorem ceq_run (P : Program) (t : TypeId) {x y x' y' : Nat} (h1 : fcmp .eql .f32 x x' = true) (h2 : fcmp .eql .f32 y y' = true) (w : World) :
    (binOp .eql t (.complex .f32 x y) (.complex .f32 x' y')).run P w = .ok (.bool true) w := by
  have e1 : (FloatKind.f32.format.order x x' == some .eq) = true := h1
  have e2 : (FloatKind.f32.format.order y y' == some .eq) = true := h2
  simp [binOp, Op.complexOp, Op.Complex.cmp, Op.floatCmp, asBool, e1, e2]
theorem wpList_ceq {P : Program} {w : World} {ops : Array Oper} {rest : List Oper} {a : Act} {Q : Exit → Act → World → Prop} {dst : Option Tmp} {xt yt ty : TypeId} {X Y : Operand} {pos : String} {after : Array Edge} {gd : Option (Nat × Bool)}
    (hw : Region.wanted ⟨dst, .binOp .eql xt X Y yt, ty, pos, after, gd⟩ (yielded ops a.tmps) = true) {x y x' y' : Nat} (hX : a.eval X = .complex .f32 x y) (hY : a.eval Y = .complex .f32 x' y') (h1 : fcmp .eql .f32 x x' = true) (h2 : fcmp .eql .f32 y y' = true)
    (h : wpList P ops Q rest (a.put dst (.bool true)) w) : wpList P ops Q (⟨dst, .binOp .eql xt X Y yt, ty, pos, after, gd⟩ :: rest) a w := by
  refine wpList_do hw fun K hK => ?_
  have hg : (eqGuard .eql xt X Y (.complex .f32 x y) (.complex .f32 x' y')) = pure () := by first | rfl | simp [eqGuard]
  unfold Oper.wp
  simp [execOp, hX, hY, hg, ceq_run P xt h1 h2 w, Result.andThen]
  exact hK _ _ h
theorem own_fs {B : Nat} {w : World} {v : Value} {xs : List Nat} (h : FOwn B w v xs) (hw : ∀ x ∈ xs, x < 2 ^ FloatKind.f32.format.width) : FS .f32 w v xs := fown_FS h hw
theorem dvl_lt {xs : List Nat} {F : Nat → Int} (h : DvL xs F) : ∀ x ∈ xs, x < 2 ^ FloatKind.f32.format.width := by
  intro x hx
  obtain ⟨j, hj, rfl⟩ := List.mem_iff_getElem.1 hx
  have := (h j hj).lt
  rwa [List.getD_eq_getElem?_getD, List.getElem?_eq_getElem hj, Option.getD_some] at this
theorem dyl_lt {xs : List Nat} {F : Nat → Int} (h : DyL xs F) : ∀ x ∈ xs, x < 2 ^ FloatKind.f32.format.width := by
  intro x hx
  obtain ⟨j, hj, rfl⟩ := List.mem_iff_getElem.1 hx
  have := (h j hj).lt
  rwa [List.getD_eq_getElem?_getD, List.getElem?_eq_getElem hj, Option.getD_some] at this
theorem one_own (w : World) (t : Pt) (B : Nat) (h : B ≤ w.heap.size) : POwn B (w.alloc (.cells #[.complex .f32 (E8 t.n) (E8 t.m), .complex .f32 t.x t.y, .float .f32 (E8 t.c), .float .f32 (E8 t.s)] 72)) (.slice (some ⟨w.heap.size, 0, none⟩) 1 1) [t] :=
  ⟨by first | rfl | simp [cells4_len], .inr ⟨w.heap.size, 1, #[.complex .f32 (E8 t.n) (E8 t.m), .complex .f32 t.x t.y, .float .f32 (E8 t.c), .float .f32 (E8 t.s)], rfl, h, heap_alloc_new w _, Nat.le_refl _, by decide, rfl, rfl⟩⟩
def ptOf (n m p q ch ms : Int) : Pt := ⟨n, m, E8 p, E8 q, p, q, 4 * ch, 2 * ms⟩
theorem ptOf_ok {n m p q ch ms : Int} (h : 0 ≤ n ∧ n < 64 ∧ 0 ≤ m ∧ m < 64 ∧ -8 ≤ p ∧ p ≤ 8 ∧ -8 ≤ q ∧ q ≤ 8 ∧ -4 ≤ ch ∧ ch ≤ 4 ∧ 1 ≤ ms ∧ ms ≤ 8) : (ptOf n m p q ch ms).ok :=
  ⟨by show -112 ≤ n; omega, by show n < 248; omega, by show -112 ≤ m; omega, by show m < 248; omega, by show -8 ≤ p; omega, by show p ≤ 8; omega, by show -8 ≤ q; omega, by show q ≤ 8; omega, by show -16 ≤ 4 * ch; omega, by show 4 * ch ≤ 16; omega, by show 2 ≤ 2 * ms; omega, by show 2 * ms ≤ 16; omega, dy_e8' (by omega) (by omega), dy_e8' (by omega) (by omega)⟩

set_option maxHeartbeats 4000000 in
set_option maxRecDepth 100000 in
theorem walk (a0 : Option Addr) (len0 cap0 : Nat) (z0 : List Int) (a1 : Option Addr) (len1 cap1 : Nat) (z1 : List Int) (w : World) (w0 : NS .u8 w (.slice a0 len0 cap0) z0) (w1 : NS .u8 w (.slice a1 len1 cap1) z1) :
    Calls Try.prog 14 #[.slice a0 len0 cap0, .slice a1 len1 cap1] w fun e w' => e = .returned (.bool true) ∧ Below w.heap.size w w' := by
  have HC := Lib.hid w0
  have HM := Lib.hid w1
  clear w0 w1
  by_cases hl : (48 < len0 ∨ 48 < len1)
  · have HL := Lib.hid (show decide (48 < len0 ∨ 48 < len1) = true from decide_eq_true hl)
    clear hl
    go_enter Try.func14, Try.ntmps14
    go_wp2_with fail
    refine (lLong_any _ _ _ _ _ _ _).mono ?_; rw [HL.out]; rintro e w' ⟨rfl, rfl⟩
    go_wp2_with fail
    go_ret
    exact ⟨rfl, Below.refl _ _⟩
  have HL := Lib.hid (show decide (48 < len0 ∨ 48 < len1) = false from decide_eq_false hl)
  clear hl
  go_enter Try.func14, Try.ntmps14
  go_wp2_with fail
  refine (lLong_any _ _ _ _ _ _ _).mono ?_; rw [HL.out]; rintro e w' ⟨rfl, rfl⟩
  go_wp2_with fail
  refine (sR8Grid_any _ z0 _ HC.out).mono ?_; rintro e v1 ⟨a, b, ha, ha', hb, hb', rfl, hb1⟩
  have hp2 := gp_new v1 a b 27
  have hal := (Below.refl v1.heap.size v1).alloc (Nat.le_refl _) (.cells #[.int .i64 a, .int .i64 b] 27)
  go_wp2_with fail
  generalize v1.alloc (.cells #[.int .i64 a, .int .i64 b] 27) = v2 at hp2 hal ⊢
  have HB2 := Lib.hid (hb1.trans (hal.mono hb1.size))
  have HP := Lib.hid hp2
  clear hp2 hal hb1
  refine (sR8Part_any _ z1 _ (HM.out.below HB2.out)).mono ?_; rintro e v3 ⟨⟨n, m, p, q, ch, ms, hbd, rfl⟩, hb3⟩
  have HT := Lib.hid (ptOf_ok hbd)
  rw [show PV n m p q (4 * ch) (2 * ms) = .agg #[.complex .f32 (E8 (ptOf n m p q ch ms).n) (E8 (ptOf n m p q ch ms).m), .complex .f32 (ptOf n m p q ch ms).x (ptOf n m p q ch ms).y, .float .f32 (E8 (ptOf n m p q ch ms).c), .float .f32 (E8 (ptOf n m p q ch ms).s)] from rfl]
  clear hbd
  generalize ptOf n m p q ch ms = t at HT ⊢
  have D3 := Lib.hid hb3
  have hal := (Below.refl v3.heap.size v3).alloc (Nat.le_refl _) (.cells #[.complex .f32 (E8 t.n) (E8 t.m), .complex .f32 t.x t.y, .float .f32 (E8 t.c), .float .f32 (E8 t.s)] 72)
  have HQ := Lib.hid (heap_alloc_new v3 (.cells #[.complex .f32 (E8 t.n) (E8 t.m), .complex .f32 t.x t.y, .float .f32 (E8 t.c), .float .f32 (E8 t.s)] 72))
  have D4 := Lib.hid (D3.out.trans (hal.mono D3.out.size))
  clear hal hb3
  have g0 := (HP.out.ever _ D4.out).1; have g1 := (HP.out.ever _ D4.out).2
  go_wp2_with fail
  clear g0 g1
  generalize v3.alloc (.cells #[.complex .f32 (E8 t.n) (E8 t.m), .complex .f32 t.x t.y, .float .f32 (E8 t.c), .float .f32 (E8 t.s)] 72) = v4 at D4 HQ ⊢
  have HCL := Lib.hid (show ∀ w', Below v4.heap.size v4 w' → (w'.cell? ⟨v1.heap.size, 0, none⟩ = some (.int .i64 a) ∧ w'.cell? ⟨v1.heap.size, 1, none⟩ = some (.int .i64 b)) ∧ (w'.cell? ⟨v3.heap.size, 0, none⟩ = some (.complex .f32 (E8 t.n) (E8 t.m)) ∧ w'.cell? ⟨v3.heap.size, 1, none⟩ = some (.complex .f32 t.x t.y) ∧ w'.cell? ⟨v3.heap.size, 2, none⟩ = some (.float .f32 (E8 t.c)) ∧ w'.cell? ⟨v3.heap.size, 3, none⟩ = some (.float .f32 (E8 t.s))) from fun w' hb =>
    ⟨HP.out.ever _ (D4.out.trans (hb.mono D4.out.size)), Four.cells (box_stay HQ.out hb)⟩)
  have D0 := Lib.hid (Below.refl v4.heap.size v4)
  clear HP HQ D3
  have hm1 : a * b ≤ 7 * 6 := Int.mul_le_mul ha' hb' (by omega) (by omega)
  have hm0 : 4 * 4 ≤ a * b := Int.mul_le_mul ha hb (by omega) (by omega)
  obtain ⟨N, hN⟩ : ∃ N : Nat, a * b = (N : Int) := ⟨(a * b).toNat, by omega⟩
  have HNI := Lib.hid hN
  have HNB := Lib.hid (show 16 ≤ N ∧ N ≤ 42 by omega)
  have HAB := Lib.hid (show 4 ≤ a ∧ a ≤ 7 ∧ 4 ≤ b ∧ b ≤ 7 by omega)
  have HGR := Lib.hid (small_grid ha ha' hb (show b ≤ 7 by omega))
  have HOK := Lib.hid (show fieldOk a b N = true from by unfold fieldOk; rw [small_grid ha ha' hb (by omega), wrap_i64, hN, wrap64_of (by omega) (by omega)]; simp)
  clear hm1 hm0 hN ha ha' hb hb'
  refine (sR8Field_any _ z1 a b N _ (HM.out.below (HB2.out.trans (D4.out.mono HB2.out.size))) HNI.out (by have := HNB.out; omega)).mono ?_; rintro e v5 ⟨⟨V, fs, rfl, hfl, hfr, hO⟩, hb5⟩
  have HFR := Lib.hid hfr; have HFL := Lib.hid hfl
  have HLM := Lib.hid (show (fs.map E8).length = N by rw [List.length_map]; exact hfl)
  have HF := Lib.hid (own_fs hO (dvl_lt (e8_dvl hfr)))
  obtain ⟨af, cf, rfl⟩ : ∃ af cf, V = .slice af N cf := by
    obtain ⟨aq, cq, e, _⟩ := fown_form hO
    exact ⟨aq, cq, by rw [e, HLM.out]⟩
  have D5 := Lib.hid (D0.out.trans (hb5.mono D0.out.size))
  have hI := HT.out
  have HTT := Lib.hid (And.intro hI.n0 (And.intro hI.n1 (And.intro hI.m0 hI.m1)))
  have HG := Lib.hid (fun (w : World) (v : Value) (xs : List Nat) (F : Nat → Int) (h : FS .f32 w v xs) (h2 : DvL xs F) (h3 : ∀ j, -32 ≤ F j ∧ F j ≤ 32) (h4 : xs.length = N) => iGather_e8 a b HAB.out.1 HAB.out.2.1 HAB.out.2.2.1 HAB.out.2.2.2 v xs F t.n t.m HTT.out.1 HTT.out.2.1 HTT.out.2.2.1 HTT.out.2.2.2 w h h2 h3 (by rw [h4]; exact HNI.out.symm))
  have HE := Lib.hid (show ∀ j, -32 ≤ eF fs j ∧ eF fs j ≤ 32 from fun j => by have := eF_in HFR.out j; omega)
  clear hb5 hO hfr hfl hI
  obtain ⟨⟨g0, g1⟩, p0, p1, p2, p3⟩ := HCL.out _ D5.out
  go_wp2_with fail
  refine (HG.out _ _ (fs.map E8) (eF fs) HF.out (e8_dvl HFR.out) HE.out HLM.out).mono ?_; rintro e v6 ⟨⟨own, rfl, hown⟩, hb6⟩
  have HOW := Lib.hid hown
  have HF6 := Lib.hid (HF.out.below hb6); have D6 := Lib.hid (D5.out.trans (hb6.mono D5.out.size))
  clear hown hb6 g0 g1 p0 p1 p2 p3
  obtain ⟨⟨g0, g1⟩, p0, p1, p2, p3⟩ := HCL.out _ D6.out
  have hal := (Below.refl v6.heap.size v6).alloc (Nat.le_refl _) (.cells #[.complex .f32 (E8 t.n) (E8 t.m), .complex .f32 t.x t.y, .float .f32 (E8 t.c), .float .f32 (E8 t.s)] 72)
  have HO1 := Lib.hid (one_own v6 t v6.heap.size (Nat.le_refl _))
  have HF7 := Lib.hid (HF6.out.below hal); have D7 := Lib.hid (D6.out.trans (hal.mono D6.out.size))
  clear hal
  go_wp2_with fail
  clear g0 g1 p0 p1 p2 p3
  generalize v6.alloc (.cells #[.complex .f32 (E8 t.n) (E8 t.m), .complex .f32 t.x t.y, .float .f32 (E8 t.c), .float .f32 (E8 t.s)] 72) = v7 at HO1 HF7 D7 ⊢
  refine (iDeposit_pt a b HAB.out.1 HAB.out.2.1 HAB.out.2.2.1 HAB.out.2.2.2 _ _ [t] _ HO1.out (fun u hu => by rw [List.mem_singleton.1 hu]; exact HT.out) (by simp)).mono ?_
  rintro e v8 ⟨⟨V2, ys, rfl, O2, hyl, hdy⟩, hb8⟩
  have HYL := Lib.hid (show ys.length = N by have := HNI.out; omega)
  have HDY := Lib.hid (show DyL ys (fun j => depAt a b j t) from fun j hj => by
    have h : Dy .f32 140 (ys.getD j 0) (sumI (depAt a b j) [t] [t].length) := hdy j hj
    rw [show sumI (depAt a b j) [t] [t].length = depAt a b j t by simp [sumI]] at h
    exact h)
  have HY := Lib.hid (own_fs O2 (dyl_lt hdy))
  obtain ⟨ay, cy, rfl⟩ : ∃ ay cy, V2 = .slice ay N cy := by
    obtain ⟨aq, cq, e, _⟩ := fown_form O2
    exact ⟨aq, cq, by rw [e, HYL.out]⟩
  have HF8 := Lib.hid (HF7.out.below hb8); have D8 := Lib.hid (D7.out.trans (hb8.mono D7.out.size))
  clear O2 hyl hdy hb8 HF HF6 HF7 D5 D6 D7 HO1
  obtain ⟨⟨g0, g1⟩, p0, p1, p2, p3⟩ := HCL.out _ D8.out
  go_wp2_with fail
  have hdot := iFieldDot_e8 a b (.slice af N cf) (.slice ay N cy) (fs.map E8) ys (eF fs) (fun j => depAt a b j t) v8 HF8.out HY.out (e8_dvl HFR.out) HDY.out HE.out (fun j => dep_in HT.out j) (by rw [HLM.out]; exact HOK.out) (by rw [HLM.out]; exact HYL.out) (by have := HLM.out; have := HNB.out; omega)
  rw [HLM.out, gather_left a b HAB.out.1 HAB.out.2.2.1 N HNI.out.symm] at hdot
  refine hdot.mono ?_; rintro e v9 ⟨⟨dot, rfl, hd⟩, hb9⟩
  clear hdot
  have HD := Lib.hid hd; have HF9 := Lib.hid (HF8.out.below hb9); have D9 := Lib.hid (D8.out.trans (hb9.mono D8.out.size))
  clear hd hb9 g0 g1 p0 p1 p2 p3 HY HDY HYL HF8
  obtain ⟨⟨g0, g1⟩, p0, p1, p2, p3⟩ := HCL.out _ D9.out
  go_wp2_with fail
  refine (iEven_any a b 1056964608 3221225472 N _ HGR.out HNI.out.symm half_dv.1.is half_dv.2.is (by decide) (by decide)).mono ?_; rintro e v10 ⟨⟨U1, U2, rfl, hu1, hu2⟩, hb10⟩
  have HU1 := Lib.hid (own_fs hu1 (dvl_lt (rep_dvl half_dv.1.dv))); have HU2 := Lib.hid (own_fs hu2 (dvl_lt (rep_dvl half_dv.2.dv)))
  have HF10 := Lib.hid (HF9.out.below hb10); have D10 := Lib.hid (D9.out.trans (hb10.mono D9.out.size))
  obtain ⟨u1, k1, rfl⟩ : ∃ aq cq, U1 = .slice aq N cq := by
    obtain ⟨aq, cq, e, _⟩ := fown_form hu1
    exact ⟨aq, cq, by rw [e, List.length_replicate]⟩
  obtain ⟨u2, k2, rfl⟩ : ∃ aq cq, U2 = .slice aq N cq := by
    obtain ⟨aq, cq, e, _⟩ := fown_form hu2
    exact ⟨aq, cq, by rw [e, List.length_replicate]⟩
  clear hu1 hu2 hb10 g0 g1 p0 p1 p2 p3 HF9 D8
  obtain ⟨⟨g0, g1⟩, p0, p1, p2, p3⟩ := HCL.out _ D10.out
  go_wp2_with fail
  refine (iGatherTwo_e8 a b HAB.out.1 HAB.out.2.1 HAB.out.2.2.1 HAB.out.2.2.2 _ _ (List.replicate N 1056964608) (List.replicate N 3221225472) (fun _ => 4) (fun _ => -16) t.n t.m HTT.out.1 HTT.out.2.1 HTT.out.2.2.1 HTT.out.2.2.2 _ HU1.out HU2.out (rep_dvl half_dv.1.dv) (rep_dvl half_dv.2.dv) (fun _ => by omega) (fun _ => by omega) (by rw [List.length_replicate]; exact HNI.out.symm) (by rw [List.length_replicate]; exact HNI.out.symm)).mono ?_
  rintro e v11 ⟨⟨x1, x2, rfl, hx1, hx2⟩, hb11⟩
  rw [gat_even] at hx1 hx2
  have HX1 := Lib.hid (show fcmp .eql .f32 x1 1056964608 = true by rw [hx1.dv.eql (dy_scale (u := 140) (t := 6) half_dv.1).dv]; decide)
  have HX2 := Lib.hid (show fcmp .eql .f32 x2 3221225472 = true by rw [hx2.dv.eql (dy_scale (u := 140) (t := 6) half_dv.2).dv]; decide)
  have HF11 := Lib.hid (HF10.out.below hb11); have D11 := Lib.hid (D10.out.trans (hb11.mono D10.out.size))
  clear hx1 hx2 hb11 g0 g1 p0 p1 p2 p3 HF10 D9 HU1 HU2
  obtain ⟨⟨g0, g1⟩, p0, p1, p2, p3⟩ := HCL.out _ D11.out
  go_wp2_with fail
  have hsc := iScale_yes a b (.slice af N cf) (fs.map E8) 1073741824 1073741824 v11 HF11.out (Is.const (by decide)) (by rw [HLM.out]; exact HOK.out)
  rw [HLM.out] at hsc
  refine hsc.mono ?_; rintro e v12 ⟨⟨T1, rfl, rs, hrl, hre, hro⟩, hb12⟩
  clear hsc
  have HRL := Lib.hid hrl
  have HR := Lib.hid (show ∀ j, j < rs.length → rs.getD j 0 = E8 (2 * eF fs j) from fun j hj => mul_list HFR.out (by have := HFL.out; omega) hre hj)
  have HE2 := Lib.hid (show ∀ j, -32 ≤ 2 * eF fs j ∧ 2 * eF fs j ≤ 32 from fun j => by have := eF_in HFR.out j; omega)
  have HRF := Lib.hid (own_fs hro hre.lt)
  obtain ⟨t1, j1, rfl⟩ : ∃ aq cq, T1 = .slice aq N cq := by
    obtain ⟨aq, cq, e, _⟩ := fown_form hro
    exact ⟨aq, cq, by rw [e, hrl]⟩
  have HF12 := Lib.hid (HF11.out.below hb12); have D12 := Lib.hid (D11.out.trans (hb12.mono D11.out.size))
  clear hrl hre hro hb12 g0 g1 p0 p1 p2 p3 HF11 D10
  obtain ⟨⟨g0, g1⟩, p0, p1, p2, p3⟩ := HCL.out _ D12.out
  go_wp2_with fail
  have had := iAdd_yes a b (.slice af N cf) (.slice af N cf) (fs.map E8) (fs.map E8) v12 HF12.out HF12.out (by rw [HLM.out]; exact HOK.out) (by rw [HLM.out]; exact HOK.out)
  rw [HLM.out] at had
  refine had.mono ?_; rintro e v13 ⟨⟨T2, rfl, ss, hsl, hse, hso⟩, hb13⟩
  clear had
  have HSL := Lib.hid hsl
  have HS := Lib.hid (show ∀ j, j < ss.length → ss.getD j 0 = E8 (2 * eF fs j) from fun j hj => add_list HFR.out (by have := HFL.out; omega) hse hj)
  have HSF := Lib.hid (own_fs hso hse.lt)
  obtain ⟨t2, j2, rfl⟩ : ∃ aq cq, T2 = .slice aq N cq := by
    obtain ⟨aq, cq, e, _⟩ := fown_form hso
    exact ⟨aq, cq, by rw [e, hsl]⟩
  have HRF := Lib.hid (HRF.out.below hb13); have D13 := Lib.hid (D12.out.trans (hb13.mono D12.out.size))
  clear hsl hse hso hb13 g0 g1 p0 p1 p2 p3 HF12 D11
  obtain ⟨⟨g0, g1⟩, p0, p1, p2, p3⟩ := HCL.out _ D13.out
  go_wp2_with fail
  refine (HG.out _ _ rs (fun j => 2 * eF fs j) HRF.out (e8_dyl HR.out HE2.out).2 HE2.out HRL.out).mono ?_; rintro e v14 ⟨⟨great, rfl, hgr⟩, hb14⟩
  rw [gat_twice] at hgr
  have hgi := gat_in a b (eF fs) t.n t.m HE.out
  have hcc := HT.out.c0; have hcc' := HT.out.c1
  have hcg : -131072 ≤ t.c * gatI a b (eF fs) t.n t.m ∧ t.c * gatI a b (eF fs) t.n t.m ≤ 131072 := by
    generalize gatI a b (eF fs) t.n t.m = G at hgi ⊢
    generalize t.c = C at hcc hcc' ⊢
    rcases Int.le_total 0 C with h | h
    · have := mul_in (A := 8192) (B := 16) hgi.1 hgi.2 h hcc' (by omega)
      rw [Int.mul_comm]; omega
    · have := mul_in (A := 8192) (B := 16) hgi.1 hgi.2 (show 0 ≤ -C by omega) (by omega) (by omega)
      rw [Int.mul_neg] at this
      rw [Int.mul_comm]
      omega
  have hmu := (dy_e8' (n := t.c) (by omega) (by omega)).mul32 HOW.out.dv (w := 137) (by decide) (by omega) (by decide)
  have HQ1 := Lib.hid (show fcmp .eql .f32 (fop .mul .f32 (E8 t.c) own) dot = true by rw [hmu.eql HD.out.dv]; simp)
  have h2o := two_dv.mul32 HOW.out.dv (w := 140) (by decide) (by omega) (by decide)
  have HQ2 := Lib.hid (show fcmp .eql .f32 great (fop .mul .f32 1073741824 own) = true by rw [hgr.dv.eql h2o]; simp)
  have ic := (dy_e8' (n := t.c) (by omega) (by omega)).is
  have io := HOW.out.is; have idot := HD.out.is; have ig := hgr.is
  have D14 := Lib.hid (D13.out.trans (hb14.mono D13.out.size))
  have HRF := Lib.hid (HRF.out.below hb14); have HSF := Lib.hid (HSF.out.below hb14)
  clear hgr hgi hcc hcc' hcg hmu h2o hb14 g0 g1 p0 p1 p2 p3
  obtain ⟨⟨g0, g1⟩, p0, p1, p2, p3⟩ := HCL.out _ D14.out
  have hq1 := HQ1.out; have hq2 := HQ2.out; have hx1 := HX1.out; have hx2 := HX2.out
  go_wp2_with (first | (apply wpList_farith; rfl; rfl; rfl; rfl; (first | with_reducible assumption | exact Is.const rfl); (first | with_reducible assumption | exact Is.const rfl); intro r n hr) | (apply wpList_fcmp; rfl; rfl; rfl; rfl; (first | with_reducible assumption | exact Is.const rfl); (first | with_reducible assumption | exact Is.const rfl); (first | with_reducible assumption | exact rfl)) | (apply wpList_ceq; rfl; rfl; rfl; (with_reducible exact hx1); (with_reducible exact hx2)) | fail)
  refine (lEqual_any _ _ rs ss (fun j => 2 * eF fs j * 2 ^ 6) _ (HRF.out.drewN _) (HSF.out.drewN _) (HRL.out.trans HSL.out.symm) (by rw [HRL.out]; have := HNB.out; omega) (e8_dyl HR.out HE2.out).1 (e8_dyl HS.out HE2.out).1).mono ?_
  rintro e v15 ⟨rfl, n15, rfl⟩
  clear g0 g1 p0 p1 p2 p3
  go_wp2_with (first | (apply wpList_farith; rfl; rfl; rfl; rfl; (first | with_reducible assumption | exact Is.const rfl); (first | with_reducible assumption | exact Is.const rfl); intro r n hr) | (apply wpList_fcmp; rfl; rfl; rfl; rfl; (first | with_reducible assumption | exact Is.const rfl); (first | with_reducible assumption | exact Is.const rfl); (first | with_reducible assumption | exact rfl)) | fail)
  go_ret
  exact ⟨rfl, HB2.out.trans ((D4.out.trans ((below_drewN D14.out _).mono D4.out.size)).mono HB2.out.size)⟩

/-! ### from the walk to the statement -/
theorem own : ownKnob Try.prog.godebug = none := by kernel_rfl
theorem laidOut : laidOutB Try.prog = true := by kernel_rfl
set_option maxRecDepth 100000 in
theorem lifted (os : Os) (started : os.Started) (H : Type) (enc : TypeId × Value → H) :
    ReturnsInHanded {} Try.checked os 14 .any (Rows.fnGathersSpec.pre6 enc Try.prog Try.f14 Rows.fnGathersRow.domain false) (Rows.fnGathersSpec.post enc Try.prog Try.f14 false true false false) := by
  refine returnsInHanded_of_change (C := Try.checked) own started (by kernel_rfl) Try.func14
    (ChangeSpec.witness6 (enc := enc) (C := Try.checked) false ⟨#[], #[.slice none 0 0, .slice none 0 0], []⟩ 8 (by kernel_rfl) (by kernel_rfl) (by kernel_rfl) (by kernel_rfl)) ?_
  intro W base args ds gs before hval0 hW hcnd _
  have hval : ∀ (j : Nat) t v, Try.f14.params[j]? = some t → args[j]? = some v → Value.okWide Try.prog W .any base t v := hval0
  have hW' := hW
  obtain ⟨p, q, hA0, hV, rfl, hfz, hnd⟩ := hW
  have hA : DataW.TrodAll enc Try.prog W 0 (fun _ => true) true Try.f14.params.toList args.toList ds p := hA0
  rw [Try.params14] at hA hval
  obtain ⟨v0, vs0, d0, ds0, p0, q0, hargs, rfl, rfl, h0, r0⟩ := trodAll_cons hA
  obtain ⟨v1, vs1, d1, ds1, p1, q1, rfl, rfl, rfl, h1, r1⟩ := trodAll_cons r0
  obtain ⟨rfl, rfl, rfl⟩ := trodAll_nil r1
  obtain rfl : args = #[v0, v1] := by cases args; simp_all
  obtain ⟨rfl, rfl⟩ := trodVars_none hV
  obtain ⟨a0, len0, cap0, rfl⟩ := okWide_slice Try.underlying68 (hval 0 68 v0 rfl rfl)
  have k0 := h0
  have lt0 : ∀ x ∈ p0, x.block < W.heap.size := by obtain ⟨m, hm⟩ := k0; exact DataW.trod_lt m _ _ _ hm
  obtain ⟨z0, w0⟩ : ∃ zs, Nl.NS .u8 W (.slice a0 len0 cap0) zs := Nl.open_nums Try.underlying68 Try.underlying5 (by kernel_rfl) h0
  obtain ⟨a1, len1, cap1, rfl⟩ := okWide_slice Try.underlying68 (hval 1 68 v1 rfl rfl)
  have k1 := h1
  have lt1 : ∀ x ∈ p1, x.block < W.heap.size := by obtain ⟨m, hm⟩ := k1; exact DataW.trod_lt m _ _ _ hm
  obtain ⟨z1, w1⟩ : ∃ zs, Nl.NS .u8 W (.slice a1 len1 cap1) zs := Nl.open_nums Try.underlying68 Try.underlying5 (by kernel_rfl) h1
  clear hA0 hval0
  refine (walk a0 len0 cap0 z0 a1 len1 cap1 z1 W w0 w1).mono fun e W' ⟨he, bel⟩ => ?_
  subst he
  exact ⟨_, rfl, _, _, _, [], _, [], hW', trodAll_mk1 (shut_bool Try.underlying4 _), (trodAll_cons_mk (Below.trod laidOut (by kernel_rfl) (of_decide_eq_true (by kernel_rfl)) k0 bel lt0) (trodAll_cons_mk (Below.trod laidOut (by kernel_rfl) (of_decide_eq_true (by kernel_rfl)) k1 bel lt1) trodAll_mk0)), rfl, bel.frame _, fun h => by cases h⟩

theorem over : Rows.fnGathersRow.holds Try.pinned (OpenSpec.ofChange Rows.fnGathersSpec) :=
  OpenClaim.holds_of_wide 14 Try.f14 rfl rfl rfl rfl rfl rfl rfl ⟨rfl, rfl, rfl, rfl, rfl⟩ rfl rfl rfl rfl rfl (by kernel_rfl) Try.func14 (by kernel_rfl)
    (of_decide_eq_true (by kernel_rfl)) (by unfold Func.isWrapper; first | (rw [if_pos (by decide +kernel)]; kernel_rfl) | (rw [if_neg (by decide +kernel)]; exact ⟨rfl, rfl⟩))
    (fun os started H enc _ => lifted os started H enc)

/-- The statement. -/
theorem proved : Rows.FnGathersSaid := over
#print axioms proved
end Go.Proofs.Ytlfnbnhbobohlaa.fnGathers
