/-
  ResidualOf, of the program and of the model.
-/
import Derived.Test.YtihhlfafglmgnaaRestS
import Derived.Test.YtihhlfafglmgnaaMax
namespace Go.Proofs.Ytihhlfafglmgnaa
open Go.Fl Go.RowKit
open Go.Joins (ownsRow_le)
set_option linter.unusedSimpArgs false
set_option linter.unusedVariables false

theorem resR_congr {F G : Nat → Nat} : ∀ n, (∀ j, j < n → F j = G j) → resR F n = resR G n := by
  intro n
  induction n with
  | zero => intro _; rfl
  | succ n ih =>
    intro h
    show stepR (resR F n) (F n) = stepR (resR G n) (G n)
    rw [ih (fun j hj => h j (by omega)), h n (Nat.lt_succ_self n)]

def okResidualOf (a b : Int) (xs zs : List Nat) : Bool := fieldOk a b xs.length && fieldOk a b zs.length
def valResidualOf (a b : Int) (xs zs : List Nat) : Nat := if okResidualOf a b xs zs then resR (restV a b xs (lvlF zs)) xs.length else 0

set_option maxHeartbeats 4000000 in
set_option maxRecDepth 100000 in
theorem iResidualOf_any (a b : Int) (u : Value) (xs : List Nat) (v : Value) (zs : List Nat) (w : World) (hu : FS .f32 w u xs) (hn : xs.length ≤ 1048576) (hv : FS .f32 w v zs) (hn2 : zs.length ≤ 1048576) :
    Calls Try.prog 28 #[GV a b, u, v] w fun e w' => (∃ r, e = .returned (.tuple #[.float .f32 r, .bool (okResidualOf a b xs zs)]) ∧ Is .f32 r (valResidualOf a b xs zs)) ∧ Below w.heap.size w w' := by
  have HU := Lib.hid hu; have HV := Lib.hid hv
  obtain ⟨a1, c1, rfl, hlc, hcm, hwf, hmem⟩ := hu
  obtain ⟨a2, c2, rfl, hlc2, hcm2, hwf2, hmem2⟩ := hv
  have HWX := Lib.hid hwf
  have hb0 := (Below.refl w.heap.size w).alloc (Nat.le_refl _) (.cells #[.int .i64 a, .int .i64 b] 28)
  clear hmem hlc hcm hwf hmem2 hlc2 hcm2 hwf2
  unfold valResidualOf okResidualOf
  cases h : fieldOk a b xs.length && fieldOk a b zs.length with
  | true =>
    rw [Bool.and_eq_true] at h
    have HLL := Lib.hid (show zs.length = xs.length by have := (fieldOk_true h.1).2.2.2.2.1; have := (fieldOk_true h.2).2.2.2.2.1; omega)
    have HA := Lib.hid (fieldOk_true h.1)
    have H1 := Lib.hid h.1; have H2 := Lib.hid h.2
    have hpos : 0 < xs.length := by
      have := HA.out; have h4 : 4 * 4 ≤ a * b := Int.mul_le_mul this.1 this.2.2.1 (by omega) (by omega); omega
    clear h
    go_enter Try.func28, Try.ntmps28
    go_wp2_with fail
    generalize w.alloc (.cells #[.int .i64 a, .int .i64 b] 28) = w1 at hb0 ⊢
    refine (newBoard_yes a b _ _ xs zs _ (HU.out.below hb0) (HV.out.below hb0) H1.out H2.out).mono ?_; rintro e w2 ⟨⟨p, q, rfl, hp, ⟨rs, hl, he, ho⟩, _, _⟩, hb2⟩
    obtain ⟨ap, cp, rfl, _⟩ := fown_form hp
    obtain ⟨aq, cq, rfl, _⟩ := fown_form ho
    have hbb := hb0.trans (hb2.mono hb0.size)
    have hal := (Below.refl w2.heap.size w2).alloc (Nat.le_refl _) (.cells #[.int .i64 a, .int .i64 b, .slice ap xs.length cp, .slice aq rs.length cq] 74)
    have F1 := Lib.hid ((fown_FS ho he.lt).below hal)
    have F2 := Lib.hid ((fown_FS hp HWX.out).below hal)
    have HE := Lib.hid he; have HL := Lib.hid hl; have HB := Lib.hid hbb; have HAL := Lib.hid hal
    clear hp ho he hl hb2 hb0 hbb hal
    go_wp2_with fail
    refine (unsolved_any a b _ _ xs rs _ F2.out F1.out H1.out (HL.out.trans HLL.out)).mono ?_; rintro e w3 ⟨⟨q, rfl, hq⟩, hb3⟩
    obtain ⟨g, cap, ms, rfl, hml, hme, hmo⟩ := fres_row hq hpos
    have HML := Lib.hid hml; have HME := Lib.hid hme; have HMO := Lib.hid hmo
    have HD := Lib.hid (HB.out.trans ((HAL.out.trans (hb3.mono HAL.out.size)).mono HB.out.size))
    have HG := Lib.hid (show resR (restV a b xs (fun j => cn .f32 (rs.getD j 0))) xs.length = resR (restV a b xs (lvlF zs)) xs.length from resR_congr _ (fun j hj => by unfold restV; show fop .sub .f32 (cn .f32 (rs.getD j 0)) _ = _; rw [(HE.out j (by have := HL.out; have := HLL.out; omega)).eq]))
    clear hq hml hme hmo hb3
    generalize restV a b xs (fun j => cn .f32 (rs.getD j 0)) = G at HME HG
    go_wp2_with fail
    go_loopw [10, 25] (fun s i wr => ∃ (k r m : Nat), s = .float .f32 r ∧ i = .int .i64 (k : Int) ∧ k ≤ xs.length ∧ wr = w3.drewN m ∧ Hid (Is .f32 r (resR G k))) (fun _ i _ => xs.length - (intOf i).toNat)
    case atStart => exact ⟨0, 0, 0, rfl, rfl, Nat.zero_le _, rfl, Lib.hid (Is.const rfl)⟩
    case round =>
      obtain ⟨k, r0, m, rfl, rfl, hk, rfl, HR⟩ := hrel
      by_cases hlt : k < xs.length
      · have xm := row_at' HMO.out HML.out hlt
        have ixm := HME.out k (Nat.zero_le _) hlt
        have ixr := HR.out
        have HS := Lib.hid (show resR G (k + 1) = fmax (fmax (resR G k) (G k)) (fneg .f32 (G k)) from rfl)
        generalize resR G k = O at ixr HS
        generalize G k = X at ixm HS
        generalize ms.getD k 0 = y at xm ixm
        have ixn := ixm.neg32
        have iK0 : (0 : Int) ≤ (k : Int) := Int.natCast_nonneg _
        have iK1 : (k : Int) < (xs.length : Int) := by omega
        obtain ⟨r, n, hrun, hr⟩ := run_max3 (P := Try.prog) (w3.drewN m) #[25, 25, 25] 25 ixr ixm ixn
        go_wp2_with fail
        go_roundw
        case rel => exact ⟨k + 1, r, m + n, rfl, by go_num, by omega, rfl, Lib.hid (by rw [HS.out]; exact hr)⟩
        case measure => simp [intOf]; omega
      · have hk2 : k = xs.length := by omega
        have HK2 := Lib.hid hk2
        have HR2 := Lib.hid (show Is .f32 r0 (resR (restV a b xs (lvlF zs)) xs.length) by rw [← HG.out, ← hk2]; exact HR.out)
        clear hk2
        go_wp2_with fail
        go_ret2
        exact ⟨⟨_, rfl, by simpa using HR2.out⟩, below_drewN HD.out _⟩
  | false =>
    have H1 := Lib.hid h
    clear h
    go_enter Try.func28, Try.ntmps28
    go_wp2_with fail
    generalize w.alloc (.cells #[.int .i64 a, .int .i64 b] 28) = w1 at hb0 ⊢
    refine (newBoard_no a b _ _ xs zs _ (HU.out.below hb0) (HV.out.below hb0) hn2 H1.out).mono ?_; rintro e w2 ⟨rfl, hb2⟩
    have hbb := hb0.trans (hb2.mono hb0.size)
    go_wp2_with fail
    go_ret2
    exact ⟨⟨0, rfl, Is.const rfl⟩, hbb.alloc hbb.size _⟩
end Go.Proofs.Ytihhlfafglmgnaa
