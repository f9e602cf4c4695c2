/-
  FieldEnergy, of the program and of the model.
-/
import Derived.Test.YtajnaobfeipdaaaBrd
import Derived.Test.YtajnaobfeipdaaaDot
namespace Go.Proofs.Ytajnaobfeipdaaa
open Go.Fl Go.RowKit
open Go.Joins (ownsRow_le)
set_option linter.unusedSimpArgs false
set_option linter.unusedVariables false

/-- The sum of the first products, from left to right, of numbers that are told and of a list. -/
def dotG (F : Nat → Nat) (ys : List Nat) : Nat → Nat
  | 0 => 0
  | i + 1 => fop .add .f32 (dotG F ys i) (fop .mul .f32 (F i) (cn .f32 (ys.getD i 0)))
theorem dotTo_eqs {rs ys : List Nat} {F : Nat → Nat} (h : Eqs rs F) : ∀ k, k ≤ rs.length → dotTo .f32 rs ys k = dotG F ys k := by
  intro k
  induction k with
  | zero => intro _; rfl
  | succ k ih =>
    intro hk
    show fop .add .f32 (dotTo .f32 rs ys k) (fop .mul .f32 (cn .f32 (rs.getD k 0)) (cn .f32 (ys.getD k 0))) = fop .add .f32 (dotG F ys k) (fop .mul .f32 (F k) (cn .f32 (ys.getD k 0)))
    rw [ih (by omega), (h k (by omega)).eq]
/-- Half of the sum. -/
def engF (xs zs : List Nat) : Nat := fop .mul .f32 1056964608 (dotG (lvlF zs) xs zs.length)
def okFieldEnergy (a b : Int) (xs zs : List Nat) : Bool := fieldOk a b xs.length && fieldOk a b zs.length
def valFieldEnergy (a b : Int) (xs zs : List Nat) : Nat := if okFieldEnergy a b xs zs then engF xs zs else 0

set_option maxHeartbeats 1000000 in
theorem sEnergy_any (u v : Value) (xs zs : List Nat) (w : World) (hu : FS .f32 w u xs) (hv : FS .f32 w v zs) (hl : xs.length = zs.length) (hn : zs.length ≤ 1048576) :
    Calls Try.prog 73 #[u, v] w fun e w' => (∃ r, e = .returned (.float .f32 r) ∧ Is .f32 r (engF xs zs)) ∧ Below w.heap.size w w' := by
  have HU := Lib.hid hu; have HV := Lib.hid hv
  have HLX := Lib.hid hl
  obtain ⟨a1, c1, rfl, hlc, hcm, hwf, hmem⟩ := hu
  have HWF := Lib.hid hwf
  clear hv hmem hlc hcm hwf hl
  go_enter Try.func73, Try.ntmps73
  go_wp2_with fail
  refine (sLevel_any _ zs _ HV.out hn).mono ?_; rintro e w2 ⟨⟨q, rfl, rs, hl, he, ho⟩, hb2⟩
  have hfs := fown_FS ho he.lt
  have HFS := Lib.hid hfs
  obtain ⟨aq, cq, rfl, hlc, hcm, hwf2, hmem⟩ := hfs
  have HL := Lib.hid hl; have HE := Lib.hid he; have HB := Lib.hid hb2
  have HXX := Lib.hid (HU.out.below hb2)
  unfold maxLen at hcm
  clear hb2 hl he ho hmem
  go_wp2_with fail
  go_loopw [6, 12] (fun s i wr => ∃ k : Nat, k ≤ rs.length ∧ i = .int .i64 k ∧ (∃ r, s = .float .f32 r ∧ Is .f32 r (dotG (lvlF zs) xs k)) ∧ ∃ n, wr = w2.drewN n) (fun _ i _ => rs.length - (intOf i).toNat)
  case atStart => exact ⟨0, Nat.zero_le _, rfl, ⟨_, rfl, Is.const rfl⟩, 0, rfl⟩
  case round =>
    obtain ⟨k, hk, rfl, ⟨r, rfl, hr⟩, n, rfl⟩ := hrel
    by_cases hlt : k < rs.length
    · have hlt2 : k < xs.length := by have := HL.out; have := HLX.out; omega
      obtain ⟨b1, o1, e1, hcell⟩ := FS.at HFS.out (Below.refl _ _) hlt
      obtain rfl := e1
      obtain ⟨b2, o2, e2, hcell'⟩ := FS.at HXX.out (Below.refl _ _) hlt2
      obtain rfl := e2
      have hx := HE.out k hlt
      have hy := FS.is HWF.out k hlt2
      have HS := Lib.hid (show dotG (lvlF zs) xs (k + 1) = fop .add .f32 (dotG (lvlF zs) xs k) (fop .mul .f32 (lvlF zs k) (cn .f32 (xs.getD k 0))) from rfl)
      generalize lvlF zs k = X at hx HS
      generalize rs.getD k 0 = x at hcell hx
      generalize cn .f32 (xs.getD k 0) = Y at hy HS
      generalize xs.getD k 0 = y at hcell' hy
      go_wp2_with (first | ((with_reducible apply Loose.wp_start); kernel_rfl; kernel_rfl) | ((with_reducible apply Loose.start_cons)) | ((with_reducible apply Loose.start_nil)) | ((with_reducible apply Loose.walk_nil); intro n) | ((with_reducible apply Loose.walk_skip); exact rfl; (go_simp; first | done | exact rfl)) | ((with_reducible apply Loose.step_fc); rfl; rfl; rfl; rfl; (first | with_reducible assumption | exact Is.const rfl); (first | with_reducible assumption | exact Is.const rfl); (first | with_reducible assumption | exact rfl); exact rfl; (go_simp; first | done | exact rfl)) | ((with_reducible apply Loose.step_fa); rfl; rfl; rfl; rfl; (first | with_reducible assumption | exact Is.const rfl); (first | with_reducible assumption | exact Is.const rfl); exact rfl; (intro r; go_simp; first | done | exact rfl); intro r hr) | ((with_reducible apply Loose.step_wid); rfl; rfl; (first | with_reducible assumption | exact Is.const rfl); exact U32; exact U64; exact rfl; (intro r; go_simp; first | done | exact rfl); intro r hr) | ((with_reducible apply Loose.step_nar); rfl; rfl; (first | with_reducible assumption | exact Is.const rfl); exact U64; exact U32; (with_reducible assumption); exact rfl; (intro r; go_simp; first | done | exact rfl); intro r hr) | ((with_reducible apply Loose.step_assign); rfl; rfl; (with_reducible assumption); exact rfl; (intro r; go_simp; first | done | exact rfl); intro r hr) | ((with_reducible apply Loose.step_move); rfl; rfl; (with_reducible assumption); exact rfl; (intro r; go_simp; first | done | exact rfl); intro r hr) | ((with_reducible apply Loose.step_same); rfl; rfl; exact U32; exact U32; (first | with_reducible assumption | exact Is.const rfl); exact rfl; (intro r; go_simp; first | done | exact rfl); intro r hr) | ((with_reducible apply Loose.step_same); rfl; rfl; exact U64; exact U64; (first | with_reducible assumption | exact Is.const rfl); exact rfl; (intro r; go_simp; first | done | exact rfl); intro r hr) | ((with_reducible apply Loose.step_eq); rfl; (intro n; go_simp; first | done | exact rfl); exact rfl; (go_simp; first | done | exact rfl)) | (apply wpList_farith; rfl; rfl; rfl; rfl; (first | with_reducible assumption | exact Is.const rfl); (first | with_reducible assumption | exact Is.const rfl); intro r n hr) | (apply wpList_same; rfl; rfl; exact U32; exact U32))
      go_roundw
      case rel => exact ⟨k + 1, by omega, by go_num, ⟨_, rfl, by rw [HS.out]; assumption⟩, _, rfl⟩
      case measure => simp [intOf]; omega
    · have hk2 : k = rs.length := by omega
      have HK := Lib.hid (show engF xs zs = fop .mul .f32 1056964608 (dotG (lvlF zs) xs k) by unfold engF; rw [hk2, HL.out])
      clear hk2
      go_wp2_with (first | (apply wpList_farith; rfl; rfl; rfl; rfl; (first | with_reducible assumption | exact Is.const rfl); (first | with_reducible assumption | exact Is.const rfl); intro r n hr) | (apply wpList_same; rfl; rfl; exact U32; exact U32))
      go_ret
      exact ⟨⟨_, rfl, by rw [HK.out]; assumption⟩, below_drewN HB.out _⟩

theorem sFieldEnergy_any (a b : Int) (u : Value) (xs : List Nat) (v : Value) (zs : List Nat) (w : World) (hu : FS .f32 w u xs) (hn : xs.length ≤ 1048576) (hv : FS .f32 w v zs) (hn2 : zs.length ≤ 1048576) :
    Calls Try.prog 36 #[GV a b, u, v] w fun e w' => (∃ r, e = .returned (.tuple #[.float .f32 r, .bool (okFieldEnergy a b xs zs)]) ∧ Is .f32 r (valFieldEnergy a b xs zs)) ∧ Below w.heap.size w w' := by
  have HU := Lib.hid hu; have HV := Lib.hid hv
  obtain ⟨a1, c1, rfl, hlc, hcm, hwf, hmem⟩ := hu
  obtain ⟨a2, c2, rfl, hlc2, hcm2, hwf2, hmem2⟩ := hv
  have HP := Lib.hid (gp_new w a b 28)
  have hb0 := (Below.refl w.heap.size w).alloc (Nat.le_refl _) (.cells #[.int .i64 a, .int .i64 b] 28)
  clear hmem hlc hcm hwf hmem2 hlc2 hcm2 hwf2
  unfold valFieldEnergy okFieldEnergy
  cases h1 : fieldOk a b xs.length with
  | true =>
    cases h2 : fieldOk a b zs.length with
    | true =>
      have HLL := Lib.hid (show xs.length = zs.length by have := (fieldOk_true h1).2.2.2.2.1; have := (fieldOk_true h2).2.2.2.2.1; omega)
      have H1 := Lib.hid h1; have H2 := Lib.hid h2
      clear h1 h2
      go_enter Try.func36, Try.ntmps36
      go_wp2_with fail
      generalize w.alloc (.cells #[.int .i64 a, .int .i64 b] 28) = w1 at hb0 HP ⊢
      refine (sFits_any _ a b a1 xs.length c1 _ HP.out).mono ?_; rw [H1.out]; rintro e w' ⟨rfl, m1, rfl⟩
      go_wp2_with fail
      refine (sFits_any _ a b a2 zs.length c2 _ (GP.drewN HP.out m1)).mono ?_; rw [H2.out]; rintro e w' ⟨rfl, m2, rfl⟩
      go_wp2_with fail
      refine (sEnergy_any _ _ xs zs _ ((HU.out.below hb0).drewN (m1 + m2)) ((HV.out.below hb0).drewN (m1 + m2)) HLL.out hn2).mono ?_; rintro e w3 ⟨⟨r, rfl, hr⟩, hb3⟩
      have hbb := below_drewN hb0 (m1 + m2)
      go_wp2_with fail
      go_ret2
      exact ⟨⟨r, rfl, by simpa using hr⟩, hbb.trans (hb3.mono hbb.size)⟩
    | false =>
      have H1 := Lib.hid h1; have H2 := Lib.hid h2
      clear h1 h2
      go_enter Try.func36, Try.ntmps36
      go_wp2_with fail
      generalize w.alloc (.cells #[.int .i64 a, .int .i64 b] 28) = w1 at hb0 HP ⊢
      refine (sFits_any _ a b a1 xs.length c1 _ HP.out).mono ?_; rw [H1.out]; rintro e w' ⟨rfl, m1, rfl⟩
      go_wp2_with fail
      refine (sFits_any _ a b a2 zs.length c2 _ (GP.drewN HP.out m1)).mono ?_; rw [H2.out]; rintro e w' ⟨rfl, m2, rfl⟩
      go_wp2_with fail
      go_ret2
      exact ⟨⟨0, rfl, Is.const rfl⟩, below_drewN hb0 _⟩
  | false =>
    have H1 := Lib.hid h1
    clear h1
    go_enter Try.func36, Try.ntmps36
    go_wp2_with fail
    generalize w.alloc (.cells #[.int .i64 a, .int .i64 b] 28) = w1 at hb0 HP ⊢
    refine (sFits_any _ a b a1 xs.length c1 _ HP.out).mono ?_; rw [H1.out]; rintro e w' ⟨rfl, m1, rfl⟩
    go_wp2_with fail
    go_ret2
    exact ⟨⟨0, rfl, Is.const rfl⟩, below_drewN hb0 _⟩

set_option maxHeartbeats 1000000 in
theorem iFieldEnergy_any (a b : Int) (u : Value) (xs : List Nat) (v : Value) (zs : List Nat) (w : World) (hu : FS .f32 w u xs) (hn : xs.length ≤ 1048576) (hv : FS .f32 w v zs) (hn2 : zs.length ≤ 1048576) :
    Calls Try.prog 37 #[GV a b, u, v] w fun e w' => (∃ r, e = .returned (.tuple #[.float .f32 r, .bool (okFieldEnergy a b xs zs)]) ∧ Is .f32 r (valFieldEnergy a b xs zs)) ∧ Below w.heap.size w w' := by
  have HU := Lib.hid hu; have HV := Lib.hid hv
  obtain ⟨a1, c1, rfl, hlc, hcm, hwf, hmem⟩ := hu
  obtain ⟨a2, c2, rfl, hlc2, hcm2, hwf2, hmem2⟩ := hv
  have HWX := Lib.hid hwf
  have hb0 := (Below.refl w.heap.size w).alloc (Nat.le_refl _) (.cells #[.int .i64 a, .int .i64 b] 28)
  clear hmem hlc hcm hwf hmem2 hlc2 hcm2 hwf2
  unfold valFieldEnergy okFieldEnergy
  cases h : fieldOk a b xs.length && fieldOk a b zs.length with
  | true =>
    rw [Bool.and_eq_true] at h
    have HLL := Lib.hid (show zs.length = xs.length by have := (fieldOk_true h.1).2.2.2.2.1; have := (fieldOk_true h.2).2.2.2.2.1; omega)
    have H256 := Lib.hid (fieldOk_true h.2).2.2.2.2.2
    have H1 := Lib.hid h.1; have H2 := Lib.hid h.2
    clear h
    go_enter Try.func37, Try.ntmps37
    go_wp2_with fail
    generalize w.alloc (.cells #[.int .i64 a, .int .i64 b] 28) = w1 at hb0 ⊢
    refine (newBoard_yes a b _ _ xs zs _ (HU.out.below hb0) (HV.out.below hb0) H1.out H2.out).mono ?_; rintro e w2 ⟨⟨p, q, rfl, hp, ⟨rs, hl, he, ho⟩, _, _⟩, hb2⟩
    obtain ⟨ap, cp, rfl, _⟩ := fown_form hp
    obtain ⟨aq, cq, rfl, _⟩ := fown_form ho
    have hbb := hb0.trans (hb2.mono hb0.size)
    have hal := (Below.refl w2.heap.size w2).alloc (Nat.le_refl _) (.cells #[.int .i64 a, .int .i64 b, .slice ap xs.length cp, .slice aq rs.length cq] 74)
    have F1 := Lib.hid ((fown_FS ho he.lt).below hal)
    have F2 := Lib.hid ((fown_FS hp HWX.out).below hal)
    have HE := Lib.hid he; have HL := Lib.hid hl; have HB := Lib.hid hbb; have HAL := Lib.hid hal
    clear hp ho he hl hb2 hb0 hbb hal
    go_wp2_with fail
    refine (iDotNumbers_yes _ _ rs xs _ F1.out F2.out (HL.out.trans HLL.out) (by rw [HL.out]; exact H256.out)).mono ?_; rintro e w' ⟨⟨r, rfl, hr⟩, m, rfl⟩
    rw [dotTo_eqs HE.out rs.length (Nat.le_refl _), HL.out] at hr
    have HK := Lib.hid (show engF xs zs = fop .mul .f32 1056964608 (dotG (lvlF zs) xs zs.length) from rfl)
    go_wp2_with (first | (apply wpList_farith; rfl; rfl; rfl; rfl; (first | with_reducible assumption | with_reducible exact intWord_is _ | exact Is.const rfl); (first | with_reducible assumption | with_reducible exact intWord_is _ | exact Is.const rfl); intro r n hr) | fail)
    go_ret2
    exact ⟨⟨_, rfl, by first | (rw [HK.out]; assumption) | (rw [if_pos rfl, HK.out]; assumption)⟩, below_drewN (HB.out.trans (HAL.out.mono HB.out.size)) _⟩
  | false =>
    have H1 := Lib.hid h
    clear h
    go_enter Try.func37, Try.ntmps37
    go_wp2_with fail
    generalize w.alloc (.cells #[.int .i64 a, .int .i64 b] 28) = w1 at hb0 ⊢
    refine (newBoard_no a b _ _ xs zs _ (HU.out.below hb0) (HV.out.below hb0) hn2 H1.out).mono ?_; rintro e w2 ⟨rfl, hb2⟩
    have hbb := hb0.trans (hb2.mono hb0.size)
    go_wp2_with fail
    go_ret2
    exact ⟨⟨0, rfl, Is.const rfl⟩, hbb.alloc hbb.size _⟩
end Go.Proofs.Ytajnaobfeipdaaa
