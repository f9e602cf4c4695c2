/-
  Fields: sums and products, of the program and of the model.
-/
import Derived.Test.YtlfnbnhbobohlaaGrid
import Derived.Test.YtlfnbnhbobohlaaOwn
namespace Go.Proofs.Ytlfnbnhbobohlaa
open Go.Fl Go.RowKit
set_option linter.unusedSimpArgs false

/-- A field of a grid has n numbers. -/
def fieldOk (a b : Int) (n : Nat) : Bool := gridOk a b && ((n : Int) == IntKind.i64.wrap (a * b))

theorem fieldOk_true {a b : Int} {n : Nat} (h : fieldOk a b n = true) : 4 ≤ a ∧ a ≤ 16 ∧ 4 ≤ b ∧ b ≤ 16 ∧ (n : Int) = a * b ∧ n ≤ 256 := by
  unfold fieldOk at h
  rw [Bool.and_eq_true] at h
  obtain ⟨h1, h2⟩ := h
  obtain ⟨h3, h4, h5, h6⟩ := gridOk_true h1
  have hm1 : a * b ≤ 16 * 16 := Int.mul_le_mul h4 h6 (by omega) (by omega)
  have hm0 : 0 ≤ a * b := Int.mul_nonneg (by omega) (by omega)
  have hw : IntKind.i64.wrap (a * b) = a * b := by
    generalize a * b = m at hm0 hm1 ⊢
    simp [IntKind.wrap, IntKind.bits, IntKind.signed]
    omega
  rw [hw] at h2
  have h7 : (n : Int) = a * b := by simpa using h2
  exact ⟨h3, h4, h5, h6, h7, by omega⟩

theorem sField_any (p : Value) (a b : Int) (s : Option Addr) (n c : Nat) (w : World) (hp : GP w p a b) : Calls Try.prog 62 #[p, .slice s n c] w fun e w' => e = .returned (.bool (fieldOk a b n)) ∧ ∃ m, w' = w.drewN m := by
  have hp' := hp
  obtain ⟨g, rfl, hg, h0, h1⟩ := hp
  by_cases hd : gridOk a b = true
  · go_enter Try.func62, Try.ntmps62
    go_wp2_with (first | ((with_reducible apply Loose.wp_start); kernel_rfl; kernel_rfl) | ((with_reducible apply Loose.start_cons)) | ((with_reducible apply Loose.start_nil)) | ((with_reducible apply Loose.walk_nil); intro n) | ((with_reducible apply Loose.walk_skip); exact rfl; (go_simp; first | done | exact rfl)) | ((with_reducible apply Loose.step_fc); rfl; rfl; rfl; rfl; (first | with_reducible assumption | exact Is.const rfl); (first | with_reducible assumption | exact Is.const rfl); (first | with_reducible assumption | exact rfl); exact rfl; (go_simp; first | done | exact rfl)) | ((with_reducible apply Loose.step_fa); rfl; rfl; rfl; rfl; (first | with_reducible assumption | exact Is.const rfl); (first | with_reducible assumption | exact Is.const rfl); exact rfl; (intro r; go_simp; first | done | exact rfl); intro r hr) | ((with_reducible apply Loose.step_wid); rfl; rfl; (first | with_reducible assumption | exact Is.const rfl); exact U32; exact U64; exact rfl; (intro r; go_simp; first | done | exact rfl); intro r hr) | ((with_reducible apply Loose.step_nar); rfl; rfl; (first | with_reducible assumption | exact Is.const rfl); exact U64; exact U32; (with_reducible assumption); exact rfl; (intro r; go_simp; first | done | exact rfl); intro r hr) | ((with_reducible apply Loose.step_assign); rfl; rfl; (with_reducible assumption); exact rfl; (intro r; go_simp; first | done | exact rfl); intro r hr) | ((with_reducible apply Loose.step_move); rfl; rfl; (with_reducible assumption); exact rfl; (intro r; go_simp; first | done | exact rfl); intro r hr) | ((with_reducible apply Loose.step_same); rfl; rfl; exact U32; exact U32; (first | with_reducible assumption | exact Is.const rfl); exact rfl; (intro r; go_simp; first | done | exact rfl); intro r hr) | ((with_reducible apply Loose.step_same); rfl; rfl; exact U64; exact U64; (first | with_reducible assumption | exact Is.const rfl); exact rfl; (intro r; go_simp; first | done | exact rfl); intro r hr) | ((with_reducible apply Loose.step_call); rfl; (intro n; go_simp; first | exact ⟨rfl, rfl⟩ | exact rfl); (intro n; go_at_call 77; exact Loose.same_world (sIs_any _ _ _ _ (GP.drewN hp' _))); exact rfl; (go_simp; first | done | exact rfl)) | ((with_reducible apply Loose.step_eq); rfl; (intro n; go_simp; first | done | exact rfl); exact rfl; (go_simp; first | done | exact rfl)))
    go_ret
    exact ⟨congrArg (fun x => Ending.returned (.bool x)) (by unfold fieldOk; rw [hd]; rfl), _, rfl⟩
  · have hd' : gridOk a b = false := by simpa using hd
    clear hd
    go_enter Try.func62, Try.ntmps62
    go_wp2_with (first | ((with_reducible apply Loose.wp_start); kernel_rfl; kernel_rfl) | ((with_reducible apply Loose.start_cons)) | ((with_reducible apply Loose.start_nil)) | ((with_reducible apply Loose.walk_nil); intro n) | ((with_reducible apply Loose.walk_skip); exact rfl; (go_simp; first | done | exact rfl)) | ((with_reducible apply Loose.step_fc); rfl; rfl; rfl; rfl; (first | with_reducible assumption | exact Is.const rfl); (first | with_reducible assumption | exact Is.const rfl); (first | with_reducible assumption | exact rfl); exact rfl; (go_simp; first | done | exact rfl)) | ((with_reducible apply Loose.step_fa); rfl; rfl; rfl; rfl; (first | with_reducible assumption | exact Is.const rfl); (first | with_reducible assumption | exact Is.const rfl); exact rfl; (intro r; go_simp; first | done | exact rfl); intro r hr) | ((with_reducible apply Loose.step_wid); rfl; rfl; (first | with_reducible assumption | exact Is.const rfl); exact U32; exact U64; exact rfl; (intro r; go_simp; first | done | exact rfl); intro r hr) | ((with_reducible apply Loose.step_nar); rfl; rfl; (first | with_reducible assumption | exact Is.const rfl); exact U64; exact U32; (with_reducible assumption); exact rfl; (intro r; go_simp; first | done | exact rfl); intro r hr) | ((with_reducible apply Loose.step_assign); rfl; rfl; (with_reducible assumption); exact rfl; (intro r; go_simp; first | done | exact rfl); intro r hr) | ((with_reducible apply Loose.step_move); rfl; rfl; (with_reducible assumption); exact rfl; (intro r; go_simp; first | done | exact rfl); intro r hr) | ((with_reducible apply Loose.step_same); rfl; rfl; exact U32; exact U32; (first | with_reducible assumption | exact Is.const rfl); exact rfl; (intro r; go_simp; first | done | exact rfl); intro r hr) | ((with_reducible apply Loose.step_same); rfl; rfl; exact U64; exact U64; (first | with_reducible assumption | exact Is.const rfl); exact rfl; (intro r; go_simp; first | done | exact rfl); intro r hr) | ((with_reducible apply Loose.step_call); rfl; (intro n; go_simp; first | exact ⟨rfl, rfl⟩ | exact rfl); (intro n; go_at_call 77; exact Loose.same_world (sIs_any _ _ _ _ (GP.drewN hp' _))); exact rfl; (go_simp; first | done | exact rfl)) | ((with_reducible apply Loose.step_eq); rfl; (intro n; go_simp; first | done | exact rfl); exact rfl; (go_simp; first | done | exact rfl)))
    all_goals (try exact (fun (_ : Value) => True))
    go_ret
    exact ⟨congrArg (fun x => Ending.returned (.bool x)) (by unfold fieldOk; rw [hd']; rfl), _, rfl⟩

theorem wrap_i64 (n : Int) : IntKind.i64.wrap n = wrap64 n := by
  simp [IntKind.wrap, IntKind.bits, IntKind.signed, wrap64]
  try omega

theorem pointsOf_any (a b : Int) (w : World) : Calls Try.prog 104 #[GV a b] w fun e w' => e = .returned (.int .i64 (IntKind.i64.wrap (a * b))) ∧ Below w.heap.size w w' := by
  go_enter Try.func104, Try.ntmps104
  go_wp2
  go_ret
  exact ⟨congrArg (fun x => Ending.returned (.int .i64 x)) (wrap_i64 _).symm, (Below.refl _ _).alloc (Nat.le_refl _) _⟩

theorem iIsField_any (a b : Int) (s : Option Addr) (n c : Nat) (w : World) : Calls Try.prog 65 #[GV a b, .slice s n c] w fun e w' => e = .returned (.bool (fieldOk a b n)) ∧ Below w.heap.size w w' := by
  by_cases hd : gridOk a b = true
  · go_enter Try.func65, Try.ntmps65
    have hb0 := (Below.refl w.heap.size w).alloc (Nat.le_refl _) (.cells #[.int .i64 a, .int .i64 b] 27)
    have hp := gp_new w a b 27
    go_wp2_with (first | (go_at_call 80; refine (iValidGrid_any a b _).mono ?_; rw [hd]; rintro e w1 ⟨rfl, hb1⟩; have hp1 := (hp.below hb1).cells; have hc0 := hp1.1; have hc1 := hp1.2) | (go_at_call 104; refine (pointsOf_any a b _).mono ?_; rintro e w2 ⟨rfl, hb2⟩))
    go_ret
    exact ⟨congrArg (fun x => Ending.returned (.bool x)) (by unfold fieldOk; rw [hd, wrap_i64]; rfl), (hb0.trans (hb1.mono hb0.size)).trans (hb2.mono (Nat.le_trans hb0.size hb1.size))⟩
  · have hd' : gridOk a b = false := by simpa using hd
    clear hd
    go_enter Try.func65, Try.ntmps65
    have hb0 := (Below.refl w.heap.size w).alloc (Nat.le_refl _) (.cells #[.int .i64 a, .int .i64 b] 27)
    go_wp2_with (first | (go_at_call 80; refine (iValidGrid_any a b _).mono ?_; rw [hd']; rintro e w1 ⟨rfl, hb1⟩))
    go_ret
    exact ⟨congrArg (fun x => Ending.returned (.bool x)) (by unfold fieldOk; rw [hd']; rfl), hb0.trans (hb1.mono hb0.size)⟩


def addF (xs ys : List Nat) (i : Nat) : Nat := fop .add .f32 (cn .f32 (xs.getD i 0)) (cn .f32 (ys.getD i 0))



theorem iAdd_no (a b : Int) (a1 a2 : Option Addr) (n1 n2 c1 c2 : Nat) (w : World) (h : (fieldOk a b n1 && fieldOk a b n2) = false) :
    Calls Try.prog 60 #[GV a b, .slice a1 n1 c1, .slice a2 n2 c2] w fun e w' => e = .returned (.tuple #[.slice none 0 0, .bool false]) ∧ Below w.heap.size w w' := by
  have hp := gp_new w a b 27
  have hb0 := (Below.refl w.heap.size w).alloc (Nat.le_refl _) (.cells #[.int .i64 a, .int .i64 b] 27)
  have HP := Lib.hid hp
  clear hp
  by_cases h1 : fieldOk a b n1 = true
  · have h2 : fieldOk a b n2 = false := by rw [h1] at h; simpa using h
    have H1 := Lib.hid h1
    have H2 := Lib.hid h2
    clear h1 h2 h
    go_enter Try.func60, Try.ntmps60
    go_wp2_with fail
    generalize w.alloc (.cells #[.int .i64 a, .int .i64 b] 27) = w1 at hb0 HP ⊢
    refine (iIsField_any a b a1 n1 c1 _).mono ?_; rw [H1.out]; rintro e w2 ⟨rfl, hb2⟩
    have hg2 := (GP.below HP.out hb2).cells
    have hc0 := hg2.1
    have hc1 := hg2.2
    have hb3 := hb0.trans (hb2.mono hb0.size)
    go_wp2_with fail
    refine (iIsField_any a b a2 n2 c2 _).mono ?_; rw [H2.out]; rintro e w3 ⟨rfl, hb4⟩
    have hb5 := hb3.trans (hb4.mono hb3.size)
    go_wp2_with fail
    go_ret2
    exact ⟨rfl, hb5⟩
  · have h1' : fieldOk a b n1 = false := by simpa using h1
    have H1 := Lib.hid h1'
    clear h1 h1' h
    go_enter Try.func60, Try.ntmps60
    go_wp2_with fail
    generalize w.alloc (.cells #[.int .i64 a, .int .i64 b] 27) = w1 at hb0 HP ⊢
    refine (iIsField_any a b a1 n1 c1 _).mono ?_; rw [H1.out]; rintro e w2 ⟨rfl, hb2⟩
    have hb3 := hb0.trans (hb2.mono hb0.size)
    go_wp2_with fail
    go_ret2
    exact ⟨rfl, hb3⟩

set_option maxHeartbeats 1000000 in
set_option maxRecDepth 100000 in
theorem iAdd_yes (a b : Int) (u v : Value) (xs ys : List Nat) (w : World) (hu : FS .f32 w u xs) (hv : FS .f32 w v ys) (h1 : fieldOk a b xs.length = true) (h2 : fieldOk a b ys.length = true) :
    Calls Try.prog 60 #[GV a b, u, v] w fun e w' => (∃ r, e = .returned (.tuple #[r, .bool true]) ∧ FRes w.heap.size w' r xs.length (addF xs ys)) ∧ Below w.heap.size w w' := by
  obtain ⟨i0, hi, hz0, hz1, hz2⟩ := info_parts F32info
  have hu' := hu
  have hv' := hv
  obtain ⟨a1, c1, rfl, hlc, hcm, hwf, hmem⟩ := hu
  obtain ⟨a2, c2, rfl, hlc2, hcm2, hwf2, hmem2⟩ := hv
  have hp := gp_new w a b 27
  have hb0 := (Below.refl w.heap.size w).alloc (Nat.le_refl _) (.cells #[.int .i64 a, .int .i64 b] 27)
  have hf1 := fieldOk_true h1
  have hf2 := fieldOk_true h2
  have hlen : xs.length = ys.length := by have := hf1.2.2.2.2.1; have := hf2.2.2.2.2.1; omega
  have hn256 : xs.length ≤ 256 := hf1.2.2.2.2.2
  have hb4 : i0.bytes * xs.length ≤ 281474976710656 := by rw [hz2]; omega
  have hml : xs.length ≤ maxLen := by unfold maxLen; omega
  have HI := Lib.hid hi; have HZ0 := Lib.hid hz0; have HZ1 := Lib.hid hz1
  have H1 := Lib.hid h1
  have H2 := Lib.hid h2
  have HU := Lib.hid hu'
  have HV := Lib.hid hv'
  have HP := Lib.hid hp
  have HL := Lib.hid hlen
  clear hf1 hf2 hu' hv' hp h1 h2 hlen hi hz0 hz1 hz2 hmem hmem2 hlc hlc2 hcm hcm2
  go_enter Try.func60, Try.ntmps60
  go_wp2_with fail
  generalize w.alloc (.cells #[.int .i64 a, .int .i64 b] 27) = w1 at hb0 HP ⊢
  refine (iIsField_any a b a1 xs.length c1 _).mono ?_; rw [H1.out]; rintro e w2 ⟨rfl, hb2⟩
  have hg2 := (GP.below HP.out hb2).cells
  have hc0 := hg2.1
  have hc1 := hg2.2
  have hb3 := hb0.trans (hb2.mono hb0.size)
  go_wp2_with fail
  refine (iIsField_any a b a2 ys.length c2 _).mono ?_; rw [H2.out]; rintro e w3 ⟨rfl, hb5⟩
  have hb6 := hb3.trans (hb5.mono hb3.size)
  clear hg2 hc0 hc1 hb2 hb3 hb5 hb0 HP
  go_wp2_with (at_make; refine wpList_make_full _ rfl _ _ 24 rfl w.heap.size 46 i0 (.float .f32 0) 1 Try.underlying24 HI.out HZ0.out HZ1.out _ _ _ _ xs.length rfl rfl rfl rfl hb4 hml hb6.size ?_; intro w4 hown hgrow)
  rw [Nat.mul_one, show (madeCells (Value.float .f32 0).cells xs.length).toList = ptl [] xs.length by rw [ptl_zero]; exact toList_madeCells_one _ _] at hown
  have hbel0 := hb6.grown hgrow hb6.size (fun k h => by cases h)
  have HO0 := Lib.hid hown
  clear hgrow hb4 hml HI HZ0 HZ1 hown hb6 H1 H2
  generalize w3.heap.size = g0 at HO0 ⊢
  go_loopw [26] (fun i wr => ∃ rs : List Nat, i = .int .i64 (rs.length : Int) ∧ rs.length ≤ xs.length ∧ Hid (Eqs rs (addF xs ys)) ∧ Hid (wr.ownsRow w.heap.size 46 1 (.slice (some ⟨g0, 0, none⟩) xs.length xs.length) xs.length (ptl rs xs.length)) ∧ Below w.heap.size w wr) (fun i _ => xs.length - (intOf i).toNat)
  case atStart => exact ⟨[], rfl, Nat.zero_le _, Lib.hid (Eqs.nil _), HO0, hbel0⟩
  case round =>
    clear HO0 hbel0
    obtain ⟨rs, rfl, hk, HE, HO, hbel⟩ := hrel
    by_cases hlt : rs.length < xs.length
    · obtain ⟨b1, o1, e1, hcx⟩ := FS.at HU.out hbel hlt
      obtain ⟨b2, o2, e2, hcy⟩ := FS.at HV.out hbel (show rs.length < ys.length by have := HL.out; omega)
      obtain rfl := e1
      obtain rfl := e2
      have ix := FS.is hwf rs.length hlt
      have iy := FS.is hwf2 rs.length (show rs.length < ys.length by have := HL.out; omega)
      have HF := Lib.hid (show addF xs ys rs.length = fop .add .f32 (cn .f32 (xs.getD rs.length 0)) (cn .f32 (ys.getD rs.length 0)) from rfl)
      generalize cn .f32 (xs.getD rs.length 0) = X at ix HF
      generalize cn .f32 (ys.getD rs.length 0) = Y at iy HF
      generalize xs.getD rs.length 0 = x at hcx ix
      generalize ys.getD rs.length 0 = y at hcy iy
      have i3 : (rs.length : Int) < (ys.length : Int) := by have := HL.out; omega
      have hw0 := HO.out.cellAt rs.length (by omega)
      rw [ptl_get rs _ hlt] at hw0
      have hfz := HO.out.frozenAt rs.length
      go_wp2_with (first | (apply wpList_farith; rfl; rfl; rfl; rfl; (first | with_reducible assumption | exact Is.const rfl); (first | with_reducible assumption | exact Is.const rfl); intro r n hr) | ((with_reducible apply Loose.wp_start); kernel_rfl; kernel_rfl) | ((with_reducible apply Loose.start_cons)) | ((with_reducible apply Loose.start_nil)) | ((with_reducible apply Loose.walk_nil); intro n) | ((with_reducible apply Loose.walk_skip); exact rfl; (go_simp; first | done | exact rfl)) | ((with_reducible apply Loose.step_fc); rfl; rfl; rfl; rfl; (first | with_reducible assumption | exact Is.const rfl); (first | with_reducible assumption | exact Is.const rfl); (first | with_reducible assumption | exact rfl); exact rfl; (go_simp; first | done | exact rfl)) | ((with_reducible apply Loose.step_fa); rfl; rfl; rfl; rfl; (first | with_reducible assumption | exact Is.const rfl); (first | with_reducible assumption | exact Is.const rfl); exact rfl; (intro r; go_simp; first | done | exact rfl); intro r hr) | ((with_reducible apply Loose.step_wid); rfl; rfl; (first | with_reducible assumption | exact Is.const rfl); exact U32; exact U64; exact rfl; (intro r; go_simp; first | done | exact rfl); intro r hr) | ((with_reducible apply Loose.step_nar); rfl; rfl; (first | with_reducible assumption | exact Is.const rfl); exact U64; exact U32; (with_reducible assumption); exact rfl; (intro r; go_simp; first | done | exact rfl); intro r hr) | ((with_reducible apply Loose.step_assign); rfl; rfl; (with_reducible assumption); exact rfl; (intro r; go_simp; first | done | exact rfl); intro r hr) | ((with_reducible apply Loose.step_move); rfl; rfl; (with_reducible assumption); exact rfl; (intro r; go_simp; first | done | exact rfl); intro r hr) | ((with_reducible apply Loose.step_same); rfl; rfl; exact U32; exact U32; (first | with_reducible assumption | exact Is.const rfl); exact rfl; (intro r; go_simp; first | done | exact rfl); intro r hr) | ((with_reducible apply Loose.step_same); rfl; rfl; exact U64; exact U64; (first | with_reducible assumption | exact Is.const rfl); exact rfl; (intro r; go_simp; first | done | exact rfl); intro r hr) | ((with_reducible apply Loose.step_eq); rfl; (intro n; go_simp; first | done | exact rfl); exact rfl; (go_simp; first | done | exact rfl)))
      have ST := ((show (wr.drewN n).ownsRow w.heap.size 46 1 (.slice (some ⟨g0, 0, none⟩) xs.length xs.length) xs.length (ptl rs xs.length) from HO.out).stored rs.length (.float .f32 r)).1
      rw [ptl_set rs _ r hlt] at ST
      have hg0 := (HO.out.lt g0 rfl).1
      go_roundw
      case rel => exact ⟨rs ++ [r], by rw [List.length_append, List.length_singleton]; go_num, by simp; omega, Lib.hid (HE.out.snoc (by rw [HF.out]; assumption)), Lib.hid ST, (below_drewN hbel n).setCell (p := ⟨g0, rs.length, none⟩) hg0 _⟩
      case measure => simp [intOf]; omega
    · have hk2 : rs.length = xs.length := by omega
      have HK2 := Lib.hid hk2
      have HR := Lib.hid (show ptl rs xs.length = rs.map (Value.float .f32) by rw [← hk2]; exact ptl_all rs)
      clear hk2
      go_wp2
      go_ret2
      exact ⟨⟨_, rfl, rs, HK2.out, HE.out, by unfold FOwn; rw [HK2.out, ← HR.out]; exact HO.out⟩, hbel⟩

def okAddFields (a b : Int) (xs ys : List Nat) : Bool := fieldOk a b xs.length && fieldOk a b ys.length
def lenAddFields (a b : Int) (xs ys : List Nat) : Nat := if okAddFields a b xs ys then xs.length else 0
theorem lenAddFields_le (a b : Int) (xs ys : List Nat) (h : xs.length ≤ 1048576) (_h : ys.length ≤ 1048576) : lenAddFields a b xs ys ≤ 1048576 := by unfold lenAddFields; split <;> omega


theorem iAddFields_any (a b : Int) (u : Value) (xs : List Nat) (v : Value) (ys : List Nat) (w : World) (hu : FS .f32 w u xs) (_hn : xs.length ≤ 1048576) (hv : FS .f32 w v ys) (_hm : ys.length ≤ 1048576) :
    Calls Try.prog 60 #[GV a b, u, v] w fun e w' => (∃ r, e = .returned (.tuple #[r, .bool (okAddFields a b xs ys)]) ∧ FRes w.heap.size w' r (lenAddFields a b xs ys) (addF xs ys)) ∧ Below w.heap.size w w' := by
  unfold lenAddFields
  by_cases h : okAddFields a b xs ys = true
  · rw [h, if_pos rfl]
    unfold okAddFields at h
    rw [Bool.and_eq_true] at h
    exact iAdd_yes a b u v xs ys w hu hv h.1 h.2
  · have h' : okAddFields a b xs ys = false := by simpa using h
    rw [h', if_neg (by simp)]
    obtain ⟨a1, c1, rfl, _⟩ := hu
    obtain ⟨a2, c2, rfl, _⟩ := hv
    exact (iAdd_no a b a1 a2 xs.length ys.length c1 c2 w h').mono fun e w' ⟨he, hb⟩ => ⟨⟨_, he, fres_none _ _ _⟩, hb⟩
end Go.Proofs.Ytlfnbnhbobohlaa
