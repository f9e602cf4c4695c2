/-
  Means of fields, and fields less their means, of the program and of the model.
-/
import Derived.Test.YtjfnecmnofcjbaaFields
import Derived.Test.YtjfnecmnofcjbaaSum
namespace Go.Proofs.Ytjfnecmnofcjbaa
open Go.Fl Go.RowKit
set_option linter.unusedSimpArgs false

theorem intWord32_is (n : Int) : Is .f32 (floatOfInt .f32 n) (floatOfInt .f32 n) :=
  ⟨cn_of _ (show nan .f32 (FloatKind.f32.format.write (.number (n < 0) n.natAbs 0)) = false from nan_write _ (by intro s t e; cases e)), nearest_lt ..⟩

theorem fres_le {B C : Nat} {w : World} {v : Value} {n : Nat} {F : Nat → Nat} (h : FRes B w v n F) (hl : C ≤ B) : FRes C w v n F := by
  obtain ⟨rs, h1, h2, h3⟩ := h
  exact ⟨rs, h1, h2, Go.Joins.ownsRow_le h3 hl⟩

/-- The mean of a list. -/
def meanF (xs : List Nat) : Nat := fop .quo .f32 (sumTo .f32 xs xs.length) (floatOfInt .f32 (xs.length : Int))
/-- A list less its mean. -/
def lvlF (xs : List Nat) (i : Nat) : Nat := fop .sub .f32 (cn .f32 (xs.getD i 0)) (meanF xs)

theorem sMean_any (v : Value) (xs : List Nat) (w : World) (hv : FS .f32 w v xs) (hn : xs.length ≤ 1048576) : Calls Try.prog 172 #[v] w fun e w' => (∃ r, e = .returned (.float .f32 r) ∧ Is .f32 r (meanF xs)) ∧ ∃ n, w' = w.drewN n := by
  obtain ⟨a, cap, rfl, hlc, hcm, hwf, hmem⟩ := hv
  unfold maxLen at hcm
  have HM := Lib.hid (show meanF xs = fop .quo .f32 (sumTo .f32 xs xs.length) (floatOfInt .f32 (xs.length : Int)) from rfl)
  go_enter Try.func172, Try.ntmps172
  go_wp2
  go_loopw [3, 7] (fun s i wr => ∃ k : Nat, k ≤ xs.length ∧ i = .int .i64 k ∧ (∃ r, s = .float .f32 r ∧ Is .f32 r (sumTo .f32 xs k)) ∧ ∃ n, wr = w.drewN n) (fun _ i _ => xs.length - (intOf i).toNat)
  case atStart => exact ⟨0, Nat.zero_le _, rfl, ⟨_, rfl, Is.const rfl⟩, 0, rfl⟩
  case round =>
    obtain ⟨k, hk, rfl, ⟨r, rfl, hr⟩, n, rfl⟩ := hrel
    by_cases hlt : k < xs.length
    · rcases hmem with rfl | ⟨b, off, rfl, hb, hc⟩
      · simp at hlt
      have hcell := hc k hlt
      have hx := FS.is hwf k hlt
      have hs := Lib.hid (sumTo_succ .f32 xs k hlt)
      clear hc
      generalize xs.getD k 0 = x at hcell hx hs
      go_wp2_with (apply wpList_farith; rfl; rfl; rfl; rfl; (first | with_reducible assumption | exact Is.const rfl); (first | with_reducible assumption | exact Is.const rfl); intro r n hr)
      go_roundw
      case rel => exact ⟨k + 1, by omega, by go_num, ⟨_, rfl, by rw [hs.out]; assumption⟩, _, rfl⟩
      case measure => simp [intOf]; omega
    · have : k = xs.length := by omega
      subst this
      clear hlt
      have hi := intWord32_is (xs.length : Int)
      go_wp2_with (first | (apply wpList_farith; rfl; rfl; rfl; rfl; (first | with_reducible assumption | exact Is.const rfl); (first | with_reducible assumption | exact Is.const rfl); intro r n hr) | (apply wpList_same; rfl; rfl; exact U32; exact U32))
      go_ret
      exact ⟨⟨_, rfl, by rw [HM.out]; assumption⟩, _, rfl⟩

theorem sFits_any (p : Value) (a b : Int) (s : Option Addr) (n c : Nat) (w : World) (hp : GP w p a b) : Calls Try.prog 87 #[p, .slice s n c] w fun e w' => e = .returned (.bool (fieldOk a b n)) ∧ ∃ m, w' = w.drewN m := by
  have hp' := hp
  obtain ⟨g, rfl, hg, h0, h1⟩ := hp
  by_cases hd : gridOk a b = true
  · go_enter Try.func87, Try.ntmps87
    go_wp2_with (first | ((with_reducible apply Loose.wp_start); kernel_rfl; kernel_rfl) | ((with_reducible apply Loose.start_cons)) | ((with_reducible apply Loose.start_nil)) | ((with_reducible apply Loose.walk_nil); intro n) | ((with_reducible apply Loose.walk_skip); exact rfl; (go_simp; first | done | exact rfl)) | ((with_reducible apply Loose.step_fc); rfl; rfl; rfl; rfl; (first | with_reducible assumption | exact Is.const rfl); (first | with_reducible assumption | exact Is.const rfl); (first | with_reducible assumption | exact rfl); exact rfl; (go_simp; first | done | exact rfl)) | ((with_reducible apply Loose.step_fa); rfl; rfl; rfl; rfl; (first | with_reducible assumption | exact Is.const rfl); (first | with_reducible assumption | exact Is.const rfl); exact rfl; (intro r; go_simp; first | done | exact rfl); intro r hr) | ((with_reducible apply Loose.step_wid); rfl; rfl; (first | with_reducible assumption | exact Is.const rfl); exact U32; exact U64; exact rfl; (intro r; go_simp; first | done | exact rfl); intro r hr) | ((with_reducible apply Loose.step_nar); rfl; rfl; (first | with_reducible assumption | exact Is.const rfl); exact U64; exact U32; (with_reducible assumption); exact rfl; (intro r; go_simp; first | done | exact rfl); intro r hr) | ((with_reducible apply Loose.step_assign); rfl; rfl; (with_reducible assumption); exact rfl; (intro r; go_simp; first | done | exact rfl); intro r hr) | ((with_reducible apply Loose.step_move); rfl; rfl; (with_reducible assumption); exact rfl; (intro r; go_simp; first | done | exact rfl); intro r hr) | ((with_reducible apply Loose.step_same); rfl; rfl; exact U32; exact U32; (first | with_reducible assumption | exact Is.const rfl); exact rfl; (intro r; go_simp; first | done | exact rfl); intro r hr) | ((with_reducible apply Loose.step_same); rfl; rfl; exact U64; exact U64; (first | with_reducible assumption | exact Is.const rfl); exact rfl; (intro r; go_simp; first | done | exact rfl); intro r hr) | ((with_reducible apply Loose.step_call); rfl; (intro n; go_simp; first | exact ⟨rfl, rfl⟩ | exact rfl); (intro n; go_at_call 110; exact Loose.same_world (sIs_any _ _ _ _ (GP.drewN hp' _))); exact rfl; (go_simp; first | done | exact rfl)) | ((with_reducible apply Loose.step_eq); rfl; (intro n; go_simp; first | done | exact rfl); exact rfl; (go_simp; first | done | exact rfl)))
    go_ret
    exact ⟨congrArg (fun x => Ending.returned (.bool x)) (by unfold fieldOk; rw [hd]; rfl), _, rfl⟩
  · have hd' : gridOk a b = false := by simpa using hd
    clear hd
    go_enter Try.func87, Try.ntmps87
    go_wp2_with (first | ((with_reducible apply Loose.wp_start); kernel_rfl; kernel_rfl) | ((with_reducible apply Loose.start_cons)) | ((with_reducible apply Loose.start_nil)) | ((with_reducible apply Loose.walk_nil); intro n) | ((with_reducible apply Loose.walk_skip); exact rfl; (go_simp; first | done | exact rfl)) | ((with_reducible apply Loose.step_fc); rfl; rfl; rfl; rfl; (first | with_reducible assumption | exact Is.const rfl); (first | with_reducible assumption | exact Is.const rfl); (first | with_reducible assumption | exact rfl); exact rfl; (go_simp; first | done | exact rfl)) | ((with_reducible apply Loose.step_fa); rfl; rfl; rfl; rfl; (first | with_reducible assumption | exact Is.const rfl); (first | with_reducible assumption | exact Is.const rfl); exact rfl; (intro r; go_simp; first | done | exact rfl); intro r hr) | ((with_reducible apply Loose.step_wid); rfl; rfl; (first | with_reducible assumption | exact Is.const rfl); exact U32; exact U64; exact rfl; (intro r; go_simp; first | done | exact rfl); intro r hr) | ((with_reducible apply Loose.step_nar); rfl; rfl; (first | with_reducible assumption | exact Is.const rfl); exact U64; exact U32; (with_reducible assumption); exact rfl; (intro r; go_simp; first | done | exact rfl); intro r hr) | ((with_reducible apply Loose.step_assign); rfl; rfl; (with_reducible assumption); exact rfl; (intro r; go_simp; first | done | exact rfl); intro r hr) | ((with_reducible apply Loose.step_move); rfl; rfl; (with_reducible assumption); exact rfl; (intro r; go_simp; first | done | exact rfl); intro r hr) | ((with_reducible apply Loose.step_same); rfl; rfl; exact U32; exact U32; (first | with_reducible assumption | exact Is.const rfl); exact rfl; (intro r; go_simp; first | done | exact rfl); intro r hr) | ((with_reducible apply Loose.step_same); rfl; rfl; exact U64; exact U64; (first | with_reducible assumption | exact Is.const rfl); exact rfl; (intro r; go_simp; first | done | exact rfl); intro r hr) | ((with_reducible apply Loose.step_call); rfl; (intro n; go_simp; first | exact ⟨rfl, rfl⟩ | exact rfl); (intro n; go_at_call 110; exact Loose.same_world (sIs_any _ _ _ _ (GP.drewN hp' _))); exact rfl; (go_simp; first | done | exact rfl)) | ((with_reducible apply Loose.step_eq); rfl; (intro n; go_simp; first | done | exact rfl); exact rfl; (go_simp; first | done | exact rfl)))
    all_goals (try exact (fun (_ : Value) => True))
    go_ret
    exact ⟨congrArg (fun x => Ending.returned (.bool x)) (by unfold fieldOk; rw [hd']; rfl), _, rfl⟩

def okMeanOf (a b : Int) (xs : List Nat) : Bool := fieldOk a b xs.length
def valMeanOf (a b : Int) (xs : List Nat) : Nat := if okMeanOf a b xs then meanF xs else 0


theorem iMeanOf_any (a b : Int) (u : Value) (xs : List Nat) (w : World) (hu : FS .f32 w u xs) (_hn : xs.length ≤ 1048576) :
    Calls Try.prog 171 #[GV a b, u] w fun e w' => (∃ r, e = .returned (.tuple #[.float .f32 r, .bool (okMeanOf a b xs)]) ∧ Is .f32 r (valMeanOf a b xs)) ∧ Below w.heap.size w w' := by
  have HU := Lib.hid hu
  obtain ⟨a1, c1, rfl, hlc, hcm, hwf, hmem⟩ := hu
  have hb0 := (Below.refl w.heap.size w).alloc (Nat.le_refl _) (.cells #[.int .i64 a, .int .i64 b] 27)
  have HM := Lib.hid (show meanF xs = fop .quo .f32 (sumTo .f32 xs xs.length) (floatOfInt .f32 (xs.length : Int)) from rfl)
  clear hmem hlc hcm hwf
  unfold valMeanOf okMeanOf
  cases h : fieldOk a b xs.length with
  | true =>
    have H1 := Lib.hid h
    have h256 := (fieldOk_true h).2.2.2.2.2
    clear h
    have hi := intWord32_is (xs.length : Int)
    go_enter Try.func171, Try.ntmps171
    go_wp2_with fail
    generalize w.alloc (.cells #[.int .i64 a, .int .i64 b] 27) = w1 at hb0 ⊢
    refine (iIsField_any a b a1 xs.length c1 _).mono ?_; rw [H1.out]; rintro e w2 ⟨rfl, hb2⟩
    have hb3 := hb0.trans (hb2.mono hb0.size)
    go_wp2_with fail
    refine (iSumNumbers_yes _ xs _ (HU.out.below hb3) h256).mono ?_; rintro e w' ⟨⟨r, rfl, hr⟩, m2, rfl⟩
    clear h256
    go_wp2_with (first | (apply wpList_farith; rfl; rfl; rfl; rfl; (first | with_reducible assumption | exact Is.const rfl); (first | with_reducible assumption | exact Is.const rfl); intro r n hr) | (apply wpList_same; rfl; rfl; exact U32; exact U32) | fail)
    go_ret2
    exact ⟨⟨_, rfl, by first | (rw [HM.out]; assumption) | (rw [if_pos rfl, HM.out]; assumption)⟩, below_drewN hb3 _⟩
  | false =>
    have H1 := Lib.hid h
    clear h
    go_enter Try.func171, Try.ntmps171
    go_wp2_with fail
    generalize w.alloc (.cells #[.int .i64 a, .int .i64 b] 27) = w1 at hb0 ⊢
    refine (iIsField_any a b a1 xs.length c1 _).mono ?_; rw [H1.out]; rintro e w2 ⟨rfl, hb2⟩
    have hb3 := hb0.trans (hb2.mono hb0.size)
    go_wp2_with fail
    go_ret2
    exact ⟨⟨0, rfl, by first | exact Is.const rfl | (rw [if_neg (by simp)]; exact Is.const rfl)⟩, hb3⟩
end Go.Proofs.Ytjfnecmnofcjbaa
