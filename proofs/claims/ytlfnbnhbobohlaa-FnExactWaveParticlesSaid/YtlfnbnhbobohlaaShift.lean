/-
  Fields that are moved, of the program and of the model.
-/
import Derived.Test.YtlfnbnhbobohlaaFields
namespace Go.Proofs.Ytlfnbnhbobohlaa
open Go.Fl Go.RowKit
open Go.Joins (ownsRow_le)
set_option linter.unusedSimpArgs false

theorem tmod_nonneg {n s : Int} (h : 0 ≤ Int.tmod n s) : Int.tmod n s = n % s := by
  rcases Int.le_total 0 n with h0 | h0
  · exact Int.tmod_eq_emod_of_nonneg h0
  · have h1 : Int.tmod n s ≤ 0 := by
      have := Int.tmod_nonneg s (show 0 ≤ -n by omega)
      rw [Int.neg_tmod] at this
      omega
    have h2 : Int.tmod n s = 0 := by omega
    rw [h2]
    have := Int.dvd_of_tmod_eq_zero h2
    exact (Int.emod_eq_zero_of_dvd this).symm

theorem tmod_neg {n s : Int} (hs : 0 < s) (h : Int.tmod n s < 0) : Int.tmod n s + s = n % s := by
  have h0 : n < 0 := by
    rcases Int.lt_or_le n 0 with h0 | h0
    · exact h0
    · have := Int.tmod_nonneg s h0; omega
  have e : Int.tmod n s = n - s * Int.tdiv n s := by have := Int.tmod_add_mul_tdiv n s; omega
  have l1 : -s < Int.tmod n s := by
    have := Int.tmod_lt_of_pos (-n) hs
    rw [Int.neg_tmod] at this
    omega
  have : n % s = (Int.tmod n s + s) % s := by
    rw [e, show n - s * Int.tdiv n s + s = n + s * (1 - Int.tdiv n s) by rw [Int.mul_sub, Int.mul_one]; omega, Int.add_mul_emod_self_left]
  rw [this, Int.emod_eq_of_lt (by omega) (by omega)]

theorem around_any (s n : Int) (w : World) (h1 : 4 ≤ s) (h2 : s ≤ 16) : Calls Try.prog 112 #[.int .i64 s, .int .i64 n] w fun e w' => e = .returned (.int .i64 (n % s)) ∧ w' = w := by
  have hs : 0 < s := by omega
  have l0 := Int.tmod_lt_of_pos n hs
  have l1 : -s < Int.tmod n s := by
    have := Int.tmod_lt_of_pos (-n) hs
    rw [Int.neg_tmod] at this
    omega
  by_cases h : 0 ≤ Int.tmod n s
  · have e := Lib.hid (tmod_nonneg h)
    go_enter Try.func112, Try.ntmps112
    go_wp2
    go_ret
    exact ⟨congrArg (fun x => Ending.returned (.int .i64 x)) e.out, rfl⟩
  · have e := Lib.hid (tmod_neg hs (show Int.tmod n s < 0 by omega))
    go_enter Try.func112, Try.ntmps112
    go_wp2
    go_ret
    exact ⟨congrArg (fun x => Ending.returned (.int .i64 x)) e.out, rfl⟩

theorem wrap64_of {n : Int} (h1 : -9223372036854775808 ≤ n) (h2 : n ≤ 9223372036854775807) : wrap64 n = n := by unfold wrap64; omega
theorem emod_facts (a x : Int) (h : 4 ≤ a) : 0 ≤ x % a ∧ x % a < a := ⟨Int.emod_nonneg x (by omega), Int.emod_lt_of_pos x (by omega)⟩

theorem indexOf_any (a b x y : Int) (k : Nat) (w : World) (ha : 4 ≤ a ∧ a ≤ 16) (hb : 4 ≤ b ∧ b ≤ 16) (hk : (k : Int) = x % a + a * (y % b)) :
    Calls Try.prog 71 #[GV a b, .int .i64 x, .int .i64 y] w fun e w' => e = .returned (.int .i64 (k : Int)) ∧ Below w.heap.size w w' := by
  have hp := emod_facts a x ha.1
  have hq := emod_facts b y hb.1
  have hm1 : a * (y % b) ≤ 16 * 16 := Int.mul_le_mul ha.2 (by omega) hq.1 (by omega)
  have hm0 : 0 ≤ a * (y % b) := Int.mul_nonneg (by omega) hq.1
  have hw1 : wrap64 (a * (y % b)) = a * (y % b) := wrap64_of (by omega) (by omega)
  have hw2 : wrap64 (x % a + a * (y % b)) = (k : Int) := by rw [hk]; exact wrap64_of (by omega) (by omega)
  have hv1 : IntKind.i64.wrap (a * (y % b)) = a * (y % b) := by rw [wrap_i64]; exact hw1
  have hv2 : IntKind.i64.wrap (x % a + a * (y % b)) = (k : Int) := by rw [wrap_i64]; exact hw2
  have hb0 := (Below.refl w.heap.size w).alloc (Nat.le_refl _) (.cells #[.int .i64 a, .int .i64 b] 27)
  clear hm1 hm0 hp hq
  go_enter Try.func71, Try.ntmps71
  go_wp2_with (first | ((with_reducible apply Loose.wp_start); kernel_rfl; kernel_rfl) | ((with_reducible apply Loose.start_cons)) | ((with_reducible apply Loose.start_nil)) | ((with_reducible apply Loose.walk_nil); intro n) | ((with_reducible apply Loose.walk_skip); exact rfl; (go_simp; first | done | exact rfl)) | ((with_reducible apply Loose.step_fc); rfl; rfl; rfl; rfl; (first | with_reducible assumption | exact Is.const rfl); (first | with_reducible assumption | exact Is.const rfl); (first | with_reducible assumption | exact rfl); exact rfl; (go_simp; first | done | exact rfl)) | ((with_reducible apply Loose.step_fa); rfl; rfl; rfl; rfl; (first | with_reducible assumption | exact Is.const rfl); (first | with_reducible assumption | exact Is.const rfl); exact rfl; (intro r; go_simp; first | done | exact rfl); intro r hr) | ((with_reducible apply Loose.step_wid); rfl; rfl; (first | with_reducible assumption | exact Is.const rfl); exact U32; exact U64; exact rfl; (intro r; go_simp; first | done | exact rfl); intro r hr) | ((with_reducible apply Loose.step_nar); rfl; rfl; (first | with_reducible assumption | exact Is.const rfl); exact U64; exact U32; (with_reducible assumption); exact rfl; (intro r; go_simp; first | done | exact rfl); intro r hr) | ((with_reducible apply Loose.step_assign); rfl; rfl; (with_reducible assumption); exact rfl; (intro r; go_simp; first | done | exact rfl); intro r hr) | ((with_reducible apply Loose.step_move); rfl; rfl; (with_reducible assumption); exact rfl; (intro r; go_simp; first | done | exact rfl); intro r hr) | ((with_reducible apply Loose.step_same); rfl; rfl; exact U32; exact U32; (first | with_reducible assumption | exact Is.const rfl); exact rfl; (intro r; go_simp; first | done | exact rfl); intro r hr) | ((with_reducible apply Loose.step_same); rfl; rfl; exact U64; exact U64; (first | with_reducible assumption | exact Is.const rfl); exact rfl; (intro r; go_simp; first | done | exact rfl); intro r hr) | ((with_reducible apply Loose.step_call); rfl; (intro n; go_simp; first | exact ⟨rfl, rfl⟩ | exact rfl); (intro n; go_at_call 112; exact Loose.same_world ((around_any _ _ _ (by omega) (by omega)).mono (fun _ _ h => ⟨h.1, h.2.symm⟩))); exact rfl; (go_simp; first | done | exact rfl)) | ((with_reducible apply Loose.step_eq); rfl; (intro n; go_simp; first | done | exact rfl); exact rfl; (go_simp; first | done | exact rfl)))
  go_ret
  exact ⟨congrArg (fun x => Ending.returned (.int .i64 x)) hk.symm, below_drewN hb0 _⟩


/-- Behind a block for the element to be appended. -/
theorem own_next0 {B g cap k : Nat} {wr : World} {rs : List Nat} (h : wr.ownsRow B 46 1 (.slice (some ⟨g, 0, none⟩) k cap) k (rs.map (Value.float .f32))) (r : Nat) :
    (wr.alloc (.cells #[.float .f32 r] 46)).ownsRow B 46 1 (.slice (some ⟨g, 0, none⟩) k cap) k (rs.map (Value.float .f32)) := World.ownsRow.alloc h _
theorem below_next0 {w wr : World} (h : Below w.heap.size w wr) (r : Nat) : Below w.heap.size w (wr.alloc (.cells #[.float .f32 r] 46)) := h.alloc h.size _

/-- Where the number of the corner u, v comes from. -/
def shI (a b x y : Int) (u v : Nat) : Nat := (((u : Int) - x) % a + a * (((v : Int) - y) % b)).toNat
def shF (a b : Int) (xs : List Nat) (x y : Int) (j : Nat) : Nat := cn .f32 (xs.getD (shI a b x y (j % a.toNat) (j / a.toNat)) 0)
theorem shI_facts {a b : Int} (x y : Int) (u v : Nat) (ha : 4 ≤ a) (hb : 4 ≤ b) : (shI a b x y u v : Int) = ((u : Int) - x) % a + a * (((v : Int) - y) % b) ∧ (shI a b x y u v : Int) < a * b := by
  have hp := emod_facts a ((u : Int) - x) ha
  have hq := emod_facts b ((v : Int) - y) hb
  have h0 : 0 ≤ a * (((v : Int) - y) % b) := Int.mul_nonneg (by omega) hq.1
  have h1 : a * (((v : Int) - y) % b + 1) ≤ a * b := Int.mul_le_mul_of_nonneg_left (by omega) (by omega)
  rw [Int.mul_add, Int.mul_one] at h1
  have e : (shI a b x y u v : Int) = ((u : Int) - x) % a + a * (((v : Int) - y) % b) := by unfold shI; rw [Int.toNat_of_nonneg (by omega)]
  exact ⟨e, by rw [e]; omega⟩
theorem shF_at {a b : Int} (xs : List Nat) (x y : Int) {u v j : Nat} (ha : 4 ≤ a) (hu : (u : Int) < a) (hj : (j : Int) = a * v + u) : shF a b xs x y j = cn .f32 (xs.getD (shI a b x y u v) 0) := by
  obtain ⟨n, rfl⟩ := Int.eq_ofNat_of_zero_le (show 0 ≤ a by omega)
  have hj' : j = n * v + u := by exact_mod_cast hj
  unfold shF
  rw [Int.toNat_natCast, hj', Nat.mul_add_mod, Nat.mod_eq_of_lt (by omega), Nat.mul_add_div (by omega), Nat.div_eq_of_lt (show u < n by omega), Nat.add_zero]

/-- The pointer leads to the grid as long as nothing below turns. -/
theorem GP.ever {w1 : World} {g : Nat} {a b : Int} (h : GP w1 (.pointer (some ⟨g, 0, none⟩)) a b) : ∀ w', Below w1.heap.size w1 w' → w'.cell? ⟨g, 0, none⟩ = some (.int .i64 a) ∧ w'.cell? ⟨g, 1, none⟩ = some (.int .i64 b) := fun _ hb => (h.below hb).cells

def okSh (a b : Int) (n : Nat) (x y : Int) : Bool := fieldOk a b n && decide (-16 ≤ x ∧ x ≤ 16) && decide (-16 ≤ y ∧ y ≤ 16)





def okShiftField (a b : Int) (xs : List Nat) (x y : Int) : Bool := okSh a b xs.length x y
def lenShiftField (a b : Int) (xs : List Nat) (x y : Int) : Nat := if okShiftField a b xs x y then xs.length else 0
theorem lenShiftField_le (a b : Int) (xs : List Nat) (x y : Int) (h : xs.length ≤ 1048576) : lenShiftField a b xs x y ≤ 1048576 := by unfold lenShiftField; split <;> omega
theorem okSh_true {a b x y : Int} {n : Nat} (h : okSh a b n x y = true) : fieldOk a b n = true ∧ (-16 ≤ x ∧ x ≤ 16) ∧ (-16 ≤ y ∧ y ≤ 16) := by
  unfold okSh at h
  rw [Bool.and_eq_true, Bool.and_eq_true] at h
  exact ⟨h.1.1, of_decide_eq_true h.1.2, of_decide_eq_true h.2⟩


end Go.Proofs.Ytlfnbnhbobohlaa
