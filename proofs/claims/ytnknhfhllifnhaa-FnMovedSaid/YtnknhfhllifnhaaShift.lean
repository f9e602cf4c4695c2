/-
  Fields that are moved, of the program and of the model.
-/
import Derived.Test.YtnknhfhllifnhaaFields
namespace Go.Proofs.Ytnknhfhllifnhaa
open Go.Fl Go.RowKit
open Go.Joins (ownsRow_le)
set_option linter.unusedSimpArgs false

theorem tmod_nonneg {n s : Int} (h : 0 ≤ Int.tmod n s) : Int.tmod n s = n % s := by
  rcases Int.le_total 0 n with h0 | h0
  · exact Int.tmod_eq_emod_of_nonneg h0
  · have h1 : Int.tmod n s ≤ 0 := by
      have := Int.tmod_nonneg s (show 0 ≤ -n by omega)
      rw [Int.neg_tmod] at this
      omega
    have h2 : Int.tmod n s = 0 := by omega
    rw [h2]
    have := Int.dvd_of_tmod_eq_zero h2
    exact (Int.emod_eq_zero_of_dvd this).symm

theorem tmod_neg {n s : Int} (hs : 0 < s) (h : Int.tmod n s < 0) : Int.tmod n s + s = n % s := by
  have h0 : n < 0 := by
    rcases Int.lt_or_le n 0 with h0 | h0
    · exact h0
    · have := Int.tmod_nonneg s h0; omega
  have e : Int.tmod n s = n - s * Int.tdiv n s := by have := Int.tmod_add_mul_tdiv n s; omega
  have l1 : -s < Int.tmod n s := by
    have := Int.tmod_lt_of_pos (-n) hs
    rw [Int.neg_tmod] at this
    omega
  have : n % s = (Int.tmod n s + s) % s := by
    rw [e, show n - s * Int.tdiv n s + s = n + s * (1 - Int.tdiv n s) by rw [Int.mul_sub, Int.mul_one]; omega, Int.add_mul_emod_self_left]
  rw [this, Int.emod_eq_of_lt (by omega) (by omega)]

theorem around_any (s n : Int) (w : World) (h1 : 4 ≤ s) (h2 : s ≤ 16) : Calls Try.prog 156 #[.int .i64 s, .int .i64 n] w fun e w' => e = .returned (.int .i64 (n % s)) ∧ w' = w := by
  have hs : 0 < s := by omega
  have l0 := Int.tmod_lt_of_pos n hs
  have l1 : -s < Int.tmod n s := by
    have := Int.tmod_lt_of_pos (-n) hs
    rw [Int.neg_tmod] at this
    omega
  by_cases h : 0 ≤ Int.tmod n s
  · have e := Lib.hid (tmod_nonneg h)
    go_enter Try.func156, Try.ntmps156
    go_wp2
    go_ret
    exact ⟨congrArg (fun x => Ending.returned (.int .i64 x)) e.out, rfl⟩
  · have e := Lib.hid (tmod_neg hs (show Int.tmod n s < 0 by omega))
    go_enter Try.func156, Try.ntmps156
    go_wp2
    go_ret
    exact ⟨congrArg (fun x => Ending.returned (.int .i64 x)) e.out, rfl⟩

theorem wrap64_of {n : Int} (h1 : -9223372036854775808 ≤ n) (h2 : n ≤ 9223372036854775807) : wrap64 n = n := by unfold wrap64; omega
theorem emod_facts (a x : Int) (h : 4 ≤ a) : 0 ≤ x % a ∧ x % a < a := ⟨Int.emod_nonneg x (by omega), Int.emod_lt_of_pos x (by omega)⟩

theorem indexOf_any (a b x y : Int) (k : Nat) (w : World) (ha : 4 ≤ a ∧ a ≤ 16) (hb : 4 ≤ b ∧ b ≤ 16) (hk : (k : Int) = x % a + a * (y % b)) :
    Calls Try.prog 87 #[GV a b, .int .i64 x, .int .i64 y] w fun e w' => e = .returned (.int .i64 (k : Int)) ∧ Below w.heap.size w w' := by
  have hp := emod_facts a x ha.1
  have hq := emod_facts b y hb.1
  have hm1 : a * (y % b) ≤ 16 * 16 := Int.mul_le_mul ha.2 (by omega) hq.1 (by omega)
  have hm0 : 0 ≤ a * (y % b) := Int.mul_nonneg (by omega) hq.1
  have hw1 : wrap64 (a * (y % b)) = a * (y % b) := wrap64_of (by omega) (by omega)
  have hw2 : wrap64 (x % a + a * (y % b)) = (k : Int) := by rw [hk]; exact wrap64_of (by omega) (by omega)
  have hv1 : IntKind.i64.wrap (a * (y % b)) = a * (y % b) := by rw [wrap_i64]; exact hw1
  have hv2 : IntKind.i64.wrap (x % a + a * (y % b)) = (k : Int) := by rw [wrap_i64]; exact hw2
  have hb0 := (Below.refl w.heap.size w).alloc (Nat.le_refl _) (.cells #[.int .i64 a, .int .i64 b] 25)
  clear hm1 hm0 hp hq
  go_enter Try.func87, Try.ntmps87
  go_wp2_with (first | ((with_reducible apply Loose.wp_start); kernel_rfl; kernel_rfl) | ((with_reducible apply Loose.start_cons)) | ((with_reducible apply Loose.start_nil)) | ((with_reducible apply Loose.walk_nil); intro n) | ((with_reducible apply Loose.walk_skip); exact rfl; (go_simp; first | done | exact rfl)) | ((with_reducible apply Loose.step_fc); rfl; rfl; rfl; rfl; (first | with_reducible assumption | exact Is.const rfl); (first | with_reducible assumption | exact Is.const rfl); (first | with_reducible assumption | exact rfl); exact rfl; (go_simp; first | done | exact rfl)) | ((with_reducible apply Loose.step_fa); rfl; rfl; rfl; rfl; (first | with_reducible assumption | exact Is.const rfl); (first | with_reducible assumption | exact Is.const rfl); exact rfl; (intro r; go_simp; first | done | exact rfl); intro r hr) | ((with_reducible apply Loose.step_wid); rfl; rfl; (first | with_reducible assumption | exact Is.const rfl); exact U32; exact U64; exact rfl; (intro r; go_simp; first | done | exact rfl); intro r hr) | ((with_reducible apply Loose.step_nar); rfl; rfl; (first | with_reducible assumption | exact Is.const rfl); exact U64; exact U32; (with_reducible assumption); exact rfl; (intro r; go_simp; first | done | exact rfl); intro r hr) | ((with_reducible apply Loose.step_assign); rfl; rfl; (with_reducible assumption); exact rfl; (intro r; go_simp; first | done | exact rfl); intro r hr) | ((with_reducible apply Loose.step_move); rfl; rfl; (with_reducible assumption); exact rfl; (intro r; go_simp; first | done | exact rfl); intro r hr) | ((with_reducible apply Loose.step_same); rfl; rfl; exact U32; exact U32; (first | with_reducible assumption | exact Is.const rfl); exact rfl; (intro r; go_simp; first | done | exact rfl); intro r hr) | ((with_reducible apply Loose.step_same); rfl; rfl; exact U64; exact U64; (first | with_reducible assumption | exact Is.const rfl); exact rfl; (intro r; go_simp; first | done | exact rfl); intro r hr) | ((with_reducible apply Loose.step_call); rfl; (intro n; go_simp; first | exact ⟨rfl, rfl⟩ | exact rfl); (intro n; go_at_call 156; exact Loose.same_world ((around_any _ _ _ (by omega) (by omega)).mono (fun _ _ h => ⟨h.1, h.2.symm⟩))); exact rfl; (go_simp; first | done | exact rfl)) | ((with_reducible apply Loose.step_eq); rfl; (intro n; go_simp; first | done | exact rfl); exact rfl; (go_simp; first | done | exact rfl)))
  go_ret
  exact ⟨congrArg (fun x => Ending.returned (.int .i64 x)) hk.symm, below_drewN hb0 _⟩

theorem isShift_any (n : Int) (w : World) : Calls Try.prog 86 #[.int .i64 n] w fun e w' => e = .returned (.bool (decide (-16 ≤ n ∧ n ≤ 16))) ∧ w' = w := by
  by_cases h : -16 ≤ n
  · go_enter Try.func86, Try.ntmps86
    go_wp2
    go_ret
    exact ⟨by simp; omega, rfl⟩
  · go_enter Try.func86, Try.ntmps86
    go_wp2
    go_ret
    exact ⟨by simp; omega, rfl⟩

/-- Behind a block for the element to be appended. -/
theorem own_next0 {B g cap k : Nat} {wr : World} {rs : List Nat} (h : wr.ownsRow B 32 1 (.slice (some ⟨g, 0, none⟩) k cap) k (rs.map (Value.float .f32))) (r : Nat) :
    (wr.alloc (.cells #[.float .f32 r] 32)).ownsRow B 32 1 (.slice (some ⟨g, 0, none⟩) k cap) k (rs.map (Value.float .f32)) := World.ownsRow.alloc h _
theorem below_next0 {w wr : World} (h : Below w.heap.size w wr) (r : Nat) : Below w.heap.size w (wr.alloc (.cells #[.float .f32 r] 32)) := h.alloc h.size _

/-- Where the number of the corner u, v comes from. -/
def shI (a b x y : Int) (u v : Nat) : Nat := (((u : Int) - x) % a + a * (((v : Int) - y) % b)).toNat
def shF (a b : Int) (xs : List Nat) (x y : Int) (j : Nat) : Nat := cn .f32 (xs.getD (shI a b x y (j % a.toNat) (j / a.toNat)) 0)
theorem shI_facts {a b : Int} (x y : Int) (u v : Nat) (ha : 4 ≤ a) (hb : 4 ≤ b) : (shI a b x y u v : Int) = ((u : Int) - x) % a + a * (((v : Int) - y) % b) ∧ (shI a b x y u v : Int) < a * b := by
  have hp := emod_facts a ((u : Int) - x) ha
  have hq := emod_facts b ((v : Int) - y) hb
  have h0 : 0 ≤ a * (((v : Int) - y) % b) := Int.mul_nonneg (by omega) hq.1
  have h1 : a * (((v : Int) - y) % b + 1) ≤ a * b := Int.mul_le_mul_of_nonneg_left (by omega) (by omega)
  rw [Int.mul_add, Int.mul_one] at h1
  have e : (shI a b x y u v : Int) = ((u : Int) - x) % a + a * (((v : Int) - y) % b) := by unfold shI; rw [Int.toNat_of_nonneg (by omega)]
  exact ⟨e, by rw [e]; omega⟩
theorem shF_at {a b : Int} (xs : List Nat) (x y : Int) {u v j : Nat} (ha : 4 ≤ a) (hu : (u : Int) < a) (hj : (j : Int) = a * v + u) : shF a b xs x y j = cn .f32 (xs.getD (shI a b x y u v) 0) := by
  obtain ⟨n, rfl⟩ := Int.eq_ofNat_of_zero_le (show 0 ≤ a by omega)
  have hj' : j = n * v + u := by exact_mod_cast hj
  unfold shF
  rw [Int.toNat_natCast, hj', Nat.mul_add_mod, Nat.mod_eq_of_lt (by omega), Nat.mul_add_div (by omega), Nat.div_eq_of_lt (show u < n by omega), Nat.add_zero]

/-- The pointer leads to the grid as long as nothing below turns. -/
theorem GP.ever {w1 : World} {g : Nat} {a b : Int} (h : GP w1 (.pointer (some ⟨g, 0, none⟩)) a b) : ∀ w', Below w1.heap.size w1 w' → w'.cell? ⟨g, 0, none⟩ = some (.int .i64 a) ∧ w'.cell? ⟨g, 1, none⟩ = some (.int .i64 b) := fun _ hb => (h.below hb).cells

def okSh (a b : Int) (n : Nat) (x y : Int) : Bool := fieldOk a b n && decide (-16 ≤ x ∧ x ≤ 16) && decide (-16 ≤ y ∧ y ≤ 16)

set_option maxHeartbeats 2000000 in
set_option maxRecDepth 100000 in
theorem iShift_yes (a b : Int) (t : Value) (xs : List Nat) (x y : Int) (w : World) (hu : FS .f32 w t xs) (h1 : fieldOk a b xs.length = true) (hx : -16 ≤ x ∧ x ≤ 16) (hy : -16 ≤ y ∧ y ≤ 16) :
    Calls Try.prog 18 #[GV a b, t, .int .i64 x, .int .i64 y] w fun e w' => (∃ r, e = .returned (.tuple #[r, .bool true]) ∧ FRes w.heap.size w' r xs.length (shF a b xs x y)) ∧ Below w.heap.size w w' := by
  obtain ⟨i0, hi, hz0, hz1, hz2⟩ := info_parts F32info
  have hu' := hu
  obtain ⟨a1, c1, rfl, hlc, hcm, hwf, hmem⟩ := hu
  have hb0 := (Below.refl w.heap.size w).alloc (Nat.le_refl _) (.cells #[.int .i64 a, .int .i64 b] 25)
  have hf := fieldOk_true h1
  have hn256 : xs.length ≤ 256 := hf.2.2.2.2.2
  have hb4 : i0.bytes * xs.length ≤ 281474976710656 := by rw [hz2]; omega
  have hml : xs.length ≤ maxLen := by unfold maxLen; omega
  have HI := Lib.hid hi; have HZ0 := Lib.hid hz0; have HZ1 := Lib.hid hz1
  have H1 := Lib.hid h1
  have HU := Lib.hid hu'
  have HA := Lib.hid hf
  have HP := Lib.hid (gp_new w a b 25)
  have hX : decide (-16 ≤ x ∧ x ≤ 16) = true := decide_eq_true hx
  have hY : decide (-16 ≤ y ∧ y ≤ 16) = true := decide_eq_true hy
  have HX := Lib.hid hX; have HY := Lib.hid hY; have HXB := Lib.hid hx; have HYB := Lib.hid hy
  clear hu' h1 hi hz0 hz1 hz2 hmem hlc hcm hf hX hY hx hy
  go_enter Try.func18, Try.ntmps18
  go_wp2_with fail
  generalize w.alloc (.cells #[.int .i64 a, .int .i64 b] 25) = w1 at hb0 HP ⊢
  refine (iIsField_any a b a1 xs.length c1 _).mono ?_; rw [H1.out]; rintro e w2 ⟨rfl, hb2⟩
  have hb6 := hb0.trans (hb2.mono hb0.size)
  go_wp2_with fail
  refine (isShift_any x _).mono ?_; rw [HX.out]; rintro e w' ⟨rfl, rfl⟩
  go_wp2_with fail
  refine (isShift_any y _).mono ?_; rw [HY.out]; rintro e w' ⟨rfl, rfl⟩
  have HD := Lib.hid hb2
  have hg2 := HP.out.ever _ hb2
  have hc0 := hg2.1
  have hc1 := hg2.2
  have hsz := hb6.size
  clear hb2 hg2
  go_wp2_with (at_make; refine wpList_make_full _ rfl _ _ 29 rfl w1.heap.size 32 i0 (.float .f32 0) 1 Try.underlying29 HI.out HZ0.out HZ1.out _ _ _ _ xs.length rfl rfl rfl rfl hb4 hml HD.out.size ?_; intro w4 hown hgrow; have hd4 := HD.out.grown hgrow HD.out.size (fun k h => by cases h); have hc2 := (HP.out.ever _ hd4).1; have hc3 := (HP.out.ever _ hd4).2)
  rw [Nat.mul_one, show (madeCells (Value.float .f32 0).cells xs.length).toList = ptl [] xs.length by rw [ptl_zero]; exact toList_madeCells_one _ _] at hown
  have HO0 := Lib.hid hown
  clear hgrow hb4 hml HI HZ0 HZ1 hown hb6 H1 HX HY HD hc0 hc1 hc2 hc3
  generalize w'.heap.size = g0 at HO0 ⊢
  have hA : 4 ≤ a ∧ a ≤ 16 ∧ 4 ≤ b ∧ b ≤ 16 := ⟨HA.out.1, HA.out.2.1, HA.out.2.2.1, HA.out.2.2.2.1⟩
  go_loopw [32] (fun i wr => ∃ (v : Nat) (rs : List Nat), i = .int .i64 (v : Int) ∧ (v : Int) ≤ b ∧ Hid ((rs.length : Int) = a * v) ∧ Hid (Eqs rs (shF a b xs x y)) ∧ Hid (wr.ownsRow w1.heap.size 32 1 (.slice (some ⟨g0, 0, none⟩) xs.length xs.length) xs.length (ptl rs xs.length)) ∧ Hid (Below w1.heap.size w1 wr)) (fun i _ => (b - intOf i).toNat)
  case atStart => exact ⟨0, [], rfl, by omega, Lib.hid (by simp), Lib.hid (Eqs.nil _), HO0, Lib.hid hd4⟩
  case round =>
    clear HO0 hd4
    obtain ⟨v, rs, rfl, hv, HL, HE, HO, HD⟩ := hrel
    have hc0 := (HP.out.ever _ HD.out).1
    have hc1 := (HP.out.ever _ HD.out).2
    by_cases hlt : (v : Int) < b
    · go_wp2_with fail
      have hx := HXB.out
      have hy := HYB.out
      go_loopw [37] (fun i wr => ∃ (u : Nat) (rs : List Nat), i = .int .i64 (u : Int) ∧ (u : Int) ≤ a ∧ Hid ((rs.length : Int) = a * v + u) ∧ Hid (Eqs rs (shF a b xs x y)) ∧ Hid (wr.ownsRow w1.heap.size 32 1 (.slice (some ⟨g0, 0, none⟩) xs.length xs.length) xs.length (ptl rs xs.length)) ∧ Hid (Below w1.heap.size w1 wr)) (fun i _ => (a - intOf i).toNat)
      case atStart => exact ⟨0, rs, rfl, by omega, Lib.hid (by have := HL.out; omega), HE, HO, HD⟩
      case round =>
        clear HL HE HO HD hc0 hc1
        obtain ⟨u, ss, rfl, hu, HL, HE, HO, HD⟩ := hrel
        have hc0 := (HP.out.ever _ HD.out).1
        have hc1 := (HP.out.ever _ HD.out).2
        by_cases hlu : (u : Int) < a
        · obtain ⟨hs1, hs2⟩ := shI_facts x y u v hA.1 hA.2.2.1
          have hk1 : (ss.length : Int) = (u : Int) % a + a * ((v : Int) % b) := by
            rw [Int.emod_eq_of_lt (by omega) hlu, Int.emod_eq_of_lt (by omega) hlt]; have := HL.out; omega
          have hm : a * ((v : Int) + 1) ≤ a * b := Int.mul_le_mul_of_nonneg_left (by omega) (by omega)
          rw [Int.mul_add, Int.mul_one] at hm
          have hlt2 : ss.length < xs.length := by have := HL.out; have := HA.out.2.2.2.2.1; omega
          have hF := shF_at (b := b) xs x y hA.1 hlu HL.out
          generalize hk : shI a b x y u v = k2 at hs1 hs2 hF
          have hk2 : k2 < xs.length := by have := HA.out.2.2.2.2.1; omega
          have i1 : (0 : Int) ≤ (k2 : Int) := Int.natCast_nonneg _
          have i2 : (k2 : Int) < (xs.length : Int) := by omega
          have i3 : (ss.length : Int) < (xs.length : Int) := by omega
          have i4 : (0 : Int) ≤ (ss.length : Int) := Int.natCast_nonneg _
          obtain ⟨b1, o1, e1, hcx⟩ := FS.at HU.out (hb0.trans (HD.out.mono hb0.size)) hk2
          obtain rfl := e1
          have HC := Lib.hid (FS.ever HU.out hk2)
          have ix := FS.is hwf k2 hk2
          generalize cn .f32 (xs.getD k2 0) = X at ix hF
          generalize xs.getD k2 0 = x0 at hcx ix HC
          have HF := Lib.hid hF
          have HS1 := Lib.hid hs1
          have HK1 := Lib.hid hk1
          clear hF hk hs1 hs2 hm hk1
          have hd3 := HD.out.drew
          have hv1 : IntKind.i64.wrap ((u : Int) - x) = (u : Int) - x := by rw [wrap_i64]; exact wrap64_of (by omega) (by omega)
          have hv2 : IntKind.i64.wrap ((v : Int) - y) = (v : Int) - y := by rw [wrap_i64]; exact wrap64_of (by omega) (by omega)
          go_wp2_with fail
          refine wp_region_noPanic ?_
          refine wp_region_held_drew (S := fun w' => w'.cell? ⟨w.heap.size, 0, none⟩ = some (.int .i64 a) ∧ w'.cell? ⟨w.heap.size, 1, none⟩ = some (.int .i64 b) ∧ w'.cell? ⟨b1, o1 + k2, none⟩ = some (.float .f32 x0)) (by kernel_rfl) ⟨hc0, hc1, hcx⟩ (fun hHeld => ?_)
          ((refine wpAnyH_take (i := 0) (v := ?_) rfl (by kernel_rfl) (by kernel_rfl) (by kernel_rfl) (fun _ _ _ h => h) (Or.inl ⟨by rfl, ?_⟩) (by assumption) ?_; rotate_left; (· intro w hSw; (try dsimp only at hSw); go_simp; first | done | with_reducible rfl); (try simp only [List.getElem_toArray, List.getElem_cons_zero, List.getElem_cons_succ, Act.put, List.setIfInBounds_toArray, List.set_cons_zero, List.set_cons_succ])); (refine wpAnyH_take (i := 1) (v := ?_) rfl (by kernel_rfl) (by kernel_rfl) (by kernel_rfl) (fun _ _ _ h => h) (Or.inl ⟨by rfl, ?_⟩) (by assumption) ?_; rotate_left; (· intro w hSw; (try dsimp only at hSw); go_simp; first | done | with_reducible rfl); (try simp only [List.getElem_toArray, List.getElem_cons_zero, List.getElem_cons_succ, Act.put, List.setIfInBounds_toArray, List.set_cons_zero, List.set_cons_succ])); (refine wpAnyH_take (i := 2) (v := ?_) rfl (by kernel_rfl) (by kernel_rfl) (by kernel_rfl) (fun _ _ _ h => h) (Or.inl ⟨by rfl, ?_⟩) (by assumption) ?_; rotate_left; (· intro w hSw; (try dsimp only at hSw); go_simp; first | done | with_reducible rfl); (try simp only [List.getElem_toArray, List.getElem_cons_zero, List.getElem_cons_succ, Act.put, List.setIfInBounds_toArray, List.set_cons_zero, List.set_cons_succ])); (refine wpAnyH_take (i := 3) (v := ?_) rfl (by kernel_rfl) (by kernel_rfl) (by kernel_rfl) (fun _ _ _ h => h) (Or.inl ⟨by rfl, ?_⟩) (by assumption) ?_; rotate_left; (· intro w hSw; (try dsimp only at hSw); go_simp; first | done | with_reducible rfl); (try simp only [List.getElem_toArray, List.getElem_cons_zero, List.getElem_cons_succ, Act.put, List.setIfInBounds_toArray, List.set_cons_zero, List.set_cons_succ])); (refine wpAnyH_take (i := 5) (v := ?_) rfl (by kernel_rfl) (by kernel_rfl) (by kernel_rfl) (fun _ _ _ h => h) (Or.inl ⟨by rfl, ?_⟩) (by assumption) ?_; rotate_left; (· intro w hSw; (try dsimp only at hSw); go_simp; first | done | with_reducible rfl); (try simp only [List.getElem_toArray, List.getElem_cons_zero, List.getElem_cons_succ, Act.put, List.setIfInBounds_toArray, List.set_cons_zero, List.set_cons_succ])); (refine wpAnyH_take (i := 6) (v := ?_) rfl (by kernel_rfl) (by kernel_rfl) (by kernel_rfl) (fun _ _ _ h => h) (Or.inl ⟨by rfl, ?_⟩) (by assumption) ?_; rotate_left; (· intro w hSw; (try dsimp only at hSw); go_simp; first | done | with_reducible rfl); (try simp only [List.getElem_toArray, List.getElem_cons_zero, List.getElem_cons_succ, Act.put, List.setIfInBounds_toArray, List.set_cons_zero, List.set_cons_succ])); (refine wpAnyH_take (i := 7) (v := ?_) rfl (by kernel_rfl) (by kernel_rfl) (by kernel_rfl) (fun _ _ _ h => h) (Or.inl ⟨by rfl, ?_⟩) (by assumption) ?_; rotate_left; (· intro w hSw; (try dsimp only at hSw); go_simp; first | done | with_reducible rfl); (try simp only [List.getElem_toArray, List.getElem_cons_zero, List.getElem_cons_succ, Act.put, List.setIfInBounds_toArray, List.set_cons_zero, List.set_cons_succ])); (refine wpAnyH_take (i := 8) (v := ?_) rfl (by kernel_rfl) (by kernel_rfl) (by kernel_rfl) (fun _ _ _ h => h) (Or.inl ⟨by rfl, ?_⟩) (by assumption) ?_; rotate_left; (· intro w hSw; (try dsimp only at hSw); go_simp; first | done | with_reducible rfl); (try simp only [List.getElem_toArray, List.getElem_cons_zero, List.getElem_cons_succ, Act.put, List.setIfInBounds_toArray, List.set_cons_zero, List.set_cons_succ])); (refine wpAnyH_take (i := 9) (v := ?_) rfl (by kernel_rfl) (by kernel_rfl) (by kernel_rfl) (fun _ _ _ h => h) (Or.inl ⟨by rfl, ?_⟩) (by assumption) ?_; rotate_left; (· intro w hSw; (try dsimp only at hSw); go_simp; first | done | with_reducible rfl); (try simp only [List.getElem_toArray, List.getElem_cons_zero, List.getElem_cons_succ, Act.put, List.setIfInBounds_toArray, List.set_cons_zero, List.set_cons_succ])); (refine wpAnyH_take (i := 10) (v := ?_) rfl (by kernel_rfl) (by kernel_rfl) (by kernel_rfl) (fun _ _ _ h => h) (Or.inl ⟨by rfl, ?_⟩) (by assumption) ?_; rotate_left; (· intro w hSw; (try dsimp only at hSw); go_simp; first | done | with_reducible rfl); (try simp only [List.getElem_toArray, List.getElem_cons_zero, List.getElem_cons_succ, Act.put, List.setIfInBounds_toArray, List.set_cons_zero, List.set_cons_succ])); (refine wpAnyH_take (i := 11) (v := ?_) rfl (by kernel_rfl) (by kernel_rfl) (by kernel_rfl) (fun _ _ _ h => h) (Or.inl ⟨by rfl, ?_⟩) (by assumption) ?_; rotate_left; (· intro w hSw; (try dsimp only at hSw); go_simp; first | done | with_reducible rfl); (try simp only [List.getElem_toArray, List.getElem_cons_zero, List.getElem_cons_succ, Act.put, List.setIfInBounds_toArray, List.set_cons_zero, List.set_cons_succ])); (refine wpAnyH_take (i := 12) (v := ?_) rfl (by kernel_rfl) (by kernel_rfl) (by kernel_rfl) (fun _ _ _ h => h) (Or.inl ⟨by rfl, ?_⟩) (by assumption) ?_; rotate_left; (· intro w hSw; (try dsimp only at hSw); go_simp; first | done | with_reducible rfl); (try simp only [List.getElem_toArray, List.getElem_cons_zero, List.getElem_cons_succ, Act.put, List.setIfInBounds_toArray, List.set_cons_zero, List.set_cons_succ])))
          (refine wpAnyH_ready (rs := [4]) (by kernel_rfl) (by simp) ?_; refine AllReadyH.cons (i := 4) rfl (fun K hK => ?_) AllReadyH.nil)
          go_simp
          refine (indexOf_any a b u v ss.length _ ⟨hA.1, hA.2.1⟩ ⟨hA.2.2.1, hA.2.2.2⟩ HK1.out).mono ?_; rintro e w5 ⟨rfl, hb5⟩
          have HD5 := Lib.hid (hd3.trans (hb5.mono hd3.size))
          have HB5 := Lib.hid (grown_below (row := none) hb5)
          clear hb5
          go_wp2_with fail
          (refine hK.out _ _ (⟨(HP.out.ever _ HD5.out).1, (HP.out.ever _ HD5.out).2, HC.out _ (hb0.trans (HD5.out.mono hb0.size))⟩) (fun hHeld => ?_); clear hK K; (try simp only [List.getElem_toArray, List.getElem_cons_zero, List.getElem_cons_succ, Act.put, List.setIfInBounds_toArray, List.set_cons_zero, List.set_cons_succ]))
          (refine wpAnyH_ready (rs := [13]) (by kernel_rfl) (by simp) ?_; refine AllReadyH.cons (i := 13) rfl (fun K hK => ?_) AllReadyH.nil)
          go_simp
          refine (indexOf_any a b ((u : Int) - x) ((v : Int) - y) k2 _ ⟨hA.1, hA.2.1⟩ ⟨hA.2.2.1, hA.2.2.2⟩ HS1.out).mono ?_; rintro e w6 ⟨rfl, hb6⟩
          have HD6 := Lib.hid (HD5.out.trans (hb6.mono HD5.out.size))
          have HB6 := Lib.hid (grown_below (row := none) hb6)
          clear hb6
          go_wp2_with fail
          (refine hK.out _ _ (⟨(HP.out.ever _ HD6.out).1, (HP.out.ever _ HD6.out).2, HC.out _ (hb0.trans (HD6.out.mono hb0.size))⟩) (fun hHeld => ?_); clear hK K; (try simp only [List.getElem_toArray, List.getElem_cons_zero, List.getElem_cons_succ, Act.put, List.setIfInBounds_toArray, List.set_cons_zero, List.set_cons_succ]))
          ((refine wpAnyH_take (i := 14) (v := ?_) rfl (by kernel_rfl) (by kernel_rfl) (by kernel_rfl) (fun _ _ _ h => h) (Or.inl ⟨by rfl, ?_⟩) (by assumption) ?_; rotate_left; (· intro w hSw; (try dsimp only at hSw); go_simp; first | done | with_reducible rfl); (try simp only [List.getElem_toArray, List.getElem_cons_zero, List.getElem_cons_succ, Act.put, List.setIfInBounds_toArray, List.set_cons_zero, List.set_cons_succ])); (refine wpAnyH_take (i := 15) (v := ?_) rfl (by kernel_rfl) (by kernel_rfl) (by kernel_rfl) (fun _ _ _ h => h) (Or.inl ⟨by rfl, ?_⟩) (by assumption) ?_; rotate_left; (· intro w hSw; (try dsimp only at hSw); go_simp; first | done | with_reducible rfl); (try simp only [List.getElem_toArray, List.getElem_cons_zero, List.getElem_cons_succ, Act.put, List.setIfInBounds_toArray, List.set_cons_zero, List.set_cons_succ])); (refine wpAnyH_take (i := 16) (v := ?_) rfl (by kernel_rfl) (by kernel_rfl) (by kernel_rfl) (fun _ _ _ h => h) (Or.inl ⟨by rfl, ?_⟩) (by assumption) ?_; rotate_left; (· intro w hSw; (try dsimp only at hSw); go_simp; first | done | with_reducible rfl); (try simp only [List.getElem_toArray, List.getElem_cons_zero, List.getElem_cons_succ, Act.put, List.setIfInBounds_toArray, List.set_cons_zero, List.set_cons_succ])))
          have ho5 : w5.ownsRow w1.heap.size 32 1 (.slice (some ⟨g0, 0, none⟩) xs.length xs.length) xs.length (ptl ss xs.length) := World.ownsRow.kept (show wr.drew.ownsRow w1.heap.size 32 1 (.slice (some ⟨g0, 0, none⟩) xs.length xs.length) xs.length (ptl ss xs.length) from HO.out) HB5.out (.inr (by simp [Value.ownBlock]))
          have ho6 := World.ownsRow.kept ho5 HB6.out (.inr (by simp [Value.ownBlock]))
          have hw0 := ho6.cellAt ss.length (by omega)
          rw [ptl_get ss _ hlt2] at hw0
          have hfz := ho6.frozenAt ss.length
          have ST := Lib.hid (ho6.stored ss.length (.float .f32 x0)).1
          rw [ptl_set ss _ x0 hlt2] at ST
          have hg0 := Lib.hid (ho6.lt g0 rfl).1
          clear ho5 ho6
          (refine wpAnyH_ready (rs := [17]) (by kernel_rfl) (by simp) ?_; refine AllReadyH.cons (i := 17) rfl (fun K hK => ?_) AllReadyH.nil)
          go_simp
          have HD7 := Lib.hid (HD6.out.setCell (p := ⟨g0, ss.length, none⟩) hg0.out (.float .f32 x0))
          (refine hK.out _ _ (⟨(HP.out.ever _ HD7.out).1, (HP.out.ever _ HD7.out).2, HC.out _ (hb0.trans (HD7.out.mono hb0.size))⟩) (fun hHeld => ?_); clear hK K; (try simp only [List.getElem_toArray, List.getElem_cons_zero, List.getElem_cons_succ, Act.put, List.setIfInBounds_toArray, List.set_cons_zero, List.set_cons_succ]))
          (refine wpAnyH_done (by kernel_rfl) ?_ _; refine NoPanic.normal ?_)
          have HE7 := Lib.hid (HE.out.snoc (r := x0) (by rw [HF.out]; exact ix))
          have HL7 := Lib.hid (show ((ss ++ [x0]).length : Int) = a * v + ((u + 1 : Nat) : Int) by have := HL.out; simp; omega)
          clear hw0 hfz hHeld hcx HC
          go_wp2
          go_roundw
          case rel => exact ⟨u + 1, ss ++ [x0], by go_num, by omega, HL7, HE7, ST, HD7⟩
          case measure => simp [intOf]; omega
        · have hua : (u : Int) = a := by omega
          have HL8 := Lib.hid (show (ss.length : Int) = a * ((v + 1 : Nat) : Int) by have := HL.out; rw [this, hua]; simp [Int.mul_add])
          clear hua
          go_wp2
          go_roundw
          case rel => exact ⟨v + 1, ss, by go_num, by omega, HL8, HE, HO, HD⟩
          case measure => simp [intOf]; omega
    · have hvb : (v : Int) = b := by omega
      have HK2 := Lib.hid (show rs.length = xs.length by have h1 := HL.out; have h2 := HA.out.2.2.2.2.1; rw [hvb] at h1; omega)
      have HR := Lib.hid (show ptl rs xs.length = rs.map (Value.float .f32) by rw [← HK2.out]; exact ptl_all rs)
      clear hvb
      go_wp2
      go_ret2
      exact ⟨⟨_, rfl, rs, HK2.out, HE.out, ownsRow_le (by rw [HK2.out, ← HR.out]; exact HO.out) hb0.size⟩, hb0.trans (HD.out.mono hb0.size)⟩

theorem iShift_no (a b : Int) (a1 : Option Addr) (n1 c1 : Nat) (x y : Int) (w : World) (h : okSh a b n1 x y = false) :
    Calls Try.prog 18 #[GV a b, .slice a1 n1 c1, .int .i64 x, .int .i64 y] w fun e w' => e = .returned (.tuple #[.slice none 0 0, .bool false]) ∧ Below w.heap.size w w' := by
  have HP := Lib.hid (gp_new w a b 25)
  have hb0 := (Below.refl w.heap.size w).alloc (Nat.le_refl _) (.cells #[.int .i64 a, .int .i64 b] 25)
  unfold okSh at h
  by_cases h1 : fieldOk a b n1 = true
  · rw [h1, Bool.true_and] at h
    have H1 := Lib.hid h1
    by_cases h2 : decide (-16 ≤ x ∧ x ≤ 16) = true
    · rw [h2, Bool.true_and] at h
      have H2 := Lib.hid h2
      have H3 := Lib.hid h
      clear h1 h2 h
      go_enter Try.func18, Try.ntmps18
      go_wp2_with fail
      generalize w.alloc (.cells #[.int .i64 a, .int .i64 b] 25) = w1 at hb0 HP ⊢
      refine (iIsField_any a b a1 n1 c1 _).mono ?_; rw [H1.out]; rintro e w2 ⟨rfl, hb2⟩
      go_wp2_with fail
      refine (isShift_any x _).mono ?_; rw [H2.out]; rintro e w3 ⟨rfl, rfl⟩
      go_wp2_with fail
      refine (isShift_any y _).mono ?_; rw [H3.out]; rintro e w4 ⟨rfl, rfl⟩
      go_wp2_with fail
      go_ret2
      exact ⟨rfl, hb0.trans (hb2.mono hb0.size)⟩
    · have h2' : decide (-16 ≤ x ∧ x ≤ 16) = false := by simpa using h2
      have H2 := Lib.hid h2'
      clear h1 h2 h2' h
      go_enter Try.func18, Try.ntmps18
      go_wp2_with fail
      generalize w.alloc (.cells #[.int .i64 a, .int .i64 b] 25) = w1 at hb0 HP ⊢
      refine (iIsField_any a b a1 n1 c1 _).mono ?_; rw [H1.out]; rintro e w2 ⟨rfl, hb2⟩
      go_wp2_with fail
      refine (isShift_any x _).mono ?_; rw [H2.out]; rintro e w3 ⟨rfl, rfl⟩
      go_wp2_with fail
      go_ret2
      exact ⟨rfl, hb0.trans (hb2.mono hb0.size)⟩
  · have h1' : fieldOk a b n1 = false := by simpa using h1
    have H1 := Lib.hid h1'
    clear h1 h1' h
    go_enter Try.func18, Try.ntmps18
    go_wp2_with fail
    generalize w.alloc (.cells #[.int .i64 a, .int .i64 b] 25) = w1 at hb0 HP ⊢
    refine (iIsField_any a b a1 n1 c1 _).mono ?_; rw [H1.out]; rintro e w2 ⟨rfl, hb2⟩
    go_wp2_with fail
    go_ret2
    exact ⟨rfl, hb0.trans (hb2.mono hb0.size)⟩

theorem sShift_no (a b : Int) (a1 : Option Addr) (n1 c1 : Nat) (x y : Int) (w : World) (h : okSh a b n1 x y = false) :
    Calls Try.prog 28 #[GV a b, .slice a1 n1 c1, .int .i64 x, .int .i64 y] w fun e w' => e = .returned (.tuple #[.slice none 0 0, .bool false]) ∧ Below w.heap.size w w' := by
  have HP := Lib.hid (gp_new w a b 25)
  have hb0 := (Below.refl w.heap.size w).alloc (Nat.le_refl _) (.cells #[.int .i64 a, .int .i64 b] 25)
  unfold okSh at h
  by_cases h1 : fieldOk a b n1 = true
  · rw [h1, Bool.true_and] at h
    have H1 := Lib.hid h1
    by_cases h2 : decide (-16 ≤ x ∧ x ≤ 16) = true
    · rw [h2, Bool.true_and] at h
      have H2 := Lib.hid h2
      have H3 := Lib.hid h
      clear h1 h2 h
      go_enter Try.func28, Try.ntmps28
      go_wp2_with fail
      generalize w.alloc (.cells #[.int .i64 a, .int .i64 b] 25) = w1 at hb0 HP ⊢
      refine (sField_any _ a b a1 n1 c1 _ HP.out).mono ?_; rw [H1.out]; rintro e w2 ⟨rfl, m1, rfl⟩
      go_wp2_with fail
      refine (sIn_any x (-16) 16 _).mono ?_; rw [H2.out]; rintro e w3 ⟨rfl, rfl⟩
      go_wp2_with fail
      refine (sIn_any y (-16) 16 _).mono ?_; rw [H3.out]; rintro e w4 ⟨rfl, rfl⟩
      go_wp2_with fail
      go_ret2
      exact ⟨rfl, below_drewN hb0 m1⟩
    · have h2' : decide (-16 ≤ x ∧ x ≤ 16) = false := by simpa using h2
      have H2 := Lib.hid h2'
      clear h1 h2 h2' h
      go_enter Try.func28, Try.ntmps28
      go_wp2_with fail
      generalize w.alloc (.cells #[.int .i64 a, .int .i64 b] 25) = w1 at hb0 HP ⊢
      refine (sField_any _ a b a1 n1 c1 _ HP.out).mono ?_; rw [H1.out]; rintro e w2 ⟨rfl, m1, rfl⟩
      go_wp2_with fail
      refine (sIn_any x (-16) 16 _).mono ?_; rw [H2.out]; rintro e w3 ⟨rfl, rfl⟩
      go_wp2_with fail
      go_ret2
      exact ⟨rfl, below_drewN hb0 m1⟩
  · have h1' : fieldOk a b n1 = false := by simpa using h1
    have H1 := Lib.hid h1'
    clear h1 h1' h
    go_enter Try.func28, Try.ntmps28
    go_wp2_with fail
    generalize w.alloc (.cells #[.int .i64 a, .int .i64 b] 25) = w1 at hb0 HP ⊢
    refine (sField_any _ a b a1 n1 c1 _ HP.out).mono ?_; rw [H1.out]; rintro e w2 ⟨rfl, m1, rfl⟩
    go_wp2_with fail
    go_ret2
    exact ⟨rfl, below_drewN hb0 m1⟩

set_option maxHeartbeats 2000000 in
set_option maxRecDepth 100000 in
theorem sShift_yes (a b : Int) (t : Value) (xs : List Nat) (x y : Int) (w : World) (hu : FS .f32 w t xs) (h1 : fieldOk a b xs.length = true) (hx : -16 ≤ x ∧ x ≤ 16) (hy : -16 ≤ y ∧ y ≤ 16) :
    Calls Try.prog 28 #[GV a b, t, .int .i64 x, .int .i64 y] w fun e w' => (∃ r, e = .returned (.tuple #[r, .bool true]) ∧ FRes w.heap.size w' r xs.length (shF a b xs x y)) ∧ Below w.heap.size w w' := by
  obtain ⟨i0, hi, hz0, hz1, hz2⟩ := info_parts F32info
  have hu' := hu
  obtain ⟨a1, c1, rfl, hlc, hcm, hwf, hmem⟩ := hu
  have hb0 := (Below.refl w.heap.size w).alloc (Nat.le_refl _) (.cells #[.int .i64 a, .int .i64 b] 25)
  have hf := fieldOk_true h1
  have hn256 : xs.length ≤ 256 := hf.2.2.2.2.2
  have H1 := Lib.hid h1
  have HU := Lib.hid hu'
  have HA := Lib.hid hf
  have HP := Lib.hid (gp_new w a b 25)
  have hX : decide (-16 ≤ x ∧ x ≤ 16) = true := decide_eq_true hx
  have hY : decide (-16 ≤ y ∧ y ≤ 16) = true := decide_eq_true hy
  have HX := Lib.hid hX; have HY := Lib.hid hY; have HXB := Lib.hid hx; have HYB := Lib.hid hy
  clear hu' h1 hmem hlc hcm hf hX hY hx hy
  go_enter Try.func28, Try.ntmps28
  go_wp2_with fail
  generalize w.alloc (.cells #[.int .i64 a, .int .i64 b] 25) = w1 at hb0 HP ⊢
  refine (sField_any _ a b a1 xs.length c1 _ HP.out).mono ?_; rw [H1.out]; rintro e w2 ⟨rfl, m1, rfl⟩
  go_wp2_with fail
  refine (sIn_any x (-16) 16 _).mono ?_; rw [HX.out]; rintro e w3 ⟨rfl, rfl⟩
  go_wp2_with fail
  refine (sIn_any y (-16) 16 _).mono ?_; rw [HY.out]; rintro e w4 ⟨rfl, rfl⟩
  go_wp2_with fail
  have hown0 := own_start w1.heap.size (w1.drewN m1) (Nat.le_refl _)
  have hbel0 := (below_drewN (Below.refl w1.heap.size w1) m1).alloc (Nat.le_refl _) (.cells #[] 32)
  generalize (w1.drewN m1).alloc (.cells #[] 32) = w2 at hown0 hbel0 ⊢
  have HO0 := Lib.hid hown0
  have HD0 := Lib.hid hbel0
  clear hown0 hbel0 H1 HX HY
  have hA : 4 ≤ a ∧ a ≤ 16 ∧ 4 ≤ b ∧ b ≤ 16 := ⟨HA.out.1, HA.out.2.1, HA.out.2.2.1, HA.out.2.2.2.1⟩
  go_loopw [10, 11] (fun s i wr => ∃ (v : Nat) (rs : List Nat), i = .int .i64 (v : Int) ∧ (v : Int) ≤ b ∧ Hid ((rs.length : Int) = a * v) ∧ Hid (Eqs rs (shF a b xs x y)) ∧ (∃ g cap, s = .slice (some ⟨g, 0, none⟩) rs.length cap ∧ Hid (wr.ownsRow w1.heap.size 32 1 s rs.length (rs.map (Value.float .f32)))) ∧ Hid (Below w1.heap.size w1 wr)) (fun _ i _ => (b - intOf i).toNat)
  case atStart => exact ⟨0, [], rfl, by omega, Lib.hid (by simp), Lib.hid (Eqs.nil _), ⟨_, _, rfl, HO0⟩, HD0⟩
  case round =>
    clear HO0 HD0
    obtain ⟨v, rs, rfl, hv, HL, HE, ⟨g, cap, rfl, HO⟩, HD⟩ := hrel
    have hc0 := (HP.out.ever _ HD.out).1
    have hc1 := (HP.out.ever _ HD.out).2
    by_cases hlt : (v : Int) < b
    · go_wp2_with fail
      have hx := HXB.out
      have hy := HYB.out
      go_loopw [10, 12] (fun s i wr => ∃ (u : Nat) (rs : List Nat), i = .int .i64 (u : Int) ∧ (u : Int) ≤ a ∧ Hid ((rs.length : Int) = a * v + u) ∧ Hid (Eqs rs (shF a b xs x y)) ∧ (∃ g cap, s = .slice (some ⟨g, 0, none⟩) rs.length cap ∧ Hid (wr.ownsRow w1.heap.size 32 1 s rs.length (rs.map (Value.float .f32)))) ∧ Hid (Below w1.heap.size w1 wr)) (fun _ i _ => (a - intOf i).toNat)
      case atStart => exact ⟨0, rs, rfl, by omega, Lib.hid (by have := HL.out; omega), HE, ⟨g, cap, rfl, HO⟩, HD⟩
      case round =>
        clear HL HE HO HD hc0 hc1
        obtain ⟨u, ss, rfl, hu, HL, HE, ⟨g, cap, rfl, HO⟩, HD⟩ := hrel
        have hc0 := (HP.out.ever _ HD.out).1
        have hc1 := (HP.out.ever _ HD.out).2
        by_cases hlu : (u : Int) < a
        · obtain ⟨hs1, hs2⟩ := shI_facts x y u v hA.1 hA.2.2.1
          have hF := shF_at (b := b) xs x y hA.1 hlu HL.out
          have hm : a * ((v : Int) + 1) ≤ a * b := Int.mul_le_mul_of_nonneg_left (by omega) (by omega)
          rw [Int.mul_add, Int.mul_one] at hm
          have hlt2 : ss.length < xs.length := by have := HL.out; have := HA.out.2.2.2.2.1; omega
          generalize hk : shI a b x y u v = k2 at hs1 hs2 hF
          have hk2 : k2 < xs.length := by have := HA.out.2.2.2.2.1; omega
          have i1 : (0 : Int) ≤ (k2 : Int) := Int.natCast_nonneg _
          have i2 : (k2 : Int) < (xs.length : Int) := by omega
          obtain ⟨b1, o1, e1, hcx⟩ := FS.at HU.out (hb0.trans (HD.out.mono hb0.size)) hk2
          obtain rfl := e1
          have ix := FS.is hwf k2 hk2
          generalize cn .f32 (xs.getD k2 0) = X at ix hF
          generalize xs.getD k2 0 = x0 at hcx ix
          have HF := Lib.hid hF
          have e2 := hs1.symm
          have hq := emod_facts b ((v : Int) - y) hA.2.2.1
          have hp := emod_facts a ((u : Int) - x) hA.1
          have hm1 : a * (((v : Int) - y) % b) ≤ 16 * 16 := Int.mul_le_mul hA.2.1 (by omega) hq.1 (by omega)
          have hm0 : 0 ≤ a * (((v : Int) - y) % b) := Int.mul_nonneg (by omega) hq.1
          have hw1 : wrap64 (a * (((v : Int) - y) % b)) = a * (((v : Int) - y) % b) := wrap64_of (by omega) (by omega)
          clear hF hk hs1 hs2 hm hq hp hm0 hm1
          go_wp2_with (at_builtin; refine wpList_append_lies _ rfl _ _ _ rfl w1.heap.size 32 i0 _ 1 4 Try.underlying29 hi hz0 hz1 hz2 rfl (by omega) (.slice (some ⟨g, 0, none⟩) ss.length cap) ss.length (ss.map (Value.float .f32)) rfl (own_next0 HO.out x0) ⟨wr.heap.size, 0, none⟩ 1 1 [.float .f32 x0] rfl rfl (World.news_of_block (cs := #[.float .f32 x0]) (t := 32) (fr := (0, 0)) (heap_alloc_new _ _)) (by simp [Value.oneCell']) (by omega) (by unfold maxLen; omega) (by omega) (below_next0 HD.out x0).size (wr.heap.size + 1) (by simp) ?_; intro g2 cap2 w3 hown4 hgrow hat hltg)
          have hb5 := Lib.hid ((below_next0 HD.out x0).grown hgrow (below_next0 HD.out x0).size (fun k hk => ((own_next0 HO.out x0).lt k hk).1))
          have HO4 := Lib.hid (show w3.ownsRow w1.heap.size 32 1 (.slice (some ⟨g2, 0, none⟩) (ss ++ [x0]).length cap2) (ss ++ [x0]).length ((ss ++ [x0]).map (Value.float .f32)) by simpa using hown4)
          have HE4 := Lib.hid (HE.out.snoc (r := x0) (by rw [HF.out]; exact ix))
          have HL4 := Lib.hid (show (ss ++ [x0]).length = ss.length + 1 by simp)
          have HL7 := Lib.hid (show ((ss ++ [x0]).length : Int) = a * v + ((u + 1 : Nat) : Int) by have := HL.out; rw [HL4.out]; omega)
          clear hown4 hgrow hat hcx
          go_wp2
          go_roundw
          case rel => exact ⟨u + 1, ss ++ [x0], by go_num, by omega, HL7, HE4, ⟨g2, cap2, by rw [HL4.out], by rw [HL4.out] at HO4 ⊢; exact HO4⟩, hb5⟩
          case measure => simp [intOf]; omega
        · have hua : (u : Int) = a := by omega
          have HL8 := Lib.hid (show (ss.length : Int) = a * ((v + 1 : Nat) : Int) by have := HL.out; rw [this, hua]; simp [Int.mul_add])
          clear hua
          go_wp2
          go_roundw
          case rel => exact ⟨v + 1, ss, by go_num, by omega, HL8, HE, ⟨g, cap, rfl, HO⟩, HD⟩
          case measure => simp [intOf]; omega
    · have hvb : (v : Int) = b := by omega
      have HK2 := Lib.hid (show rs.length = xs.length by have h1 := HL.out; have h2 := HA.out.2.2.2.2.1; rw [hvb] at h1; omega)
      clear hvb
      go_wp2
      go_ret2
      exact ⟨⟨_, rfl, rs, HK2.out, HE.out, ownsRow_le HO.out hb0.size⟩, hb0.trans (HD.out.mono hb0.size)⟩

def okShiftField (a b : Int) (xs : List Nat) (x y : Int) : Bool := okSh a b xs.length x y
def lenShiftField (a b : Int) (xs : List Nat) (x y : Int) : Nat := if okShiftField a b xs x y then xs.length else 0
theorem lenShiftField_le (a b : Int) (xs : List Nat) (x y : Int) (h : xs.length ≤ 1048576) : lenShiftField a b xs x y ≤ 1048576 := by unfold lenShiftField; split <;> omega
theorem okSh_true {a b x y : Int} {n : Nat} (h : okSh a b n x y = true) : fieldOk a b n = true ∧ (-16 ≤ x ∧ x ≤ 16) ∧ (-16 ≤ y ∧ y ≤ 16) := by
  unfold okSh at h
  rw [Bool.and_eq_true, Bool.and_eq_true] at h
  exact ⟨h.1.1, of_decide_eq_true h.1.2, of_decide_eq_true h.2⟩

theorem sShiftField_any (a b : Int) (u : Value) (xs : List Nat) (x y : Int) (w : World) (hu : FS .f32 w u xs) (_hn : xs.length ≤ 1048576) (_hx : -9223372036854775808 ≤ x ∧ x ≤ 9223372036854775807) (_hy : -9223372036854775808 ≤ y ∧ y ≤ 9223372036854775807) :
    Calls Try.prog 28 #[GV a b, u, .int .i64 x, .int .i64 y] w fun e w' => (∃ r, e = .returned (.tuple #[r, .bool (okShiftField a b xs x y)]) ∧ FRes w.heap.size w' r (lenShiftField a b xs x y) (shF a b xs x y)) ∧ Below w.heap.size w w' := by
  unfold lenShiftField
  by_cases h : okShiftField a b xs x y = true
  · rw [h, if_pos rfl]
    obtain ⟨h1, h2, h3⟩ := okSh_true h
    exact sShift_yes a b u xs x y w hu h1 h2 h3
  · have h' : okShiftField a b xs x y = false := by simpa using h
    rw [h', if_neg (by simp)]
    obtain ⟨a1, c1, rfl, _⟩ := hu
    exact (sShift_no a b a1 xs.length c1 x y w h').mono fun e w' ⟨he, hb⟩ => ⟨⟨_, he, fres_none _ _ _⟩, hb⟩

theorem iShiftField_any (a b : Int) (u : Value) (xs : List Nat) (x y : Int) (w : World) (hu : FS .f32 w u xs) (_hn : xs.length ≤ 1048576) (_hx : -9223372036854775808 ≤ x ∧ x ≤ 9223372036854775807) (_hy : -9223372036854775808 ≤ y ∧ y ≤ 9223372036854775807) :
    Calls Try.prog 18 #[GV a b, u, .int .i64 x, .int .i64 y] w fun e w' => (∃ r, e = .returned (.tuple #[r, .bool (okShiftField a b xs x y)]) ∧ FRes w.heap.size w' r (lenShiftField a b xs x y) (shF a b xs x y)) ∧ Below w.heap.size w w' := by
  unfold lenShiftField
  by_cases h : okShiftField a b xs x y = true
  · rw [h, if_pos rfl]
    obtain ⟨h1, h2, h3⟩ := okSh_true h
    exact iShift_yes a b u xs x y w hu h1 h2 h3
  · have h' : okShiftField a b xs x y = false := by simpa using h
    rw [h', if_neg (by simp)]
    obtain ⟨a1, c1, rfl, _⟩ := hu
    exact (iShift_no a b a1 xs.length c1 x y w h').mono fun e w' ⟨he, hb⟩ => ⟨⟨_, he, fres_none _ _ _⟩, hb⟩
end Go.Proofs.Ytnknhfhllifnhaa
