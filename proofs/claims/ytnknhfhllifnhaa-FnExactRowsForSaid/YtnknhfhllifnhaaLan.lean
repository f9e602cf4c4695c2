/-
  Sums in lanes.
-/
import Derived.Test.YtnknhfhllifnhaaSum
import Derived.Test.YtnknhfhllifnhaaOwn
import Derived.Test.YtnknhfhllifnhaaRegB
import Derived.Deep.CutRange
namespace Go.Proofs.Ytnknhfhllifnhaa
open Go.Fl Go.RowKit
set_option linter.unusedSimpArgs false
set_option linter.unusedVariables false

/-! ### mathematics -/
/-- The lane l behind the first q numbers. -/
def laneAt (xs : List Nat) (l : Nat) : Nat → Nat
  | 0 => 0
  | q + 1 => if q % 8 = l ∧ q < xs.length then fop .add .f32 (laneAt xs l q) (cn .f32 (xs.getD q 0)) else laneAt xs l q
theorem lane_skip (xs : List Nat) (l q : Nat) : ∀ m, (∀ i, q ≤ i → i < q + m → ¬ (i % 8 = l ∧ i < xs.length)) → laneAt xs l (q + m) = laneAt xs l q
  | 0, _ => rfl
  | m + 1, h => by
    rw [show q + (m + 1) = q + m + 1 by omega, laneAt, if_neg (h (q + m) (by omega) (by omega))]
    exact lane_skip xs l q m (fun i h1 h2 => h i h1 (by omega))
theorem lane_step {xs : List Nat} {l q : Nat} (h : q % 8 = l) (hq : q < xs.length) : laneAt xs l (q + 8) = fop .add .f32 (laneAt xs l q) (cn .f32 (xs.getD q 0)) := by
  rw [show q + 8 = q + 1 + 7 by omega, lane_skip xs l (q + 1) 7 (fun i h1 h2 h3 => by omega), laneAt, if_pos ⟨h, hq⟩]
theorem lane_end {xs : List Nat} {l q : Nat} (hq : xs.length ≤ q) : laneAt xs l q = laneAt xs l xs.length := by
  rw [show q = xs.length + (q - xs.length) by omega, lane_skip xs l xs.length _ (fun i h1 h2 h3 => by omega)]
theorem lane_start (xs : List Nat) {l : Nat} (h : l < 8) : laneAt xs l l = 0 := by
  have := lane_skip xs l 0 l (fun i h1 h2 h3 => by omega)
  rw [Nat.zero_add] at this
  exact this
theorem lane_next {xs : List Nat} {q : Nat} (hq : q < xs.length) (j : Nat) : laneAt xs j (q + 1) = if j = q % 8 then fop .add .f32 (laneAt xs (q % 8) q) (cn .f32 (xs.getD q 0)) else laneAt xs j q := by
  rw [laneAt]
  by_cases e : j = q % 8
  · subst e; rw [if_pos ⟨rfl, hq⟩, if_pos rfl]
  · rw [if_neg (fun h => e h.1.symm), if_neg e]

/-- The first k of them have got those h behind. -/
def addH (F : Nat → Nat) (h k : Nat) (j : Nat) : Nat := if j < k then fop .add .f32 (F j) (F (j + h)) else F j
def foldL (F : Nat → Nat) (h : Nat) : Nat → Nat :=
  if h = 4 then F else if h = 2 then addH F 4 4 else if h = 1 then addH (addH F 4 4) 2 2 else addH (addH (addH F 4 4) 2 2) 1 1
theorem foldL_half (F : Nat → Nat) {h : Nat} (hh : h = 4 ∨ h = 2 ∨ h = 1) : addH (foldL F h) h h = foldL F (h / 2) := by
  rcases hh with rfl | rfl | rfl <;> rfl
theorem addH_next (F : Nat → Nat) {h k : Nat} (hk : k < h) (j : Nat) : addH F h (k + 1) j = if j = k then fop .add .f32 (addH F h k k) (addH F h k (k + h)) else addH F h k j := by
  unfold addH
  by_cases e : j = k
  · subst e
    rw [if_pos (by omega), if_pos rfl, if_neg (by omega), if_neg (by omega)]
  · rw [if_neg e]
    by_cases e2 : j < k
    · rw [if_pos (by omega), if_pos e2]
    · rw [if_neg (by omega), if_neg e2]

/-! ### eight numbers in memory -/
def LN (T : TypeId) (B : Nat) (w : World) (g : Nat) (xs : List Nat) : Prop := xs.length = 8 ∧ w.ownsRow B T 1 (.slice (some ⟨g, 0, none⟩) 8 8) 8 (xs.map (Value.float .f32))
theorem LN.at {T : TypeId} {B g : Nat} {w : World} {xs : List Nat} (h : LN T B w g xs) {j : Nat} (hj : j < 8) : w.cell? ⟨g, j, none⟩ = some (.float .f32 (xs.getD j 0)) := by
  rw [h.2.cellAt j (by omega), List.getElem?_map, List.getElem?_eq_getElem (by rw [h.1]; exact hj)]
  simp [List.getD, List.getElem?_eq_getElem (show j < xs.length by rw [h.1]; exact hj)]
theorem LN.frozen {T : TypeId} {B g : Nat} {w : World} {xs : List Nat} (h : LN T B w g xs) (j : Nat) : w.frozen? ⟨g, j, none⟩ = false := h.2.frozenAt j
theorem LN.put {T : TypeId} {B g : Nat} {w : World} {xs : List Nat} (h : LN T B w g xs) {j : Nat} (hj : j < 8) (r : Nat) : LN T B (w.setCell ⟨g, j, none⟩ (.float .f32 r)) g (xs.set j r) ∧ w.grownBy (w.setCell ⟨g, j, none⟩ (.float .f32 r)) (some g) := by
  obtain ⟨h1, g1⟩ := h.2.stored j (.float .f32 r)
  exact ⟨⟨by rw [List.length_set]; exact h.1, by rw [List.map_set]; exact h1⟩, g1⟩
theorem LN.heap {T : TypeId} {B g : Nat} {w : World} {xs : List Nat} (h : LN T B w g xs) : w.heap[g]? = some (.cells (xs.map (Value.float .f32)).toArray T) := by
  rcases h.2.2 with ⟨h', _⟩ | ⟨g', cap, cur, h', hb, hg, hnc, hcm, hcs, htake⟩
  · simp at h'
  simp only [Value.slice.injEq, Option.some.injEq, Addr.mk.injEq, and_true, true_and] at h'
  obtain ⟨rfl, rfl⟩ := h'
  rw [hg, ← htake, List.take_of_length_le (by simp; omega)]
theorem LN.new {T : TypeId} {B : Nat} (w : World) (xs : List Nat) (hx : xs.length = 8) (hb : B ≤ w.heap.size) : LN T B (w.alloc (.cells (xs.map (Value.float .f32)).toArray T)) w.heap.size xs :=
  ⟨hx, by simp [hx], .inr ⟨w.heap.size, 8, (xs.map (Value.float .f32)).toArray, rfl, hb, heap_alloc_new w _, by omega, by unfold maxLen; omega, by simp [hx], by rw [List.take_of_length_le (by simp [hx])]⟩⟩
/-- They stand for F. -/
def isL (xs : List Nat) (F : Nat → Nat) : Prop := ∀ j, j < 8 → Is .f32 (xs.getD j 0) (F j)
theorem isL.put {xs : List Nat} {F G : Nat → Nat} {i r X : Nat} (h : isL xs F) (hx : xs.length = 8) (hi : i < 8) (hr : Is .f32 r X) (hG : ∀ j, G j = if j = i then X else F j) : isL (xs.set i r) G := by
  intro j hj
  rw [hG, List.getD_eq_getElem?_getD, List.getElem?_set]
  by_cases e : i = j
  · subst e
    rw [if_pos rfl, if_pos (by omega), if_pos rfl]
    exact hr
  · rw [if_neg e, if_neg (fun h => e h.symm), ← List.getD_eq_getElem?_getD]
    exact h j hj
theorem isL.to {xs : List Nat} {F G : Nat → Nat} (h : isL xs F) (e : ∀ j, j < 8 → G j = F j) : isL xs G := fun j hj => by rw [e j hj]; exact h j hj
theorem isL.get {xs : List Nat} {F : Nat → Nat} (h : isL xs F) {j X : Nat} (hj : j < 8) (e : F j = X) : Is .f32 (xs.getD j 0) X := by rw [← e]; exact h j hj
theorem is_z : Is .f32 0 0 := Is.const (by decide +kernel)

/-! ### the program -/
set_option maxHeartbeats 1000000 in
set_option maxRecDepth 100000 in
theorem iFill_any (v : Value) (xs ys : List Nat) (B g : Nat) (w : World) (hv : FS .f32 w v xs) (hn : xs.length ≤ 256) (hL : LN 177 B w g ys) (hy : isL ys (fun _ => 0)) (hg : ∀ b off c, xs ≠ [] → v = .slice (some ⟨b, off, none⟩) xs.length c → b ≠ g) :
    Calls Try.prog 141 #[.pointer (some ⟨g, 0, none⟩), v, .int .i64 0, .int .i64 1] w fun e w' => e = .returned (.tuple #[]) ∧ w.grownBy w' (some g) ∧ ∃ zs, LN 177 B w' g zs ∧ isL zs (fun j => laneAt xs j xs.length) := by
  obtain ⟨a, cap, rfl, hlc, hcm, hwf, hmem⟩ := hv
  have HL0 := Lib.hid hL; have HY0 := Lib.hid hy
  have HM := Lib.hid (fun W (hW : w.grownBy W (some g)) (i : Nat) (hi : i < xs.length) => show ∃ b off, a = some ⟨b, off, none⟩ ∧ W.cell? ⟨b, off + i, none⟩ = some (.float .f32 (xs.getD i 0)) from by
    rcases hmem with rfl | ⟨b, off, rfl, hb, hc⟩
    · simp at hi
    · refine ⟨b, off, rfl, ?_⟩
      have h1 := hc i hi
      have h2 : b ≠ g := hg b off _ (fun e => by subst e; simp at hi) rfl
      have := hW.block b hb (fun e => h2 (Option.some.inj e))
      unfold World.cell? at h1 ⊢
      rw [this]; exact h1)
  have HWF := Lib.hid hwf
  unfold maxLen at hcm
  clear hmem hwf hL hy hg
  go_enter Try.func141, Try.ntmps141
  go_wp2_with fail
  go_loopw [8] (fun s wr => ∃ l : Nat, l ≤ 8 ∧ s = .int .i64 (l : Int) ∧ Hid (w.grownBy wr (some g)) ∧ ∃ zs, Hid (LN 177 B wr g zs) ∧ Hid (isL zs (fun j => if j < l then laneAt xs j xs.length else 0))) (fun s _ => 8 - (intOf s).toNat)
  case atStart => exact ⟨0, by omega, rfl, Lib.hid (grown_refl _ _), ys, HL0, Lib.hid (HY0.out.to (fun j hj => if_neg (by omega)))⟩
  case round =>
    clear HL0 HY0
    obtain ⟨l, hl, rfl, HG, zs, HL, HY⟩ := hrel
    by_cases hlt : l < 8
    · have hz : (l : Int) < 8 := by omega
      have hz0 : (0 : Int) ≤ (l : Int) := Int.natCast_nonneg _
      go_wp2_with fail
      go_loopw [9] (fun s wr => ∃ i : Nat, i % 8 = l ∧ i < xs.length + 8 ∧ s = .int .i64 (i : Int) ∧ Hid (w.grownBy wr (some g)) ∧ ∃ zs, Hid (LN 177 B wr g zs) ∧ Hid (isL zs (fun j => if j = l then laneAt xs l i else if j < l then laneAt xs j xs.length else 0))) (fun s _ => xs.length + 8 - (intOf s).toNat)
      case atStart =>
        exact ⟨l, Nat.mod_eq_of_lt hlt, by omega, rfl, HG, zs, HL, Lib.hid (HY.out.to (fun j hj => by
          by_cases e : j = l
          · subst e; simp [lane_start xs hj]
          · simp [e]))⟩
      case round =>
        clear HL HY HG
        obtain ⟨i, him, hil, rfl, HG, zs, HL, HY⟩ := hrel
        by_cases hit : i < xs.length
        · have hi0 : (0 : Int) ≤ (i : Int) := Int.natCast_nonneg _
          have hi1 : (i : Int) < (xs.length : Int) := by omega
          obtain ⟨b, off, rfl, cx⟩ := HM.out _ HG.out i hit
          have ix := FS.is HWF.out i hit
          have iy := HY.out.get hlt (if_pos rfl)
          have cy := HL.out.at hlt
          have fy := HL.out.frozen l
          have HS := Lib.hid (lane_step him hit)
          have HPT := Lib.hid (fun (n r : Nat) => (show LN 177 B (wr.drewN n) g zs from HL.out).put hlt r)
          have HCX := Lib.hid (fun W (hW : w.grownBy W (some g)) => show W.cell? ⟨b, off + i, none⟩ = some (.float .f32 (xs.getD i 0)) from by
            obtain ⟨b', off', e, h⟩ := HM.out W hW i hit
            simp only [Option.some.injEq, Addr.mk.injEq, and_true] at e
            obtain ⟨rfl, rfl⟩ := e
            exact h)
          generalize zs.getD l 0 = y at cy iy
          generalize xs.getD i 0 = x at cx ix HS HCX
          generalize cn .f32 x = X at ix HS
          generalize laneAt xs l i = Y at iy HS
          go_wp2_with fail
          refine wp_region_noPanic ?_
          refine wp_region_held_drew (S := fun w' => w'.cell? ⟨b, off + i, none⟩ = some (.float .f32 x)) (by kernel_rfl) cx (fun hHeld => ?_)
          ((refine wpAnyH_take (i := 0) (v := ?_) rfl (by kernel_rfl) (by kernel_rfl) (by kernel_rfl) (fun _ _ _ h => h) (Or.inl ⟨by rfl, ?_⟩) (by assumption) ?_; rotate_left; (· intro w hSw; (try dsimp only at hSw); go_simp; first | done | with_reducible rfl); (try simp only [List.getElem_toArray, List.getElem_cons_zero, List.getElem_cons_succ, Act.put, List.setIfInBounds_toArray, List.set_cons_zero, List.set_cons_succ])); (refine wpAnyH_take (i := 1) (v := ?_) rfl (by kernel_rfl) (by kernel_rfl) (by kernel_rfl) (fun _ _ _ h => h) (Or.inl ⟨by rfl, ?_⟩) (by assumption) ?_; rotate_left; (· intro w hSw; (try dsimp only at hSw); go_simp; first | done | with_reducible rfl); (try simp only [List.getElem_toArray, List.getElem_cons_zero, List.getElem_cons_succ, Act.put, List.setIfInBounds_toArray, List.set_cons_zero, List.set_cons_succ])); (refine wpAnyH_take (i := 2) (v := ?_) rfl (by kernel_rfl) (by kernel_rfl) (by kernel_rfl) (fun _ _ _ h => h) (Or.inl ⟨by rfl, ?_⟩) (by assumption) ?_; rotate_left; (· intro w hSw; (try dsimp only at hSw); go_simp; first | done | with_reducible rfl); (try simp only [List.getElem_toArray, List.getElem_cons_zero, List.getElem_cons_succ, Act.put, List.setIfInBounds_toArray, List.set_cons_zero, List.set_cons_succ])); (refine wpAnyH_take (i := 3) (v := ?_) rfl (by kernel_rfl) (by kernel_rfl) (by kernel_rfl) (fun _ _ _ h => h) (Or.inl ⟨by rfl, ?_⟩) (by assumption) ?_; rotate_left; (· intro w hSw; (try dsimp only at hSw); go_simp; first | done | with_reducible rfl); (try simp only [List.getElem_toArray, List.getElem_cons_zero, List.getElem_cons_succ, Act.put, List.setIfInBounds_toArray, List.set_cons_zero, List.set_cons_succ])); (refine wpAnyH_take (i := 5) (v := ?_) rfl (by kernel_rfl) (by kernel_rfl) (by kernel_rfl) (fun _ _ _ h => h) (Or.inl ⟨by rfl, ?_⟩) (by assumption) ?_; rotate_left; (· intro w hSw; (try dsimp only at hSw); go_simp; first | done | with_reducible rfl); (try simp only [List.getElem_toArray, List.getElem_cons_zero, List.getElem_cons_succ, Act.put, List.setIfInBounds_toArray, List.set_cons_zero, List.set_cons_succ])); (refine wpAnyH_take (i := 6) (v := ?_) rfl (by kernel_rfl) (by kernel_rfl) (by kernel_rfl) (fun _ _ _ h => h) (Or.inl ⟨by rfl, ?_⟩) (by assumption) ?_; rotate_left; (· intro w hSw; (try dsimp only at hSw); go_simp; first | done | with_reducible rfl); (try simp only [List.getElem_toArray, List.getElem_cons_zero, List.getElem_cons_succ, Act.put, List.setIfInBounds_toArray, List.set_cons_zero, List.set_cons_succ])); (refine wpAnyH_take (i := 7) (v := ?_) rfl (by kernel_rfl) (by kernel_rfl) (by kernel_rfl) (fun _ _ _ h => h) (Or.inl ⟨by rfl, ?_⟩) (by assumption) ?_; rotate_left; (· intro w hSw; (try dsimp only at hSw); go_simp; first | done | with_reducible rfl); (try simp only [List.getElem_toArray, List.getElem_cons_zero, List.getElem_cons_succ, Act.put, List.setIfInBounds_toArray, List.set_cons_zero, List.set_cons_succ])); (refine wpAnyH_take (i := 8) (v := ?_) rfl (by kernel_rfl) (by kernel_rfl) (by kernel_rfl) (fun _ _ _ h => h) (Or.inl ⟨by rfl, ?_⟩) (by assumption) ?_; rotate_left; (· intro w hSw; (try dsimp only at hSw); go_simp; first | done | with_reducible rfl); (try simp only [List.getElem_toArray, List.getElem_cons_zero, List.getElem_cons_succ, Act.put, List.setIfInBounds_toArray, List.set_cons_zero, List.set_cons_succ])); (refine wpAnyH_take (i := 10) (v := ?_) rfl (by kernel_rfl) (by kernel_rfl) (by kernel_rfl) (fun _ _ _ h => h) (Or.inl ⟨by rfl, ?_⟩) (by assumption) ?_; rotate_left; (· intro w hSw; (try dsimp only at hSw); go_simp; first | done | with_reducible rfl); (try simp only [List.getElem_toArray, List.getElem_cons_zero, List.getElem_cons_succ, Act.put, List.setIfInBounds_toArray, List.set_cons_zero, List.set_cons_succ])))
          (refine wpAnyH_ready (rs := [4]) (by kernel_rfl) (by simp) ?_; refine AllReadyH.cons (i := 4) rfl (fun K hK => ?_) AllReadyH.nil)
          go_simp
          (refine hK.out _ _ (cx) (fun hHeld => ?_); clear hK K; (try simp only [List.getElem_toArray, List.getElem_cons_zero, List.getElem_cons_succ, Act.put, List.setIfInBounds_toArray, List.set_cons_zero, List.set_cons_succ]))
          (refine wpAnyH_ready (rs := [9]) (by kernel_rfl) (by simp) ?_; refine AllReadyH.cons (i := 9) rfl (fun K hK => ?_) AllReadyH.nil)
          refine hstep_fa rfl .add 32 32 _ _ rfl rfl .f32 y x rfl rfl iy ix ?_
          intro r n hr
          (refine hK.out _ _ (cx) (fun hHeld => ?_); clear hK K; (try simp only [List.getElem_toArray, List.getElem_cons_zero, List.getElem_cons_succ, Act.put, List.setIfInBounds_toArray, List.set_cons_zero, List.set_cons_succ]))
          have PT := HPT.out (1 + n) r
          have HG5 := Lib.hid (grown_trans (grown_trans HG.out (grown_below (row := some g) (below_drewN (Below.refl wr.heap.size wr) (1 + n)))) PT.2)
          have HL5 := Lib.hid PT.1
          have cx5 := HCX.out _ HG5.out
          have HY5 := Lib.hid (isL.put (G := fun j => if j = l then laneAt xs l (i + 8) else if j < l then laneAt xs j xs.length else 0) HY.out HL.out.1 hlt hr (fun j => by
            rw [HS.out]
            by_cases e : j = l
            · rw [if_pos e, if_pos e]
            · rw [if_neg e, if_neg e, if_neg e]))
          clear PT
          ((refine wpAnyH_take (i := 11) (v := ?_) rfl (by kernel_rfl) (by kernel_rfl) (by kernel_rfl) (fun _ _ _ h => h) (Or.inl ⟨by rfl, ?_⟩) (by assumption) ?_; rotate_left; (· intro w hSw; (try dsimp only at hSw); go_simp; first | done | with_reducible rfl); (try simp only [List.getElem_toArray, List.getElem_cons_zero, List.getElem_cons_succ, Act.put, List.setIfInBounds_toArray, List.set_cons_zero, List.set_cons_succ])))
          (refine wpAnyH_ready (rs := [12]) (by kernel_rfl) (by simp) ?_; refine AllReadyH.cons (i := 12) rfl (fun K hK => ?_) AllReadyH.nil)
          go_simp
          (refine hK.out _ _ (cx5) (fun hHeld => ?_); clear hK K; (try simp only [List.getElem_toArray, List.getElem_cons_zero, List.getElem_cons_succ, Act.put, List.setIfInBounds_toArray, List.set_cons_zero, List.set_cons_succ]))
          (refine wpAnyH_done (by kernel_rfl) ?_ _; refine NoPanic.normal ?_)
          clear hHeld cx cx5 cy fy iy ix hr
          go_wp2_with fail
          go_roundw
          case rel => exact ⟨i + 8, by omega, by omega, by go_num, HG5, _, HL5, HY5⟩
          case measure => simp [intOf]; omega
        · have hge : ¬ ((i : Int) < (xs.length : Int)) := by omega
          go_wp2_with fail
          go_roundw
          case rel => exact ⟨l + 1, by omega, by go_num, HG, zs, HL, Lib.hid (HY.out.to (fun j hj => by
            by_cases e : j = l
            · subst e
              rw [if_pos (by omega), if_pos rfl]
              exact (lane_end (by omega)).symm
            · rw [if_neg e]
              by_cases e2 : j < l
              · rw [if_pos e2, if_pos (by omega)]
              · rw [if_neg e2, if_neg (by omega)]))⟩
          case measure => simp [intOf]; omega
    · obtain rfl : l = 8 := by omega
      clear hlt
      go_wp2_with fail
      go_end0
      exact ⟨rfl, HG.out, zs, HL.out, HY.out.to (fun j hj => (if_pos hj).symm)⟩

theorem half_int (h : Nat) : (h : Int) / 2 = ((h / 2 : Nat) : Int) := by omega
theorem half_tdiv (h : Nat) : Int.tdiv (h : Int) 2 = ((h / 2 : Nat) : Int) := by rw [Int.tdiv_eq_ediv_of_nonneg (by omega)]; omega

set_option maxHeartbeats 1000000 in
set_option maxRecDepth 100000 in
theorem iFold_any (ys : List Nat) (F : Nat → Nat) (w : World) (hl : ys.length = 8) (hy : isL ys F) :
    Calls Try.prog 142 #[.agg (ys.map (Value.float .f32)).toArray] w fun e w' => (∃ r, e = .returned (.float .f32 r) ∧ Is .f32 r (foldL F 0 0)) ∧ Below w.heap.size w w' := by
  have HB0 := Lib.hid ((Below.refl w.heap.size w).alloc (Nat.le_refl _) (.cells (ys.map (Value.float .f32)).toArray 177))
  have HL0 := Lib.hid (LN.new (T := 177) w ys hl (Nat.le_refl _))
  have HY0 := Lib.hid hy
  clear hy hl
  go_enter Try.func142, Try.ntmps142
  go_wp2_with fail
  generalize w.alloc (.cells (ys.map (Value.float .f32)).toArray 177) = v1 at HB0 HL0 ⊢
  go_loopw [3] (fun s wr => ∃ h : Nat, (h = 4 ∨ h = 2 ∨ h = 1 ∨ h = 0) ∧ s = .int .i64 (h : Int) ∧ Hid (Below w.heap.size w wr) ∧ ∃ zs, Hid (LN 177 w.heap.size wr w.heap.size zs) ∧ Hid (isL zs (foldL F h))) (fun s _ => (intOf s).toNat)
  case atStart => exact ⟨4, .inl rfl, rfl, HB0, ys, HL0, HY0⟩
  case round =>
    clear HB0 HL0 HY0
    obtain ⟨h, hh, rfl, HB, zs, HL, HY⟩ := hrel
    by_cases h0 : h = 0
    · subst h0
      have c0 := HL.out.at (show 0 < 8 by omega)
      have i0 := HY.out 0 (by omega)
      generalize zs.getD 0 0 = z at c0 i0
      go_wp2_with fail
      go_ret
      exact ⟨⟨_, rfl, i0⟩, HB.out⟩
    · have hh' : h = 4 ∨ h = 2 ∨ h = 1 := by omega
      have hp : 0 < h := by omega
      have h4 : h ≤ 4 := by omega
      have HH := Lib.hid hh'
      clear hh h0 hh'
      go_wp2_with fail
      go_loopw [10] (fun s wr => ∃ k : Nat, k ≤ h ∧ s = .int .i64 (k : Int) ∧ Hid (Below w.heap.size w wr) ∧ ∃ zs, Hid (LN 177 w.heap.size wr w.heap.size zs) ∧ Hid (isL zs (addH (foldL F h) h k))) (fun s _ => h - (intOf s).toNat)
      case atStart => exact ⟨0, Nat.zero_le _, rfl, HB, zs, HL, Lib.hid (HY.out.to (fun j hj => if_neg (by omega)))⟩
      case round =>
        clear HB HL HY
        obtain ⟨k, hk, rfl, HB, zs, HL, HY⟩ := hrel
        by_cases hlt : k < h
        · have hz : (k : Int) < (h : Int) := by omega
          have hz0 : (0 : Int) ≤ (k : Int) := Int.natCast_nonneg _
          have hz8 : (k : Int) < 8 := by omega
          have hw1 : IntKind.i64.wrap ((k : Int) + (h : Int)) = (k : Int) + (h : Int) := by rw [IntKind.wrap_i64]; omega
          have hw2 : (k : Int) + (h : Int) < 8 := by omega
          have hw3 : (0 : Int) ≤ (k : Int) + (h : Int) := by omega
          have hw4 : ((k : Int) + (h : Int)).toNat = k + h := by omega
          have cy := HL.out.at (show k < 8 by omega)
          have cx := HL.out.at (show k + h < 8 by omega)
          have fy := HL.out.frozen k
          have iy := HY.out k (by omega)
          have ix := HY.out (k + h) (by omega)
          have HS := Lib.hid (addH_next (foldL F h) hlt)
          have HPT := Lib.hid (fun (n r : Nat) => (show LN 177 w.heap.size (wr.drewN n) w.heap.size zs from HL.out).put (show k < 8 by omega) r)
          have HX := Lib.hid (fun (n r : Nat) => show ((wr.drewN n).setCell ⟨w.heap.size, k, none⟩ (.float .f32 r)).cell? ⟨w.heap.size, k + h, none⟩ = some (.float .f32 (zs.getD (k + h) 0)) from by
            rw [((show LN 177 w.heap.size (wr.drewN n) w.heap.size zs from HL.out).put (show k < 8 by omega) r).1.at (show k + h < 8 by omega), List.getD_eq_getElem?_getD, List.getElem?_set, if_neg (by omega), ← List.getD_eq_getElem?_getD])
          generalize zs.getD k 0 = y at cy iy
          generalize zs.getD (k + h) 0 = x at cx ix HX
          generalize addH (foldL F h) h k k = Y at iy HS
          generalize addH (foldL F h) h k (k + h) = X at ix HS
          go_wp2_with fail
          refine wp_region_noPanic ?_
          refine wp_region_held_drew (S := fun w' => w'.cell? ⟨w.heap.size, k + h, none⟩ = some (.float .f32 x)) (by kernel_rfl) cx (fun hHeld => ?_)
          ((refine wpAnyH_take (i := 0) (v := ?_) rfl (by kernel_rfl) (by kernel_rfl) (by kernel_rfl) (fun _ _ _ h => h) (Or.inl ⟨by rfl, ?_⟩) (by assumption) ?_; rotate_left; (· intro w hSw; (try dsimp only at hSw); go_simp; first | done | with_reducible rfl); (try simp only [List.getElem_toArray, List.getElem_cons_zero, List.getElem_cons_succ, Act.put, List.setIfInBounds_toArray, List.set_cons_zero, List.set_cons_succ])); (refine wpAnyH_take (i := 1) (v := ?_) rfl (by kernel_rfl) (by kernel_rfl) (by kernel_rfl) (fun _ _ _ h => h) (Or.inl ⟨by rfl, ?_⟩) (by assumption) ?_; rotate_left; (· intro w hSw; (try dsimp only at hSw); go_simp; first | done | with_reducible rfl); (try simp only [List.getElem_toArray, List.getElem_cons_zero, List.getElem_cons_succ, Act.put, List.setIfInBounds_toArray, List.set_cons_zero, List.set_cons_succ])); (refine wpAnyH_take (i := 3) (v := ?_) rfl (by kernel_rfl) (by kernel_rfl) (by kernel_rfl) (fun _ _ _ h => h) (Or.inl ⟨by rfl, ?_⟩) (by assumption) ?_; rotate_left; (· intro w hSw; (try dsimp only at hSw); go_simp; first | done | with_reducible rfl); (try simp only [List.getElem_toArray, List.getElem_cons_zero, List.getElem_cons_succ, Act.put, List.setIfInBounds_toArray, List.set_cons_zero, List.set_cons_succ])); (refine wpAnyH_take (i := 4) (v := ?_) rfl (by kernel_rfl) (by kernel_rfl) (by kernel_rfl) (fun _ _ _ h => h) (Or.inl ⟨by rfl, ?_⟩) (by assumption) ?_; rotate_left; (· intro w hSw; (try dsimp only at hSw); go_simp; first | done | with_reducible rfl); (try simp only [List.getElem_toArray, List.getElem_cons_zero, List.getElem_cons_succ, Act.put, List.setIfInBounds_toArray, List.set_cons_zero, List.set_cons_succ])); (refine wpAnyH_take (i := 5) (v := ?_) rfl (by kernel_rfl) (by kernel_rfl) (by kernel_rfl) (fun _ _ _ h => h) (Or.inl ⟨by rfl, ?_⟩) (by assumption) ?_; rotate_left; (· intro w hSw; (try dsimp only at hSw); go_simp; first | done | with_reducible rfl); (try simp only [List.getElem_toArray, List.getElem_cons_zero, List.getElem_cons_succ, Act.put, List.setIfInBounds_toArray, List.set_cons_zero, List.set_cons_succ])); (refine wpAnyH_take (i := 6) (v := ?_) rfl (by kernel_rfl) (by kernel_rfl) (by kernel_rfl) (fun _ _ _ h => h) (Or.inl ⟨by rfl, ?_⟩) (by assumption) ?_; rotate_left; (· intro w hSw; (try dsimp only at hSw); go_simp; first | done | with_reducible rfl); (try simp only [List.getElem_toArray, List.getElem_cons_zero, List.getElem_cons_succ, Act.put, List.setIfInBounds_toArray, List.set_cons_zero, List.set_cons_succ])); (refine wpAnyH_take (i := 7) (v := ?_) rfl (by kernel_rfl) (by kernel_rfl) (by kernel_rfl) (fun _ _ _ h => h) (Or.inl ⟨by rfl, ?_⟩) (by assumption) ?_; rotate_left; (· intro w hSw; (try dsimp only at hSw); go_simp; first | done | with_reducible rfl); (try simp only [List.getElem_toArray, List.getElem_cons_zero, List.getElem_cons_succ, Act.put, List.setIfInBounds_toArray, List.set_cons_zero, List.set_cons_succ])))
          (refine wpAnyH_ready (rs := [2]) (by kernel_rfl) (by simp) ?_; refine AllReadyH.cons (i := 2) rfl (fun K hK => ?_) AllReadyH.nil)
          go_simp
          (refine hK.out _ _ (cx) (fun hHeld => ?_); clear hK K; (try simp only [List.getElem_toArray, List.getElem_cons_zero, List.getElem_cons_succ, Act.put, List.setIfInBounds_toArray, List.set_cons_zero, List.set_cons_succ]))
          (refine wpAnyH_ready (rs := [8]) (by kernel_rfl) (by simp) ?_; refine AllReadyH.cons (i := 8) rfl (fun K hK => ?_) AllReadyH.nil)
          refine hstep_fa rfl .add 32 32 _ _ rfl rfl .f32 y x rfl rfl iy ix ?_
          intro r n hr
          (refine hK.out _ _ (cx) (fun hHeld => ?_); clear hK K; (try simp only [List.getElem_toArray, List.getElem_cons_zero, List.getElem_cons_succ, Act.put, List.setIfInBounds_toArray, List.set_cons_zero, List.set_cons_succ]))
          have PT := HPT.out (1 + n) r
          have HB5 := Lib.hid ((below_drewN HB.out (1 + n)).setCell (p := ⟨w.heap.size, k, none⟩) (Nat.le_refl _) (.float .f32 r))
          have HL5 := Lib.hid PT.1
          have cx5 := HX.out (1 + n) r
          have HY5 := Lib.hid (isL.put (G := addH (foldL F h) h (k + 1)) HY.out HL.out.1 (show k < 8 by omega) hr (fun j => HS.out j))
          clear PT
          ((refine wpAnyH_take (i := 9) (v := ?_) rfl (by kernel_rfl) (by kernel_rfl) (by kernel_rfl) (fun _ _ _ h => h) (Or.inl ⟨by rfl, ?_⟩) (by assumption) ?_; rotate_left; (· intro w hSw; (try dsimp only at hSw); go_simp; first | done | with_reducible rfl); (try simp only [List.getElem_toArray, List.getElem_cons_zero, List.getElem_cons_succ, Act.put, List.setIfInBounds_toArray, List.set_cons_zero, List.set_cons_succ])))
          (refine wpAnyH_ready (rs := [10]) (by kernel_rfl) (by simp) ?_; refine AllReadyH.cons (i := 10) rfl (fun K hK => ?_) AllReadyH.nil)
          go_simp
          (refine hK.out _ _ (cx5) (fun hHeld => ?_); clear hK K; (try simp only [List.getElem_toArray, List.getElem_cons_zero, List.getElem_cons_succ, Act.put, List.setIfInBounds_toArray, List.set_cons_zero, List.set_cons_succ]))
          (refine wpAnyH_done (by kernel_rfl) ?_ _; refine NoPanic.normal ?_)
          clear hHeld cx cx5 cy fy iy ix hr hw1 hw2 hw3 hw4
          go_wp2_with fail
          go_roundw
          case rel => exact ⟨k + 1, by omega, by go_num, HB5, _, HL5, HY5⟩
          case measure => simp [intOf]; omega
        · obtain rfl : k = h := by omega
          clear hlt
          have hw : wrap64 ((k : Int) / 2) = (k : Int) / 2 := by unfold wrap64; omega
          go_wp2_with fail
          go_roundw
          case rel => exact ⟨k / 2, by omega, by first | rfl | (congr 1; omega), HB, zs, HL, Lib.hid (by rw [← foldL_half F HH.out]; exact HY.out)⟩
          case measure => simp [intOf]; omega

theorem below_own {B g : Nat} {w0 w w' : World} (h : Below B w0 w) (hB : B ≤ w.heap.size) (hg : B ≤ g) (k : w.grownBy w' (some g)) : Below B w0 w' :=
  h.trans ⟨k.os, k.tape, k.output, k.size, fun i hi => k.block i (Nat.lt_of_lt_of_le hi hB) (by simp; omega)⟩
theorem zero8 : (#[.float .f32 0, .float .f32 0, .float .f32 0, .float .f32 0, .float .f32 0, .float .f32 0, .float .f32 0, .float .f32 0] : Array Value) = ((List.replicate 8 0).map (Value.float .f32)).toArray := rfl
theorem info_lanes {zs : List Nat} (h : zs.length = 8) : (Try.prog.info? 177).map (·.size) = some (zs.map (Value.float .f32)).toArray.size := by
  have : (Try.prog.info? 177).map (·.size) = some 8 := by kernel_rfl
  rw [this]; simp [h]
theorem isL_zero : isL (List.replicate 8 0) (fun _ => 0) := fun j hj => by
  rw [List.getD_eq_getElem?_getD, List.getElem?_replicate, if_pos hj]
  exact is_z
/-- The sum in lanes. -/
def laneF (xs : List Nat) : Nat := foldL (fun j => laneAt xs j xs.length) 0 0

set_option maxHeartbeats 1000000 in
set_option maxRecDepth 100000 in
theorem iLaneSum_yes (v : Value) (xs : List Nat) (w : World) (hv : FS .f32 w v xs) (hn : xs.length ≤ 256) : Calls Try.prog 65 #[v] w fun e w' => (∃ r, e = .returned (.tuple #[.float .f32 r, .bool true]) ∧ Is .f32 r (laneF xs)) ∧ Below w.heap.size w w' := by
  have hv' := hv
  obtain ⟨a, cap, rfl, hlc, hcm, hwf, hmem⟩ := hv
  have hd : ¬ ((256 : Int) < (xs.length : Int)) := by omega
  have HB0 := Lib.hid ((Below.refl w.heap.size w).alloc (Nat.le_refl _) (.cells ((List.replicate 8 0).map (Value.float .f32)).toArray 177))
  have HL0 := Lib.hid (LN.new (T := 177) w (List.replicate 8 0) (by simp) (Nat.le_refl _))
  have HV := Lib.hid (hv'.below HB0.out)
  have HNE := Lib.hid (show ∀ b off c, xs ≠ [] → Value.slice a xs.length cap = .slice (some ⟨b, off, none⟩) xs.length c → b ≠ w.heap.size from fun b off c hx e => by
    simp only [Value.slice.injEq] at e
    rcases hmem with rfl | ⟨b', off', rfl, hb, _⟩
    · exact absurd rfl hx
    · have := e.1
      simp only [Option.some.injEq, Addr.mk.injEq, and_true] at this
      omega)
  clear hmem hv' hwf
  go_enter Try.func65, Try.ntmps65
  go_wp2_with fail
  rw [zero8]
  generalize w.alloc (.cells ((List.replicate 8 0).map (Value.float .f32)).toArray 177) = v1 at HB0 HL0 HV ⊢
  refine (iFill_any _ xs _ w.heap.size w.heap.size _ HV.out hn HL0.out isL_zero HNE.out).mono ?_
  rintro e v2 ⟨rfl, hg, zs, hl, hz⟩
  have HG := Lib.hid (below_own HB0.out HB0.out.size (Nat.le_refl _) hg)
  have HL := Lib.hid hl; have HZ := Lib.hid hz
  clear hg hl hz
  go_wp2_with ((with_reducible show wpList _ _ _ (Oper.mk (some 10) _ _ _ _ _ :: _) _ _); refine wpList_load_row rfl 177 _ rfl w.heap.size rfl 177 (zs.map (Value.float .f32)).toArray (0, 0) _ HL.out.heap Try.underlying177 rfl (info_lanes HL.out.1) ?_)
  refine (iFold_any zs _ _ HL.out.1 HZ.out).mono ?_
  rintro e v3 ⟨⟨r, rfl, hr⟩, hb3⟩
  have HB := Lib.hid (HG.out.trans (hb3.mono HG.out.size))
  clear hb3
  go_wp2_with fail
  go_ret2
  exact ⟨⟨_, rfl, hr⟩, HB.out⟩

theorem iLaneSum_no (v : Value) (xs : List Nat) (w : World) (hv : FS .f32 w v xs) (hn : 256 < xs.length) : Calls Try.prog 65 #[v] w fun e w' => e = .returned (.tuple #[.float .f32 0, .bool false]) ∧ w = w' := by
  obtain ⟨a, cap, rfl, hlc, hcm, hwf, hmem⟩ := hv
  have hd : (256 : Int) < (xs.length : Int) := by omega
  unfold maxLen at hcm
  clear hmem
  go_enter Try.func65, Try.ntmps65
  go_wp2
  go_ret2
  exact ⟨rfl, rfl⟩

/-! ### the model -/
set_option maxHeartbeats 2000000 in
set_option maxRecDepth 100000 in
theorem sSum8_any (v : Value) (xs : List Nat) (w : World) (hv : FS .f32 w v xs) (hn : xs.length ≤ 256) :
    Calls Try.prog 140 #[v] w fun e w' => (∃ r, e = .returned (.float .f32 r) ∧ Is .f32 r (laneF xs)) ∧ Below w.heap.size w w' := by
  have hv' := hv
  obtain ⟨a, cap, rfl, hlc, hcm, hwf, hmem⟩ := hv
  obtain ⟨ti, hi, hz0, hz1, hz2⟩ := info_parts F32info
  have hb4 : ti.bytes * 8 ≤ 281474976710656 := by rw [hz2]; omega
  have hml : 8 ≤ maxLen := by unfold maxLen; omega
  have HI := Lib.hid hi; have HZ0 := Lib.hid hz0; have HZ1 := Lib.hid hz1
  have HV := Lib.hid hv'; have HWF := Lib.hid hwf
  unfold maxLen at hcm
  clear hmem hv' hwf hi hz0 hz1 hz2
  go_enter Try.func140, Try.ntmps140
  go_wp2_with (at_make; refine wpList_make_full _ rfl _ _ 29 rfl w.heap.size 32 ti (.float .f32 0) 1 Try.underlying29 HI.out HZ0.out HZ1.out _ _ _ _ 8 rfl rfl rfl rfl hb4 hml (Nat.le_refl _) ?_; intro v5 hown hgrow)
  rw [show (madeCells (Value.float .f32 0).cells (8 * 1)).toList = (List.replicate 8 0).map (Value.float .f32) by rw [List.map_replicate]; exact toList_madeCells_one _ _] at hown
  have HL0 := Lib.hid (show LN 32 w.heap.size v5 w.heap.size (List.replicate 8 0) from ⟨by simp, hown⟩)
  have HB0 := Lib.hid ((Below.refl w.heap.size w).grown hgrow (Nat.le_refl _) (fun k h => by cases h))
  clear hown hgrow hb4 hml HI HZ0 HZ1
  go_loopw [10] (fun s wr => ∃ i : Nat, i ≤ xs.length ∧ s = .int .i64 (i : Int) ∧ Hid (Below w.heap.size w wr) ∧ ∃ zs, Hid (LN 32 w.heap.size wr w.heap.size zs) ∧ Hid (isL zs (fun j => laneAt xs j i))) (fun s _ => xs.length - (intOf s).toNat)
  case atStart => exact ⟨0, Nat.zero_le _, rfl, HB0, _, HL0, Lib.hid (isL_zero.to (fun j hj => rfl))⟩
  case round =>
    clear HB0 HL0
    obtain ⟨i, hil, rfl, HB, zs, HL, HY⟩ := hrel
    by_cases hit : i < xs.length
    · have hi0 : (0 : Int) ≤ (i : Int) := Int.natCast_nonneg _
      have hi1 : (i : Int) < (xs.length : Int) := by omega
      have hte : (i : Int).tmod 8 = (i : Int) % 8 := Int.tmod_eq_emod_of_nonneg (by omega)
      have hr0 : (0 : Int) ≤ (i : Int).tmod 8 := by omega
      have hr1 : (i : Int).tmod 8 < 8 := by omega
      have hr2 : ((i : Int).tmod 8).toNat = i % 8 := by omega
      clear hte
      have hm8 : i % 8 < 8 := Nat.mod_lt _ (by decide)
      obtain ⟨a', cap', he, _, _, _, hmem⟩ := HV.out
      simp only [Value.slice.injEq] at he
      obtain ⟨rfl, _, rfl⟩ := he
      rcases hmem with hmem | ⟨b, off, rfl, hb, hc⟩
      · rw [hmem] at hit; simp at hit
      have hci := hc i hit
      have ix := FS.is HWF.out i hit
      have iy := HY.out (i % 8) hm8
      have cx : wr.cell? ⟨b, off + i, none⟩ = some (.float .f32 (xs.getD i 0)) := by rw [HB.out.cell (p := ⟨b, off + i, none⟩) hb]; exact hci
      have cy := HL.out.at hm8
      have fy := HL.out.frozen (i % 8)
      have HS := Lib.hid (lane_next hit)
      have HPT := Lib.hid (fun (n r : Nat) => (show LN 32 w.heap.size (wr.drewN n) w.heap.size zs from HL.out).put hm8 r)
      have HCX := Lib.hid (fun W (hW : Below w.heap.size w W) => show W.cell? ⟨b, off + i, none⟩ = some (.float .f32 (xs.getD i 0)) from by rw [hW.cell (p := ⟨b, off + i, none⟩) hb]; exact hci)
      have hbw : b < w.heap.size := hb
      clear hc hci hb
      generalize zs.getD (i % 8) 0 = y at cy iy
      generalize xs.getD i 0 = x at cx ix HS HCX
      generalize cn .f32 x = X at ix HS
      dsimp only at iy
      generalize laneAt xs (i % 8) i = Y at iy HS
      go_wp2_with fail
      refine wp_region_noPanic ?_
      refine wp_region_held_drew (S := fun w' => w'.cell? ⟨b, off + i, none⟩ = some (.float .f32 x)) (by kernel_rfl) cx (fun hHeld => ?_)
      ((refine wpAnyH_take (i := 0) (v := ?_) rfl (by kernel_rfl) (by kernel_rfl) (by kernel_rfl) (fun _ _ _ h => h) (Or.inl ⟨by rfl, ?_⟩) (by assumption) ?_; rotate_left; (· intro w hSw; (try dsimp only at hSw); go_simp; first | done | with_reducible rfl); (try simp only [List.getElem_toArray, List.getElem_cons_zero, List.getElem_cons_succ, Act.put, List.setIfInBounds_toArray, List.set_cons_zero, List.set_cons_succ])); (refine wpAnyH_take (i := 1) (v := ?_) rfl (by kernel_rfl) (by kernel_rfl) (by kernel_rfl) (fun _ _ _ h => h) (Or.inl ⟨by rfl, ?_⟩) (by assumption) ?_; rotate_left; (· intro w hSw; (try dsimp only at hSw); go_simp; first | done | with_reducible rfl); (try simp only [List.getElem_toArray, List.getElem_cons_zero, List.getElem_cons_succ, Act.put, List.setIfInBounds_toArray, List.set_cons_zero, List.set_cons_succ])); (refine wpAnyH_take (i := 2) (v := ?_) rfl (by kernel_rfl) (by kernel_rfl) (by kernel_rfl) (fun _ _ _ h => h) (Or.inl ⟨by rfl, ?_⟩) (by assumption) ?_; rotate_left; (· intro w hSw; (try dsimp only at hSw); go_simp; first | done | with_reducible rfl); (try simp only [List.getElem_toArray, List.getElem_cons_zero, List.getElem_cons_succ, Act.put, List.setIfInBounds_toArray, List.set_cons_zero, List.set_cons_succ])); (refine wpAnyH_take (i := 3) (v := ?_) rfl (by kernel_rfl) (by kernel_rfl) (by kernel_rfl) (fun _ _ _ h => h) (Or.inl ⟨by rfl, ?_⟩) (by assumption) ?_; rotate_left; (· intro w hSw; (try dsimp only at hSw); go_simp; first | done | with_reducible rfl); (try simp only [List.getElem_toArray, List.getElem_cons_zero, List.getElem_cons_succ, Act.put, List.setIfInBounds_toArray, List.set_cons_zero, List.set_cons_succ])); (refine wpAnyH_take (i := 5) (v := ?_) rfl (by kernel_rfl) (by kernel_rfl) (by kernel_rfl) (fun _ _ _ h => h) (Or.inl ⟨by rfl, ?_⟩) (by assumption) ?_; rotate_left; (· intro w hSw; (try dsimp only at hSw); go_simp; first | done | with_reducible rfl); (try simp only [List.getElem_toArray, List.getElem_cons_zero, List.getElem_cons_succ, Act.put, List.setIfInBounds_toArray, List.set_cons_zero, List.set_cons_succ])); (refine wpAnyH_take (i := 6) (v := ?_) rfl (by kernel_rfl) (by kernel_rfl) (by kernel_rfl) (fun _ _ _ h => h) (Or.inl ⟨by rfl, ?_⟩) (by assumption) ?_; rotate_left; (· intro w hSw; (try dsimp only at hSw); go_simp; first | done | with_reducible rfl); (try simp only [List.getElem_toArray, List.getElem_cons_zero, List.getElem_cons_succ, Act.put, List.setIfInBounds_toArray, List.set_cons_zero, List.set_cons_succ])); (refine wpAnyH_take (i := 7) (v := ?_) rfl (by kernel_rfl) (by kernel_rfl) (by kernel_rfl) (fun _ _ _ h => h) (Or.inl ⟨by rfl, ?_⟩) (by assumption) ?_; rotate_left; (· intro w hSw; (try dsimp only at hSw); go_simp; first | done | with_reducible rfl); (try simp only [List.getElem_toArray, List.getElem_cons_zero, List.getElem_cons_succ, Act.put, List.setIfInBounds_toArray, List.set_cons_zero, List.set_cons_succ])); (refine wpAnyH_take (i := 8) (v := ?_) rfl (by kernel_rfl) (by kernel_rfl) (by kernel_rfl) (fun _ _ _ h => h) (Or.inl ⟨by rfl, ?_⟩) (by assumption) ?_; rotate_left; (· intro w hSw; (try dsimp only at hSw); go_simp; first | done | with_reducible rfl); (try simp only [List.getElem_toArray, List.getElem_cons_zero, List.getElem_cons_succ, Act.put, List.setIfInBounds_toArray, List.set_cons_zero, List.set_cons_succ])))
      (refine wpAnyH_ready (rs := [4]) (by kernel_rfl) (by simp) ?_; refine AllReadyH.cons (i := 4) rfl (fun K hK => ?_) AllReadyH.nil)
      go_simp
      (refine hK.out _ _ (cx) (fun hHeld => ?_); clear hK K; (try simp only [List.getElem_toArray, List.getElem_cons_zero, List.getElem_cons_succ, Act.put, List.setIfInBounds_toArray, List.set_cons_zero, List.set_cons_succ]))
      (refine wpAnyH_ready (rs := [9]) (by kernel_rfl) (by simp) ?_; refine AllReadyH.cons (i := 9) rfl (fun K hK => ?_) AllReadyH.nil)
      refine hstep_fa rfl .add 32 32 _ _ rfl rfl .f32 y x rfl rfl iy ix ?_
      intro r n hr
      (refine hK.out _ _ (cx) (fun hHeld => ?_); clear hK K; (try simp only [List.getElem_toArray, List.getElem_cons_zero, List.getElem_cons_succ, Act.put, List.setIfInBounds_toArray, List.set_cons_zero, List.set_cons_succ]))
      have PT := HPT.out (1 + n) r
      have HB5 := Lib.hid ((below_drewN HB.out (1 + n)).setCell (p := ⟨w.heap.size, i % 8, none⟩) (Nat.le_refl _) (.float .f32 r))
      have HL5 := Lib.hid PT.1
      have cx5 := HCX.out _ HB5.out
      have HY5 := Lib.hid (isL.put (G := fun j => laneAt xs j (i + 1)) HY.out HL.out.1 hm8 hr (fun j => HS.out j))
      clear PT
      ((refine wpAnyH_take (i := 10) (v := ?_) rfl (by kernel_rfl) (by kernel_rfl) (by kernel_rfl) (fun _ _ _ h => h) (Or.inl ⟨by rfl, ?_⟩) (by assumption) ?_; rotate_left; (· intro w hSw; (try dsimp only at hSw); go_simp; first | done | with_reducible rfl); (try simp only [List.getElem_toArray, List.getElem_cons_zero, List.getElem_cons_succ, Act.put, List.setIfInBounds_toArray, List.set_cons_zero, List.set_cons_succ])))
      (refine wpAnyH_ready (rs := [11]) (by kernel_rfl) (by simp) ?_; refine AllReadyH.cons (i := 11) rfl (fun K hK => ?_) AllReadyH.nil)
      go_simp
      (refine hK.out _ _ (cx5) (fun hHeld => ?_); clear hK K; (try simp only [List.getElem_toArray, List.getElem_cons_zero, List.getElem_cons_succ, Act.put, List.setIfInBounds_toArray, List.set_cons_zero, List.set_cons_succ]))
      (refine wpAnyH_done (by kernel_rfl) ?_ _; refine NoPanic.normal ?_)
      clear hHeld cx cx5 cy fy iy ix hr hr0 hr1 hr2
      go_wp2_with fail
      go_roundw
      case rel => exact ⟨i + 1, by omega, by go_num, HB5, _, HL5, HY5⟩
      case measure => simp [intOf]; omega
    · obtain rfl : i = xs.length := by omega
      clear hit
      go_wp2_with fail
      go_loopw [5] (fun s wr => ∃ h : Nat, (h = 4 ∨ h = 2 ∨ h = 1 ∨ h = 0) ∧ s = .int .i64 (h : Int) ∧ Hid (Below w.heap.size w wr) ∧ ∃ zs, Hid (LN 32 w.heap.size wr w.heap.size zs) ∧ Hid (isL zs (foldL (fun j => laneAt xs j xs.length) h))) (fun s _ => (intOf s).toNat)
      case atStart => exact ⟨4, .inl rfl, rfl, HB, zs, HL, HY⟩
      case round =>
        clear HB HL HY
        obtain ⟨h, hh, rfl, HB, zs, HL, HY⟩ := hrel
        by_cases h0 : h = 0
        · subst h0
          have c0 := HL.out.at (show 0 < 8 by omega)
          have i0 := HY.out 0 (by omega)
          generalize zs.getD 0 0 = z at c0 i0
          go_wp2_with fail
          go_ret
          exact ⟨⟨_, rfl, i0⟩, HB.out⟩
        · have hh' : h = 4 ∨ h = 2 ∨ h = 1 := by omega
          have hp : 0 < h := by omega
          have h4 : h ≤ 4 := by omega
          have HH := Lib.hid hh'
          clear hh h0 hh'
          go_wp2_with fail
          go_loopw [6] (fun s wr => ∃ k : Nat, k ≤ h ∧ s = .int .i64 (k : Int) ∧ Hid (Below w.heap.size w wr) ∧ ∃ zs, Hid (LN 32 w.heap.size wr w.heap.size zs) ∧ Hid (isL zs (addH (foldL (fun j => laneAt xs j xs.length) h) h k))) (fun s _ => h - (intOf s).toNat)
          case atStart => exact ⟨0, Nat.zero_le _, rfl, HB, zs, HL, Lib.hid (HY.out.to (fun j hj => if_neg (by omega)))⟩
          case round =>
            clear HB HL HY
            obtain ⟨k, hk, rfl, HB, zs, HL, HY⟩ := hrel
            by_cases hlt : k < h
            · have hz : (k : Int) < (h : Int) := by omega
              have hz0 : (0 : Int) ≤ (k : Int) := Int.natCast_nonneg _
              have hz8 : (k : Int) < 8 := by omega
              have hw1 : IntKind.i64.wrap ((k : Int) + (h : Int)) = (k : Int) + (h : Int) := by rw [IntKind.wrap_i64]; omega
              have hw2 : (k : Int) + (h : Int) < 8 := by omega
              have hw3 : (0 : Int) ≤ (k : Int) + (h : Int) := by omega
              have hw4 : ((k : Int) + (h : Int)).toNat = k + h := by omega
              have cy := HL.out.at (show k < 8 by omega)
              have cx := HL.out.at (show k + h < 8 by omega)
              have fy := HL.out.frozen k
              have iy := HY.out k (by omega)
              have ix := HY.out (k + h) (by omega)
              have HS := Lib.hid (addH_next (foldL (fun j => laneAt xs j xs.length) h) hlt)
              have HPT := Lib.hid (fun (n r : Nat) => (show LN 32 w.heap.size (wr.drewN n) w.heap.size zs from HL.out).put (show k < 8 by omega) r)
              have HX := Lib.hid (fun (n r : Nat) => show ((wr.drewN n).setCell ⟨w.heap.size, k, none⟩ (.float .f32 r)).cell? ⟨w.heap.size, k + h, none⟩ = some (.float .f32 (zs.getD (k + h) 0)) from by
                rw [((show LN 32 w.heap.size (wr.drewN n) w.heap.size zs from HL.out).put (show k < 8 by omega) r).1.at (show k + h < 8 by omega), List.getD_eq_getElem?_getD, List.getElem?_set, if_neg (by omega), ← List.getD_eq_getElem?_getD])
              generalize zs.getD k 0 = y at cy iy
              generalize zs.getD (k + h) 0 = x at cx ix HX
              generalize addH (foldL (fun j => laneAt xs j xs.length) h) h k k = Y at iy HS
              generalize addH (foldL (fun j => laneAt xs j xs.length) h) h k (k + h) = X at ix HS
              go_wp2_with fail
              refine wp_region_noPanic ?_
              refine wp_region_held_drew (S := fun w' => w'.cell? ⟨w.heap.size, k + h, none⟩ = some (.float .f32 x)) (by kernel_rfl) cx (fun hHeld => ?_)
              ((refine wpAnyH_take (i := 0) (v := ?_) rfl (by kernel_rfl) (by kernel_rfl) (by kernel_rfl) (fun _ _ _ h => h) (Or.inl ⟨by rfl, ?_⟩) (by assumption) ?_; rotate_left; (· intro w hSw; (try dsimp only at hSw); go_simp; first | done | with_reducible rfl); (try simp only [List.getElem_toArray, List.getElem_cons_zero, List.getElem_cons_succ, Act.put, List.setIfInBounds_toArray, List.set_cons_zero, List.set_cons_succ])); (refine wpAnyH_take (i := 1) (v := ?_) rfl (by kernel_rfl) (by kernel_rfl) (by kernel_rfl) (fun _ _ _ h => h) (Or.inl ⟨by rfl, ?_⟩) (by assumption) ?_; rotate_left; (· intro w hSw; (try dsimp only at hSw); go_simp; first | done | with_reducible rfl); (try simp only [List.getElem_toArray, List.getElem_cons_zero, List.getElem_cons_succ, Act.put, List.setIfInBounds_toArray, List.set_cons_zero, List.set_cons_succ])); (refine wpAnyH_take (i := 2) (v := ?_) rfl (by kernel_rfl) (by kernel_rfl) (by kernel_rfl) (fun _ _ _ h => h) (Or.inl ⟨by rfl, ?_⟩) (by assumption) ?_; rotate_left; (· intro w hSw; (try dsimp only at hSw); go_simp; first | done | with_reducible rfl); (try simp only [List.getElem_toArray, List.getElem_cons_zero, List.getElem_cons_succ, Act.put, List.setIfInBounds_toArray, List.set_cons_zero, List.set_cons_succ])); (refine wpAnyH_take (i := 4) (v := ?_) rfl (by kernel_rfl) (by kernel_rfl) (by kernel_rfl) (fun _ _ _ h => h) (Or.inl ⟨by rfl, ?_⟩) (by assumption) ?_; rotate_left; (· intro w hSw; (try dsimp only at hSw); go_simp; first | done | with_reducible rfl); (try simp only [List.getElem_toArray, List.getElem_cons_zero, List.getElem_cons_succ, Act.put, List.setIfInBounds_toArray, List.set_cons_zero, List.set_cons_succ])); (refine wpAnyH_take (i := 5) (v := ?_) rfl (by kernel_rfl) (by kernel_rfl) (by kernel_rfl) (fun _ _ _ h => h) (Or.inl ⟨by rfl, ?_⟩) (by assumption) ?_; rotate_left; (· intro w hSw; (try dsimp only at hSw); go_simp; first | done | with_reducible rfl); (try simp only [List.getElem_toArray, List.getElem_cons_zero, List.getElem_cons_succ, Act.put, List.setIfInBounds_toArray, List.set_cons_zero, List.set_cons_succ])); (refine wpAnyH_take (i := 6) (v := ?_) rfl (by kernel_rfl) (by kernel_rfl) (by kernel_rfl) (fun _ _ _ h => h) (Or.inl ⟨by rfl, ?_⟩) (by assumption) ?_; rotate_left; (· intro w hSw; (try dsimp only at hSw); go_simp; first | done | with_reducible rfl); (try simp only [List.getElem_toArray, List.getElem_cons_zero, List.getElem_cons_succ, Act.put, List.setIfInBounds_toArray, List.set_cons_zero, List.set_cons_succ])); (refine wpAnyH_take (i := 7) (v := ?_) rfl (by kernel_rfl) (by kernel_rfl) (by kernel_rfl) (fun _ _ _ h => h) (Or.inl ⟨by rfl, ?_⟩) (by assumption) ?_; rotate_left; (· intro w hSw; (try dsimp only at hSw); go_simp; first | done | with_reducible rfl); (try simp only [List.getElem_toArray, List.getElem_cons_zero, List.getElem_cons_succ, Act.put, List.setIfInBounds_toArray, List.set_cons_zero, List.set_cons_succ])); (refine wpAnyH_take (i := 8) (v := ?_) rfl (by kernel_rfl) (by kernel_rfl) (by kernel_rfl) (fun _ _ _ h => h) (Or.inl ⟨by rfl, ?_⟩) (by assumption) ?_; rotate_left; (· intro w hSw; (try dsimp only at hSw); go_simp; first | done | with_reducible rfl); (try simp only [List.getElem_toArray, List.getElem_cons_zero, List.getElem_cons_succ, Act.put, List.setIfInBounds_toArray, List.set_cons_zero, List.set_cons_succ])); (refine wpAnyH_take (i := 9) (v := ?_) rfl (by kernel_rfl) (by kernel_rfl) (by kernel_rfl) (fun _ _ _ h => h) (Or.inl ⟨by rfl, ?_⟩) (by assumption) ?_; rotate_left; (· intro w hSw; (try dsimp only at hSw); go_simp; first | done | with_reducible rfl); (try simp only [List.getElem_toArray, List.getElem_cons_zero, List.getElem_cons_succ, Act.put, List.setIfInBounds_toArray, List.set_cons_zero, List.set_cons_succ])))
              (refine wpAnyH_ready (rs := [3]) (by kernel_rfl) (by simp) ?_; refine AllReadyH.cons (i := 3) rfl (fun K hK => ?_) AllReadyH.nil)
              go_simp
              (refine hK.out _ _ (cx) (fun hHeld => ?_); clear hK K; (try simp only [List.getElem_toArray, List.getElem_cons_zero, List.getElem_cons_succ, Act.put, List.setIfInBounds_toArray, List.set_cons_zero, List.set_cons_succ]))
              (refine wpAnyH_ready (rs := [10]) (by kernel_rfl) (by simp) ?_; refine AllReadyH.cons (i := 10) rfl (fun K hK => ?_) AllReadyH.nil)
              refine hstep_fa rfl .add 32 32 _ _ rfl rfl .f32 y x rfl rfl iy ix ?_
              intro r n hr
              (refine hK.out _ _ (cx) (fun hHeld => ?_); clear hK K; (try simp only [List.getElem_toArray, List.getElem_cons_zero, List.getElem_cons_succ, Act.put, List.setIfInBounds_toArray, List.set_cons_zero, List.set_cons_succ]))
              have PT := HPT.out (1 + n) r
              have HB5 := Lib.hid ((below_drewN HB.out (1 + n)).setCell (p := ⟨w.heap.size, k, none⟩) (Nat.le_refl _) (.float .f32 r))
              have HL5 := Lib.hid PT.1
              have cx5 := HX.out (1 + n) r
              have HY5 := Lib.hid (isL.put (G := addH (foldL (fun j => laneAt xs j xs.length) h) h (k + 1)) HY.out HL.out.1 (show k < 8 by omega) hr (fun j => HS.out j))
              clear PT
              ((refine wpAnyH_take (i := 11) (v := ?_) rfl (by kernel_rfl) (by kernel_rfl) (by kernel_rfl) (fun _ _ _ h => h) (Or.inl ⟨by rfl, ?_⟩) (by assumption) ?_; rotate_left; (· intro w hSw; (try dsimp only at hSw); go_simp; first | done | with_reducible rfl); (try simp only [List.getElem_toArray, List.getElem_cons_zero, List.getElem_cons_succ, Act.put, List.setIfInBounds_toArray, List.set_cons_zero, List.set_cons_succ])))
              (refine wpAnyH_ready (rs := [12]) (by kernel_rfl) (by simp) ?_; refine AllReadyH.cons (i := 12) rfl (fun K hK => ?_) AllReadyH.nil)
              go_simp
              (refine hK.out _ _ (cx5) (fun hHeld => ?_); clear hK K; (try simp only [List.getElem_toArray, List.getElem_cons_zero, List.getElem_cons_succ, Act.put, List.setIfInBounds_toArray, List.set_cons_zero, List.set_cons_succ]))
              (refine wpAnyH_done (by kernel_rfl) ?_ _; refine NoPanic.normal ?_)
              clear hHeld cx cx5 cy fy iy ix hr hw1 hw2 hw3 hw4
              go_wp2_with fail
              go_roundw
              case rel => exact ⟨k + 1, by omega, by go_num, HB5, _, HL5, HY5⟩
              case measure => simp [intOf]; omega
            · obtain rfl : k = h := by omega
              clear hlt
              have hw : wrap64 ((k : Int) / 2) = (k : Int) / 2 := by unfold wrap64; omega
              go_wp2_with fail
              go_roundw
              case rel => exact ⟨k / 2, by omega, by first | rfl | (congr 1; omega), HB, zs, HL, Lib.hid (by rw [← foldL_half _ HH.out]; exact HY.out)⟩
              case measure => simp [intOf]; omega

theorem sLaneSum_yes (v : Value) (xs : List Nat) (w : World) (hv : FS .f32 w v xs) (hn : xs.length ≤ 256) : Calls Try.prog 63 #[v] w fun e w' => (∃ r, e = .returned (.tuple #[.float .f32 r, .bool true]) ∧ Is .f32 r (laneF xs)) ∧ Below w.heap.size w w' := by
  have HV := Lib.hid hv
  obtain ⟨a, cap, rfl, hlc, hcm, hwf, hmem⟩ := hv
  have hd : ¬ ((256 : Int) < (xs.length : Int)) := by omega
  clear hmem hwf
  go_enter Try.func63, Try.ntmps63
  go_wp2_with fail
  refine (sSum8_any _ xs _ HV.out hn).mono ?_
  rintro e w' ⟨⟨r, rfl, hr⟩, hb⟩
  have HB := Lib.hid hb
  clear hb
  go_wp2_with fail
  go_ret2
  exact ⟨⟨_, rfl, hr⟩, HB.out⟩

theorem sLaneSum_no (v : Value) (xs : List Nat) (w : World) (hv : FS .f32 w v xs) (hn : 256 < xs.length) : Calls Try.prog 63 #[v] w fun e w' => e = .returned (.tuple #[.float .f32 0, .bool false]) ∧ w = w' := by
  obtain ⟨a, cap, rfl, hlc, hcm, hwf, hmem⟩ := hv
  have hd : (256 : Int) < (xs.length : Int) := by omega
  unfold maxLen at hcm
  clear hmem
  go_enter Try.func63, Try.ntmps63
  go_wp2
  go_ret2
  exact ⟨rfl, rfl⟩
end Go.Proofs.Ytnknhfhllifnhaa
