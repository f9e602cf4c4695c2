/-
  Quotients of each number of a list and the one before it, of the program and of the model.
-/
import Derived.Test.YtlfnbnhbobohlaaFields
namespace Go.Proofs.Ytlfnbnhbobohlaa
open Go.Fl Go.RowKit
set_option linter.unusedSimpArgs false
set_option linter.unusedVariables false

def growF (xs : List Nat) (j : Nat) : Nat := fop .quo .f32 (cn .f32 (xs.getD (j + 1) 0)) (cn .f32 (xs.getD j 0))
def okGrowthsOf (xs : List Nat) : Bool := decide (xs.length ≤ 256)
def lenGrowthsOf (xs : List Nat) : Nat := if okGrowthsOf xs then xs.length - 1 else 0
theorem lenGrowthsOf_le (xs : List Nat) (h : xs.length ≤ 1048576) : lenGrowthsOf xs ≤ 1048576 := by unfold lenGrowthsOf; split <;> omega
theorem i64w (n : Int) (h : -9223372036854775808 ≤ n) (h' : n ≤ 9223372036854775807) : IntKind.i64.wrap n = n := by rw [wrap_i64]; unfold wrap64; omega

set_option maxHeartbeats 1000000 in
set_option maxRecDepth 100000 in
theorem iGrowthsOf_yes (v : Value) (xs : List Nat) (w : World) (hv : FS .f32 w v xs) (hn : xs.length ≤ 256) :
    Calls Try.prog 43 #[v] w fun e w' => (∃ r, e = .returned (.tuple #[r, .bool true]) ∧ FRes w.heap.size w' r (xs.length - 1) (growF xs)) ∧ Below w.heap.size w w' := by
  obtain ⟨i0, hi, hz0, hz1, hz2⟩ := info_parts F32info
  have HU := Lib.hid hv
  obtain ⟨a1, c1, rfl, hlc, hcm, hwf, hmem⟩ := hv
  have hd : decide ((256 : Int) < (xs.length : Int)) = false := by simp; omega
  clear hlc hcm hmem
  go_enter Try.func43, Try.ntmps43
  go_wp2_with fail
  have HO0 := Lib.hid (show FOwn w.heap.size w (.slice none 0 0) [] from World.ownsRow_nil w _ 46 1)
  have HB0 := Lib.hid (Below.refl w.heap.size w)
  clear hd
  go_loopw [4, 5] (fun v i wr => ∃ rs : List Nat, i = .int .i64 ((rs.length + 1 : Nat) : Int) ∧ (rs.length < xs.length ∨ rs.length = 0) ∧ Hid (Eqs rs (growF xs)) ∧ (∃ aa cap, v = .slice aa rs.length cap ∧ Hid (FOwn w.heap.size wr v rs)) ∧ Hid (Below w.heap.size w wr)) (fun _ i _ => xs.length - (intOf i).toNat)
  case atStart => exact ⟨[], rfl, .inr rfl, Lib.hid (Eqs.nil _), ⟨_, _, rfl, HO0⟩, HB0⟩
  case round =>
    clear HO0 HB0
    obtain ⟨rs, rfl, hk, HE, ⟨aa, cap, rfl, HO⟩, HB⟩ := hrel
    by_cases hlt : rs.length + 1 < xs.length
    · have hbel := HB.out
      obtain ⟨b1, o1, e1, hcx⟩ := FS.at HU.out hbel hlt
      obtain rfl := e1
      obtain ⟨b2, o2, e2, hcy⟩ := FS.at HU.out hbel (show rs.length < xs.length by omega)
      obtain ⟨rfl, rfl⟩ : b1 = b2 ∧ o1 = o2 := by simpa using e2
      have HX := Lib.hid (FS.ever HU.out hlt)
      have HY := Lib.hid (FS.ever HU.out (show rs.length < xs.length by omega))
      have ix := FS.is hwf (rs.length + 1) hlt
      have iy := FS.is hwf rs.length (by omega)
      have HF := Lib.hid (show growF xs rs.length = fop .quo .f32 (cn .f32 (xs.getD (rs.length + 1) 0)) (cn .f32 (xs.getD rs.length 0)) from rfl)
      generalize cn .f32 (xs.getD (rs.length + 1) 0) = X at ix HF
      generalize cn .f32 (xs.getD rs.length 0) = Y at iy HF
      generalize xs.getD (rs.length + 1) 0 = x at hcx ix HX
      generalize xs.getD rs.length 0 = y at hcy iy HY
      have i1 : (0 : Int) ≤ (rs.length : Int) + 1 := by omega
      have i2 : (rs.length : Int) + 1 < (xs.length : Int) := by omega
      have i3 : (rs.length : Int) < (xs.length : Int) := by omega
      have i4 : (0 : Int) ≤ (rs.length : Int) := by omega
      have i5 := i64w (rs.length : Int) (by omega) (by omega)
      have i6 : wrap64 (rs.length : Int) = (rs.length : Int) := by unfold wrap64; omega
      have hown0 : FOwn w.heap.size wr (.slice aa rs.length cap) rs := HO.out
      go_wp2_with fail
      refine wp_region_noPanic ?_
      have hbd := hbel.drew
      refine wp_region_held_drew (S := fun w' => w'.cell? ⟨b1, o1 + (rs.length + 1), none⟩ = some (.float .f32 x) ∧ w'.cell? ⟨b1, o1 + rs.length, none⟩ = some (.float .f32 y)) (by kernel_rfl) (by go_keep) (fun hHeld => ?_)
      ((refine wpAnyH_take (i := 0) (v := ?_) rfl (by kernel_rfl) (by kernel_rfl) (by kernel_rfl) (fun _ _ _ h => h) (Or.inl ⟨by rfl, ?_⟩) (by assumption) ?_; rotate_left; (· intro w hSw; (try dsimp only at hSw); go_simp; first | done | with_reducible rfl); (try simp only [List.getElem_toArray, List.getElem_cons_zero, List.getElem_cons_succ, Act.put, List.setIfInBounds_toArray, List.set_cons_zero, List.set_cons_succ])); (refine wpAnyH_take (i := 1) (v := ?_) rfl (by kernel_rfl) (by kernel_rfl) (by kernel_rfl) (fun _ _ _ h => h) (Or.inl ⟨by rfl, ?_⟩) (by assumption) ?_; rotate_left; (· intro w hSw; (try dsimp only at hSw); go_simp; first | done | with_reducible rfl); (try simp only [List.getElem_toArray, List.getElem_cons_zero, List.getElem_cons_succ, Act.put, List.setIfInBounds_toArray, List.set_cons_zero, List.set_cons_succ])); (refine wpAnyH_take (i := 2) (v := ?_) rfl (by kernel_rfl) (by kernel_rfl) (by kernel_rfl) (fun _ _ _ h => h) (Or.inl ⟨by rfl, ?_⟩) (by assumption) ?_; rotate_left; (· intro w hSw; (try dsimp only at hSw); go_simp; first | done | with_reducible rfl); (try simp only [List.getElem_toArray, List.getElem_cons_zero, List.getElem_cons_succ, Act.put, List.setIfInBounds_toArray, List.set_cons_zero, List.set_cons_succ])); (refine wpAnyH_take (i := 3) (v := ?_) rfl (by kernel_rfl) (by kernel_rfl) (by kernel_rfl) (fun _ _ _ h => h) (Or.inl ⟨by rfl, ?_⟩) (by assumption) ?_; rotate_left; (· intro w hSw; (try dsimp only at hSw); go_simp; first | done | with_reducible rfl); (try simp only [List.getElem_toArray, List.getElem_cons_zero, List.getElem_cons_succ, Act.put, List.setIfInBounds_toArray, List.set_cons_zero, List.set_cons_succ])); (refine wpAnyH_take (i := 4) (v := ?_) rfl (by kernel_rfl) (by kernel_rfl) (by kernel_rfl) (fun _ _ _ h => h) (Or.inl ⟨by rfl, ?_⟩) (by assumption) ?_; rotate_left; (· intro w hSw; (try dsimp only at hSw); go_simp; first | done | with_reducible rfl); (try simp only [List.getElem_toArray, List.getElem_cons_zero, List.getElem_cons_succ, Act.put, List.setIfInBounds_toArray, List.set_cons_zero, List.set_cons_succ])); (refine wpAnyH_take (i := 5) (v := ?_) rfl (by kernel_rfl) (by kernel_rfl) (by kernel_rfl) (fun _ _ _ h => h) (Or.inl ⟨by rfl, ?_⟩) (by assumption) ?_; rotate_left; (· intro w hSw; (try dsimp only at hSw); go_simp; first | done | with_reducible rfl); (try simp only [List.getElem_toArray, List.getElem_cons_zero, List.getElem_cons_succ, Act.put, List.setIfInBounds_toArray, List.set_cons_zero, List.set_cons_succ])); (refine wpAnyH_take (i := 6) (v := ?_) rfl (by kernel_rfl) (by kernel_rfl) (by kernel_rfl) (fun _ _ _ h => h) (Or.inl ⟨by rfl, ?_⟩) (by assumption) ?_; rotate_left; (· intro w hSw; (try dsimp only at hSw); go_simp; first | done | with_reducible rfl); (try simp only [List.getElem_toArray, List.getElem_cons_zero, List.getElem_cons_succ, Act.put, List.setIfInBounds_toArray, List.set_cons_zero, List.set_cons_succ])); (refine wpAnyH_take (i := 7) (v := ?_) rfl (by kernel_rfl) (by kernel_rfl) (by kernel_rfl) (fun _ _ _ h => h) (Or.inl ⟨by rfl, ?_⟩) (by assumption) ?_; rotate_left; (· intro w hSw; (try dsimp only at hSw); go_simp; first | done | with_reducible rfl); (try simp only [List.getElem_toArray, List.getElem_cons_zero, List.getElem_cons_succ, Act.put, List.setIfInBounds_toArray, List.set_cons_zero, List.set_cons_succ])); (refine wpAnyH_take (i := 8) (v := ?_) rfl (by kernel_rfl) (by kernel_rfl) (by kernel_rfl) (fun _ _ _ h => h) (Or.inl ⟨by rfl, ?_⟩) (by assumption) ?_; rotate_left; (· intro w hSw; (try dsimp only at hSw); go_simp; first | done | with_reducible rfl); (try simp only [List.getElem_toArray, List.getElem_cons_zero, List.getElem_cons_succ, Act.put, List.setIfInBounds_toArray, List.set_cons_zero, List.set_cons_succ])); (refine wpAnyH_take (i := 9) (v := ?_) rfl (by kernel_rfl) (by kernel_rfl) (by kernel_rfl) (fun _ _ _ h => h) (Or.inl ⟨by rfl, ?_⟩) (by assumption) ?_; rotate_left; (· intro w hSw; (try dsimp only at hSw); go_simp; first | done | with_reducible rfl); (try simp only [List.getElem_toArray, List.getElem_cons_zero, List.getElem_cons_succ, Act.put, List.setIfInBounds_toArray, List.set_cons_zero, List.set_cons_succ])))
      (refine wpAnyH_ready (rs := [10]) (by kernel_rfl) (by simp) ?_; refine AllReadyH.cons (i := 10) rfl (fun K hK => ?_) AllReadyH.nil)
      refine hstep_fa rfl .quo 46 46 _ _ rfl rfl .f32 x y rfl rfl ix iy ?_
      intro r n hr
      have hb3 := below_drewN hbel (1 + n)
      (refine hK.out _ _ (by go_keep) (fun hHeld => ?_); clear hK K; (try simp only [List.getElem_toArray, List.getElem_cons_zero, List.getElem_cons_succ, Act.put, List.setIfInBounds_toArray, List.set_cons_zero, List.set_cons_succ]))
      (refine wpAnyH_ready (rs := [11]) (by kernel_rfl) (by simp) ?_; refine AllReadyH.cons (i := 11) rfl (fun K hK => ?_) AllReadyH.nil)
      go_simp
      have hb4 := hb3.alloc (Nat.le_trans (Nat.le_refl _) hb3.size) (.cells #[.float .f32 r] 46)
      have hown3 := (World.ownsRow.alloc (World.ownsRow.kept hown0 (grown_below (row := none) (below_drewN (Below.refl wr.heap.size wr) (1 + n))) (by cases (Value.slice aa rs.length cap).ownBlock <;> simp)) (.cells #[.float .f32 r] 46))
      (refine hK.out _ _ (by go_keep) (fun hHeld => ?_); clear hK K; (try simp only [List.getElem_toArray, List.getElem_cons_zero, List.getElem_cons_succ, Act.put, List.setIfInBounds_toArray, List.set_cons_zero, List.set_cons_succ]))
      (refine wpAnyH_ready (rs := [12]) (by kernel_rfl) (by simp) ?_; refine AllReadyH.cons (i := 12) rfl (fun K hK => ?_) AllReadyH.nil)
      refine step_append_lies _ (by rfl) _ _ _ (by rfl) w.heap.size 46 i0 _ 1 4 Try.underlying24 hi hz0 hz1 hz2 rfl (by omega) (.slice aa rs.length cap) rs.length (rs.map (Value.float .f32)) (by rfl) hown3
        ⟨wr.heap.size, 0, none⟩ 1 1 [.float .f32 r] (by rfl) (by rfl) (World.news_of_block (cs := #[.float .f32 r]) (t := 46) (fr := (0, 0)) (heap_alloc_new _ _)) (by simp [Value.oneCell'])
        (by omega) (by unfold maxLen; omega) (by omega) hb4.size (wr.heap.size + 1) (by simp) ?_
      intro g2 cap2 w3 hown4 hgrow hat hltg
      have hb5 := Lib.hid (hb4.grown hgrow hb4.size (fun k hk => (hown3.lt k hk).1))
      (refine hK.out _ _ (⟨by rw [HX.out _ hb5.out], by rw [HY.out _ hb5.out]⟩) (fun hHeld => ?_); clear hK K; (try simp only [List.getElem_toArray, List.getElem_cons_zero, List.getElem_cons_succ, Act.put, List.setIfInBounds_toArray, List.set_cons_zero, List.set_cons_succ]))
      (refine wpAnyH_ready (rs := [13]) (by kernel_rfl) (by simp) ?_; refine AllReadyH.cons (i := 13) rfl (fun K hK => ?_) AllReadyH.nil)
      go_simp
      (refine hK.out _ _ (by assumption) (fun hHeld => ?_); clear hK K; (try simp only [List.getElem_toArray, List.getElem_cons_zero, List.getElem_cons_succ, Act.put, List.setIfInBounds_toArray, List.set_cons_zero, List.set_cons_succ]))
      (refine wpAnyH_done (by kernel_rfl) ?_ _; refine NoPanic.normal ?_)
      have HO4 := Lib.hid (show FOwn w.heap.size w3 (.slice (some ⟨g2, 0, none⟩) (rs ++ [r]).length cap2) (rs ++ [r]) by unfold FOwn; simpa using hown4)
      have HE4 := Lib.hid (HE.out.snoc (by rw [HF.out]; exact hr))
      have HL4 := Lib.hid (show (rs ++ [r]).length = rs.length + 1 by simp)
      clear hown3 hown4 hgrow hb3 hb4 hat hHeld HX HY hcx hcy hbel hown0
      go_wp2
      go_roundw
      case rel => exact ⟨rs ++ [r], by rw [HL4.out]; go_num, .inl (by rw [HL4.out]; omega), HE4, ⟨_, cap2, by rw [HL4.out], by rw [HL4.out] at HO4; exact HO4⟩, hb5⟩
      case measure => simp [intOf]; omega
    · have HK2 := Lib.hid (show rs.length = xs.length - 1 by omega)
      have i2 : ¬ ((rs.length : Int) + 1 < (xs.length : Int)) := by omega
      go_wp2
      go_ret2
      exact ⟨⟨_, rfl, rs, HK2.out, HE.out, HO.out⟩, HB.out⟩

theorem iGrowthsOf_no (a1 : Option Addr) (n c1 : Nat) (w : World) (hn : 256 < n) :
    Calls Try.prog 43 #[.slice a1 n c1] w fun e w' => e = .returned (.tuple #[.slice none 0 0, .bool false]) ∧ Below w.heap.size w w' := by
  have hd : decide ((256 : Int) < (n : Int)) = true := by simp; omega
  go_enter Try.func43, Try.ntmps43
  go_wp2_with fail
  go_ret2
  exact ⟨rfl, Below.refl _ _⟩

theorem iGrowthsOf_any (v : Value) (xs : List Nat) (w : World) (hv : FS .f32 w v xs) (_hn : xs.length ≤ 1048576) :
    Calls Try.prog 43 #[v] w fun e w' => (∃ r, e = .returned (.tuple #[r, .bool (okGrowthsOf xs)]) ∧ FRes w.heap.size w' r (lenGrowthsOf xs) (growF xs)) ∧ Below w.heap.size w w' := by
  unfold lenGrowthsOf
  by_cases h : xs.length ≤ 256
  · have e : okGrowthsOf xs = true := decide_eq_true h
    rw [e, if_pos rfl]
    exact iGrowthsOf_yes v xs w hv h
  · have e : okGrowthsOf xs = false := decide_eq_false h
    rw [e, if_neg (by simp)]
    obtain ⟨a1, c1, rfl, _⟩ := hv
    exact (iGrowthsOf_no a1 xs.length c1 w (by omega)).mono fun e w' ⟨he, hb⟩ => ⟨⟨_, he, fres_none _ _ _⟩, hb⟩

set_option maxHeartbeats 1000000 in
set_option maxRecDepth 100000 in
theorem sGrowthsOf_yes (v : Value) (xs : List Nat) (w : World) (hv : FS .f32 w v xs) (hn : xs.length ≤ 256) :
    Calls Try.prog 42 #[v] w fun e w' => (∃ r, e = .returned (.tuple #[r, .bool true]) ∧ FRes w.heap.size w' r (xs.length - 1) (growF xs)) ∧ Below w.heap.size w w' := by
  obtain ⟨i0, hi, hz0, hz1, hz2⟩ := info_parts F32info
  have HU := Lib.hid hv
  obtain ⟨a1, c1, rfl, hlc, hcm, hwf, hmem⟩ := hv
  have hd : decide ((256 : Int) < (xs.length : Int)) = false := by simp; omega
  clear hlc hcm hmem
  go_enter Try.func42, Try.ntmps42
  go_wp2_with fail
  have HO0 := Lib.hid (show FOwn w.heap.size (w.alloc (.cells #[] 46)) (.slice (some ⟨w.heap.size, 0, none⟩) 0 0) [] from own_start w.heap.size w (Nat.le_refl _))
  have HB0 := Lib.hid ((Below.refl w.heap.size w).alloc (Nat.le_refl _) (.cells #[] 46))
  generalize w.alloc (.cells #[] 46) = w2 at HO0 HB0 ⊢
  clear hd
  go_loopw [4, 5] (fun v i wr => ∃ rs : List Nat, i = .int .i64 ((rs.length + 1 : Nat) : Int) ∧ (rs.length < xs.length ∨ rs.length = 0) ∧ Hid (Eqs rs (growF xs)) ∧ (∃ aa cap, v = .slice aa rs.length cap ∧ Hid (FOwn w.heap.size wr v rs)) ∧ Hid (Below w.heap.size w wr)) (fun _ i _ => xs.length - (intOf i).toNat)
  case atStart => exact ⟨[], rfl, .inr rfl, Lib.hid (Eqs.nil _), ⟨_, _, rfl, HO0⟩, HB0⟩
  case round =>
    clear HO0 HB0
    obtain ⟨rs, rfl, hk, HE, ⟨aa, cap, rfl, HO⟩, HB⟩ := hrel
    by_cases hlt : rs.length + 1 < xs.length
    · have hbel := HB.out
      obtain ⟨b1, o1, e1, hcx⟩ := FS.at HU.out hbel hlt
      obtain rfl := e1
      obtain ⟨b2, o2, e2, hcy⟩ := FS.at HU.out hbel (show rs.length < xs.length by omega)
      obtain ⟨rfl, rfl⟩ : b1 = b2 ∧ o1 = o2 := by simpa using e2
      have HX := Lib.hid (FS.ever HU.out hlt)
      have HY := Lib.hid (FS.ever HU.out (show rs.length < xs.length by omega))
      have ix := FS.is hwf (rs.length + 1) hlt
      have iy := FS.is hwf rs.length (by omega)
      have HF := Lib.hid (show growF xs rs.length = fop .quo .f32 (cn .f32 (xs.getD (rs.length + 1) 0)) (cn .f32 (xs.getD rs.length 0)) from rfl)
      generalize cn .f32 (xs.getD (rs.length + 1) 0) = X at ix HF
      generalize cn .f32 (xs.getD rs.length 0) = Y at iy HF
      generalize xs.getD (rs.length + 1) 0 = x at hcx ix HX
      generalize xs.getD rs.length 0 = y at hcy iy HY
      have i1 : (0 : Int) ≤ (rs.length : Int) + 1 := by omega
      have i2 : (rs.length : Int) + 1 < (xs.length : Int) := by omega
      have i3 : (rs.length : Int) < (xs.length : Int) := by omega
      have i4 : (0 : Int) ≤ (rs.length : Int) := by omega
      have i5 := i64w (rs.length : Int) (by omega) (by omega)
      have i6 : wrap64 (rs.length : Int) = (rs.length : Int) := by unfold wrap64; omega
      have hown0 : FOwn w.heap.size wr (.slice aa rs.length cap) rs := HO.out
      go_wp2_with fail
      refine wp_region_noPanic ?_
      have hbd := hbel.drew
      refine wp_region_held_drew (S := fun w' => w'.cell? ⟨b1, o1 + (rs.length + 1), none⟩ = some (.float .f32 x) ∧ w'.cell? ⟨b1, o1 + rs.length, none⟩ = some (.float .f32 y)) (by kernel_rfl) (by go_keep) (fun hHeld => ?_)
      ((refine wpAnyH_take (i := 0) (v := ?_) rfl (by kernel_rfl) (by kernel_rfl) (by kernel_rfl) (fun _ _ _ h => h) (Or.inl ⟨by rfl, ?_⟩) (by assumption) ?_; rotate_left; (· intro w hSw; (try dsimp only at hSw); go_simp; first | done | with_reducible rfl); (try simp only [List.getElem_toArray, List.getElem_cons_zero, List.getElem_cons_succ, Act.put, List.setIfInBounds_toArray, List.set_cons_zero, List.set_cons_succ])); (refine wpAnyH_take (i := 1) (v := ?_) rfl (by kernel_rfl) (by kernel_rfl) (by kernel_rfl) (fun _ _ _ h => h) (Or.inl ⟨by rfl, ?_⟩) (by assumption) ?_; rotate_left; (· intro w hSw; (try dsimp only at hSw); go_simp; first | done | with_reducible rfl); (try simp only [List.getElem_toArray, List.getElem_cons_zero, List.getElem_cons_succ, Act.put, List.setIfInBounds_toArray, List.set_cons_zero, List.set_cons_succ])); (refine wpAnyH_take (i := 2) (v := ?_) rfl (by kernel_rfl) (by kernel_rfl) (by kernel_rfl) (fun _ _ _ h => h) (Or.inl ⟨by rfl, ?_⟩) (by assumption) ?_; rotate_left; (· intro w hSw; (try dsimp only at hSw); go_simp; first | done | with_reducible rfl); (try simp only [List.getElem_toArray, List.getElem_cons_zero, List.getElem_cons_succ, Act.put, List.setIfInBounds_toArray, List.set_cons_zero, List.set_cons_succ])); (refine wpAnyH_take (i := 3) (v := ?_) rfl (by kernel_rfl) (by kernel_rfl) (by kernel_rfl) (fun _ _ _ h => h) (Or.inl ⟨by rfl, ?_⟩) (by assumption) ?_; rotate_left; (· intro w hSw; (try dsimp only at hSw); go_simp; first | done | with_reducible rfl); (try simp only [List.getElem_toArray, List.getElem_cons_zero, List.getElem_cons_succ, Act.put, List.setIfInBounds_toArray, List.set_cons_zero, List.set_cons_succ])); (refine wpAnyH_take (i := 4) (v := ?_) rfl (by kernel_rfl) (by kernel_rfl) (by kernel_rfl) (fun _ _ _ h => h) (Or.inl ⟨by rfl, ?_⟩) (by assumption) ?_; rotate_left; (· intro w hSw; (try dsimp only at hSw); go_simp; first | done | with_reducible rfl); (try simp only [List.getElem_toArray, List.getElem_cons_zero, List.getElem_cons_succ, Act.put, List.setIfInBounds_toArray, List.set_cons_zero, List.set_cons_succ])); (refine wpAnyH_take (i := 5) (v := ?_) rfl (by kernel_rfl) (by kernel_rfl) (by kernel_rfl) (fun _ _ _ h => h) (Or.inl ⟨by rfl, ?_⟩) (by assumption) ?_; rotate_left; (· intro w hSw; (try dsimp only at hSw); go_simp; first | done | with_reducible rfl); (try simp only [List.getElem_toArray, List.getElem_cons_zero, List.getElem_cons_succ, Act.put, List.setIfInBounds_toArray, List.set_cons_zero, List.set_cons_succ])); (refine wpAnyH_take (i := 6) (v := ?_) rfl (by kernel_rfl) (by kernel_rfl) (by kernel_rfl) (fun _ _ _ h => h) (Or.inl ⟨by rfl, ?_⟩) (by assumption) ?_; rotate_left; (· intro w hSw; (try dsimp only at hSw); go_simp; first | done | with_reducible rfl); (try simp only [List.getElem_toArray, List.getElem_cons_zero, List.getElem_cons_succ, Act.put, List.setIfInBounds_toArray, List.set_cons_zero, List.set_cons_succ])); (refine wpAnyH_take (i := 7) (v := ?_) rfl (by kernel_rfl) (by kernel_rfl) (by kernel_rfl) (fun _ _ _ h => h) (Or.inl ⟨by rfl, ?_⟩) (by assumption) ?_; rotate_left; (· intro w hSw; (try dsimp only at hSw); go_simp; first | done | with_reducible rfl); (try simp only [List.getElem_toArray, List.getElem_cons_zero, List.getElem_cons_succ, Act.put, List.setIfInBounds_toArray, List.set_cons_zero, List.set_cons_succ])); (refine wpAnyH_take (i := 8) (v := ?_) rfl (by kernel_rfl) (by kernel_rfl) (by kernel_rfl) (fun _ _ _ h => h) (Or.inl ⟨by rfl, ?_⟩) (by assumption) ?_; rotate_left; (· intro w hSw; (try dsimp only at hSw); go_simp; first | done | with_reducible rfl); (try simp only [List.getElem_toArray, List.getElem_cons_zero, List.getElem_cons_succ, Act.put, List.setIfInBounds_toArray, List.set_cons_zero, List.set_cons_succ])); (refine wpAnyH_take (i := 9) (v := ?_) rfl (by kernel_rfl) (by kernel_rfl) (by kernel_rfl) (fun _ _ _ h => h) (Or.inl ⟨by rfl, ?_⟩) (by assumption) ?_; rotate_left; (· intro w hSw; (try dsimp only at hSw); go_simp; first | done | with_reducible rfl); (try simp only [List.getElem_toArray, List.getElem_cons_zero, List.getElem_cons_succ, Act.put, List.setIfInBounds_toArray, List.set_cons_zero, List.set_cons_succ])))
      (refine wpAnyH_ready (rs := [10]) (by kernel_rfl) (by simp) ?_; refine AllReadyH.cons (i := 10) rfl (fun K hK => ?_) AllReadyH.nil)
      refine hstep_fa rfl .quo 46 46 _ _ rfl rfl .f32 x y rfl rfl ix iy ?_
      intro r n hr
      have hb3 := below_drewN hbel (1 + n)
      (refine hK.out _ _ (by go_keep) (fun hHeld => ?_); clear hK K; (try simp only [List.getElem_toArray, List.getElem_cons_zero, List.getElem_cons_succ, Act.put, List.setIfInBounds_toArray, List.set_cons_zero, List.set_cons_succ]))
      (refine wpAnyH_ready (rs := [11]) (by kernel_rfl) (by simp) ?_; refine AllReadyH.cons (i := 11) rfl (fun K hK => ?_) AllReadyH.nil)
      go_simp
      have hb4 := hb3.alloc (Nat.le_trans (Nat.le_refl _) hb3.size) (.cells #[.float .f32 r] 46)
      have hown3 := (World.ownsRow.alloc (World.ownsRow.kept hown0 (grown_below (row := none) (below_drewN (Below.refl wr.heap.size wr) (1 + n))) (by cases (Value.slice aa rs.length cap).ownBlock <;> simp)) (.cells #[.float .f32 r] 46))
      (refine hK.out _ _ (by go_keep) (fun hHeld => ?_); clear hK K; (try simp only [List.getElem_toArray, List.getElem_cons_zero, List.getElem_cons_succ, Act.put, List.setIfInBounds_toArray, List.set_cons_zero, List.set_cons_succ]))
      (refine wpAnyH_ready (rs := [12]) (by kernel_rfl) (by simp) ?_; refine AllReadyH.cons (i := 12) rfl (fun K hK => ?_) AllReadyH.nil)
      refine step_append_lies _ (by rfl) _ _ _ (by rfl) w.heap.size 46 i0 _ 1 4 Try.underlying24 hi hz0 hz1 hz2 rfl (by omega) (.slice aa rs.length cap) rs.length (rs.map (Value.float .f32)) (by rfl) hown3
        ⟨wr.heap.size, 0, none⟩ 1 1 [.float .f32 r] (by rfl) (by rfl) (World.news_of_block (cs := #[.float .f32 r]) (t := 46) (fr := (0, 0)) (heap_alloc_new _ _)) (by simp [Value.oneCell'])
        (by omega) (by unfold maxLen; omega) (by omega) hb4.size (wr.heap.size + 1) (by simp) ?_
      intro g2 cap2 w3 hown4 hgrow hat hltg
      have hb5 := Lib.hid (hb4.grown hgrow hb4.size (fun k hk => (hown3.lt k hk).1))
      (refine hK.out _ _ (⟨by rw [HX.out _ hb5.out], by rw [HY.out _ hb5.out]⟩) (fun hHeld => ?_); clear hK K; (try simp only [List.getElem_toArray, List.getElem_cons_zero, List.getElem_cons_succ, Act.put, List.setIfInBounds_toArray, List.set_cons_zero, List.set_cons_succ]))
      (refine wpAnyH_ready (rs := [13]) (by kernel_rfl) (by simp) ?_; refine AllReadyH.cons (i := 13) rfl (fun K hK => ?_) AllReadyH.nil)
      go_simp
      (refine hK.out _ _ (by assumption) (fun hHeld => ?_); clear hK K; (try simp only [List.getElem_toArray, List.getElem_cons_zero, List.getElem_cons_succ, Act.put, List.setIfInBounds_toArray, List.set_cons_zero, List.set_cons_succ]))
      (refine wpAnyH_done (by kernel_rfl) ?_ _; refine NoPanic.normal ?_)
      have HO4 := Lib.hid (show FOwn w.heap.size w3 (.slice (some ⟨g2, 0, none⟩) (rs ++ [r]).length cap2) (rs ++ [r]) by unfold FOwn; simpa using hown4)
      have HE4 := Lib.hid (HE.out.snoc (by rw [HF.out]; exact hr))
      have HL4 := Lib.hid (show (rs ++ [r]).length = rs.length + 1 by simp)
      clear hown3 hown4 hgrow hb3 hb4 hat hHeld HX HY hcx hcy hbel hown0
      go_wp2
      go_roundw
      case rel => exact ⟨rs ++ [r], by rw [HL4.out]; go_num, .inl (by rw [HL4.out]; omega), HE4, ⟨_, cap2, by rw [HL4.out], by rw [HL4.out] at HO4; exact HO4⟩, hb5⟩
      case measure => simp [intOf]; omega
    · have HK2 := Lib.hid (show rs.length = xs.length - 1 by omega)
      have i2 : ¬ ((rs.length : Int) + 1 < (xs.length : Int)) := by omega
      go_wp2
      go_ret2
      exact ⟨⟨_, rfl, rs, HK2.out, HE.out, HO.out⟩, HB.out⟩

theorem sGrowthsOf_no (a1 : Option Addr) (n c1 : Nat) (w : World) (hn : 256 < n) :
    Calls Try.prog 42 #[.slice a1 n c1] w fun e w' => e = .returned (.tuple #[.slice none 0 0, .bool false]) ∧ Below w.heap.size w w' := by
  have hd : decide ((256 : Int) < (n : Int)) = true := by simp; omega
  go_enter Try.func42, Try.ntmps42
  go_wp2_with fail
  go_ret2
  exact ⟨rfl, Below.refl _ _⟩

theorem sGrowthsOf_any (v : Value) (xs : List Nat) (w : World) (hv : FS .f32 w v xs) (_hn : xs.length ≤ 1048576) :
    Calls Try.prog 42 #[v] w fun e w' => (∃ r, e = .returned (.tuple #[r, .bool (okGrowthsOf xs)]) ∧ FRes w.heap.size w' r (lenGrowthsOf xs) (growF xs)) ∧ Below w.heap.size w w' := by
  unfold lenGrowthsOf
  by_cases h : xs.length ≤ 256
  · have e : okGrowthsOf xs = true := decide_eq_true h
    rw [e, if_pos rfl]
    exact sGrowthsOf_yes v xs w hv h
  · have e : okGrowthsOf xs = false := decide_eq_false h
    rw [e, if_neg (by simp)]
    obtain ⟨a1, c1, rfl, _⟩ := hv
    exact (sGrowthsOf_no a1 xs.length c1 w (by omega)).mono fun e w' ⟨he, hb⟩ => ⟨⟨_, he, fres_none _ _ _⟩, hb⟩
end Go.Proofs.Ytlfnbnhbobohlaa
