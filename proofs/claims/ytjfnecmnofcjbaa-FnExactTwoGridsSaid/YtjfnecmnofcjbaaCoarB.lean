/-
  CoarseField, of the program and of the model.
-/
import Derived.Test.YtjfnecmnofcjbaaCoar
namespace Go.Proofs.Ytjfnecmnofcjbaa
open Go.Fl Go.RowKit
open Go.Joins (ownsRow_le)
set_option linter.unusedSimpArgs false
set_option linter.unusedVariables false

theorem tmod2 {a : Int} (h : 0 ≤ a) : a.tmod 2 = a % 2 := Int.tmod_eq_emod_of_nonneg h

theorem sHalves_any (p : Value) (a b : Int) (w : World) (hp : GP w p a b) (ha : 0 ≤ a) (hb : 0 ≤ b) : Calls Try.prog 99 #[p] w fun e w' => e = .returned (.bool (halvesB a b)) ∧ w = w' := by
  obtain ⟨g, rfl, hgl, hc0, hc1⟩ := hp
  have t1 := tmod2 ha
  have t2 := tmod2 hb
  by_cases h1 : a % 2 = 0
  · by_cases h2 : b % 2 = 0
    · by_cases h3 : 8 ≤ a
      · go_enter Try.func99, Try.ntmps99
        go_wp2
        go_ret
        exact ⟨congrArg (fun x => Ending.returned (.bool x)) (by unfold halvesB; first | (simp [h1, h2, h3]; done) | (rw [show decide (8 ≤ a) = false from decide_eq_false (by omega)]; simp)), rfl⟩
      · go_enter Try.func99, Try.ntmps99
        go_wp2
        go_ret
        exact ⟨congrArg (fun x => Ending.returned (.bool x)) (by unfold halvesB; first | (simp [h1, h2, h3]; done) | (rw [show decide (8 ≤ a) = false from decide_eq_false (by omega)]; simp)), rfl⟩
    · go_enter Try.func99, Try.ntmps99
      go_wp2
      go_ret
      exact ⟨congrArg (fun x => Ending.returned (.bool x)) (by unfold halvesB; simp [h1, h2]), rfl⟩
  · go_enter Try.func99, Try.ntmps99
    go_wp2
    go_ret
    exact ⟨congrArg (fun x => Ending.returned (.bool x)) (by unfold halvesB; simp [h1]), rfl⟩

theorem iEven_any (a b : Int) (w : World) (ha : 0 ≤ a) (hb : 0 ≤ b) : Calls Try.prog 164 #[GV a b] w fun e w' => e = .returned (.bool (decide (a % 2 = 0) && decide (b % 2 = 0))) ∧ Below w.heap.size w w' := by
  have t1 := tmod2 ha
  have t2 := tmod2 hb
  by_cases h1 : a % 2 = 0
  · go_enter Try.func164, Try.ntmps164
    go_wp2
    go_ret
    exact ⟨congrArg (fun x => Ending.returned (.bool x)) (by first | (simp [h1]; done) | (rw [Bool.eq_iff_iff]; simp [h1])), (Below.refl _ _).alloc (Nat.le_refl _) _⟩
  · go_enter Try.func164, Try.ntmps164
    go_wp2
    go_ret
    exact ⟨congrArg (fun x => Ending.returned (.bool x)) (by first | (simp [h1]; done) | (rw [Bool.eq_iff_iff]; simp [h1])), (Below.refl _ _).alloc (Nat.le_refl _) _⟩

theorem iHalved_any (a b : Int) (w : World) (ha : 0 ≤ a) (hb : 0 ≤ b) : Calls Try.prog 104 #[GV a b] w fun e w' => e = .returned (.bool (halvesB a b)) ∧ Below w.heap.size w w' := by
  have HP := Lib.hid (gp_new w a b 27)
  have hb0 := (Below.refl w.heap.size w).alloc (Nat.le_refl _) (.cells #[.int .i64 a, .int .i64 b] 27)
  by_cases h1 : (decide (a % 2 = 0) && decide (b % 2 = 0)) = true
  · have H1 := Lib.hid h1
    by_cases h3 : 8 ≤ a
    · clear h1
      go_enter Try.func104, Try.ntmps104
      go_wp2_with fail
      generalize w.alloc (.cells #[.int .i64 a, .int .i64 b] 27) = w1 at hb0 HP ⊢
      refine (iEven_any a b _ ha hb).mono ?_; rw [H1.out]; rintro e w2 ⟨rfl, hb2⟩
      have c0 := (GP.below HP.out hb2).cells.1; have c1 := (GP.below HP.out hb2).cells.2
      go_wp2_with fail
      go_ret
      exact ⟨congrArg (fun x => Ending.returned (.bool x)) (by have := H1.out; rw [Bool.and_eq_true] at this; unfold halvesB; rw [this.1, this.2]; simp [h3]), hb0.trans (hb2.mono hb0.size)⟩
    · clear h1
      go_enter Try.func104, Try.ntmps104
      go_wp2_with fail
      generalize w.alloc (.cells #[.int .i64 a, .int .i64 b] 27) = w1 at hb0 HP ⊢
      refine (iEven_any a b _ ha hb).mono ?_; rw [H1.out]; rintro e w2 ⟨rfl, hb2⟩
      have c0 := (GP.below HP.out hb2).cells.1; have c1 := (GP.below HP.out hb2).cells.2
      go_wp2_with fail
      go_ret
      exact ⟨congrArg (fun x => Ending.returned (.bool x)) (by unfold halvesB; rw [show decide (8 ≤ a) = false from decide_eq_false (by omega)]; simp), hb0.trans (hb2.mono hb0.size)⟩
  · have h1' : (decide (a % 2 = 0) && decide (b % 2 = 0)) = false := by simpa only [Bool.not_eq_true] using h1
    have H1 := Lib.hid h1'
    clear h1 h1'
    go_enter Try.func104, Try.ntmps104
    go_wp2_with fail
    generalize w.alloc (.cells #[.int .i64 a, .int .i64 b] 27) = w1 at hb0 HP ⊢
    refine (iEven_any a b _ ha hb).mono ?_; rw [H1.out]; rintro e w2 ⟨rfl, hb2⟩
    go_wp2_with fail
    go_ret
    exact ⟨congrArg (fun x => Ending.returned (.bool x)) (by unfold halvesB; rw [H1.out]; rfl), hb0.trans (hb2.mono hb0.size)⟩

set_option maxHeartbeats 2000000 in
set_option maxRecDepth 100000 in
theorem sCoarse_any (p : Value) (a b : Int) (t : Value) (xs : List Nat) (w : World) (hp : GP w p a b) (hu : FS .f32 w t xs) (h1 : fieldOk a b xs.length = true) (h2 : halves a b) :
    Calls Try.prog 101 #[p, t] w fun e w' => (∃ r, e = .returned (.tuple #[GV (a / 2) (b / 2), r]) ∧ FRes w.heap.size w' r (a / 2 * (b / 2)).toNat (csF a xs)) ∧ Below w.heap.size w w' := by
  obtain ⟨i0, hi, hz0, hz1, hz2⟩ := info_parts F32info
  have HU := Lib.hid hu
  obtain ⟨a1, c1, rfl, hlc, hcm, hwf, hmem⟩ := hu
  have HA := Lib.hid (fieldOk_true h1)
  obtain ⟨g, rfl, hg, hg0, hg1⟩ := hp
  have ht1 : a.tdiv 2 = a / 2 := Int.tdiv_eq_ediv_of_nonneg (by have := HA.out; omega)
  have ht2 : b.tdiv 2 = b / 2 := Int.tdiv_eq_ediv_of_nonneg (by have := HA.out; omega)
  have hw1 : IntKind.i64.wrap (a / 2) = a / 2 := by have := HA.out; rw [wrap_i64]; exact wrap64_of (by omega) (by omega)
  have hw2 : IntKind.i64.wrap (b / 2) = b / 2 := by have := HA.out; rw [wrap_i64]; exact wrap64_of (by omega) (by omega)
  clear h1 hmem hlc hcm
  go_enter Try.func101, Try.ntmps101
  go_wp2_with fail
  have HB0 := Lib.hid ((Below.refl w.heap.size w).alloc (Nat.le_refl _) (.cells #[.int .i64 0, .int .i64 0] 27))
  have HA0 := Lib.hid (heap_alloc_new w (.cells #[.int .i64 0, .int .i64 0] 27))
  have HS0 := Lib.hid (show w.heap.size < (w.alloc (.cells #[.int .i64 0, .int .i64 0] 27)).heap.size by simp)
  generalize w.alloc (.cells #[.int .i64 0, .int .i64 0] 27) = w1 at HB0 HA0 HS0 ⊢
  have c0 : w1.cell? ⟨g, 0, none⟩ = some (.int .i64 a) := by rw [HB0.out.cell (p := ⟨g, 0, none⟩) hg]; exact hg0
  have c1 : w1.cell? ⟨g, 1, none⟩ = some (.int .i64 b) := by rw [HB0.out.cell (p := ⟨g, 1, none⟩) hg]; exact hg1
  refine wp_region_noPanic ?_
  refine wp_region_held_drew (S := fun w' => w'.cell? ⟨g, 0, none⟩ = some (.int .i64 a) ∧ w'.cell? ⟨g, 1, none⟩ = some (.int .i64 b)) (by kernel_rfl) ⟨c0, c1⟩ (fun hHeld => ?_)
  have HD1 := Lib.hid (Below.refl w1.heap.size w1).drew
  clear c0 c1
  generalize w1.drew = v1 at HD1 hHeld ⊢
  ((refine wpAnyH_take (i := 0) (v := ?_) rfl (by kernel_rfl) (by kernel_rfl) (by kernel_rfl) (fun _ _ _ h => h) (Or.inl ⟨by rfl, ?_⟩) (by assumption) ?_; rotate_left; (· intro w hSw; (try dsimp only at hSw); go_simp; first | done | with_reducible rfl); (try simp only [List.getElem_toArray, List.getElem_cons_zero, List.getElem_cons_succ, Act.put, List.setIfInBounds_toArray, List.set_cons_zero, List.set_cons_succ])); (refine wpAnyH_take (i := 1) (v := ?_) rfl (by kernel_rfl) (by kernel_rfl) (by kernel_rfl) (fun _ _ _ h => h) (Or.inl ⟨by rfl, ?_⟩) (by assumption) ?_; rotate_left; (· intro w hSw; (try dsimp only at hSw); go_simp; first | done | with_reducible rfl); (try simp only [List.getElem_toArray, List.getElem_cons_zero, List.getElem_cons_succ, Act.put, List.setIfInBounds_toArray, List.set_cons_zero, List.set_cons_succ])); (refine wpAnyH_take (i := 2) (v := ?_) rfl (by kernel_rfl) (by kernel_rfl) (by kernel_rfl) (fun _ _ _ h => h) (Or.inl ⟨by rfl, ?_⟩) (by assumption) ?_; rotate_left; (· intro w hSw; (try dsimp only at hSw); go_simp; first | done | with_reducible rfl); (try simp only [List.getElem_toArray, List.getElem_cons_zero, List.getElem_cons_succ, Act.put, List.setIfInBounds_toArray, List.set_cons_zero, List.set_cons_succ])); (refine wpAnyH_take (i := 3) (v := ?_) rfl (by kernel_rfl) (by kernel_rfl) (by kernel_rfl) (fun _ _ _ h => h) (Or.inl ⟨by rfl, ?_⟩) (by assumption) ?_; rotate_left; (· intro w hSw; (try dsimp only at hSw); go_simp; first | done | with_reducible rfl); (try simp only [List.getElem_toArray, List.getElem_cons_zero, List.getElem_cons_succ, Act.put, List.setIfInBounds_toArray, List.set_cons_zero, List.set_cons_succ])); (refine wpAnyH_take (i := 4) (v := ?_) rfl (by kernel_rfl) (by kernel_rfl) (by kernel_rfl) (fun _ _ _ h => h) (Or.inl ⟨by rfl, ?_⟩) (by assumption) ?_; rotate_left; (· intro w hSw; (try dsimp only at hSw); go_simp; first | done | with_reducible rfl); (try simp only [List.getElem_toArray, List.getElem_cons_zero, List.getElem_cons_succ, Act.put, List.setIfInBounds_toArray, List.set_cons_zero, List.set_cons_succ])); (refine wpAnyH_take (i := 5) (v := ?_) rfl (by kernel_rfl) (by kernel_rfl) (by kernel_rfl) (fun _ _ _ h => h) (Or.inl ⟨by rfl, ?_⟩) (by assumption) ?_; rotate_left; (· intro w hSw; (try dsimp only at hSw); go_simp; first | done | with_reducible rfl); (try simp only [List.getElem_toArray, List.getElem_cons_zero, List.getElem_cons_succ, Act.put, List.setIfInBounds_toArray, List.set_cons_zero, List.set_cons_succ])); (refine wpAnyH_take (i := 6) (v := ?_) rfl (by kernel_rfl) (by kernel_rfl) (by kernel_rfl) (fun _ _ _ h => h) (Or.inl ⟨by rfl, ?_⟩) (by assumption) ?_; rotate_left; (· intro w hSw; (try dsimp only at hSw); go_simp; first | done | with_reducible rfl); (try simp only [List.getElem_toArray, List.getElem_cons_zero, List.getElem_cons_succ, Act.put, List.setIfInBounds_toArray, List.set_cons_zero, List.set_cons_succ])); (refine wpAnyH_take (i := 7) (v := ?_) rfl (by kernel_rfl) (by kernel_rfl) (by kernel_rfl) (fun _ _ _ h => h) (Or.inl ⟨by rfl, ?_⟩) (by assumption) ?_; rotate_left; (· intro w hSw; (try dsimp only at hSw); go_simp; first | done | with_reducible rfl); (try simp only [List.getElem_toArray, List.getElem_cons_zero, List.getElem_cons_succ, Act.put, List.setIfInBounds_toArray, List.set_cons_zero, List.set_cons_succ])); (refine wpAnyH_take (i := 8) (v := ?_) rfl (by kernel_rfl) (by kernel_rfl) (by kernel_rfl) (fun _ _ _ h => h) (Or.inl ⟨by rfl, ?_⟩) (by assumption) ?_; rotate_left; (· intro w hSw; (try dsimp only at hSw); go_simp; first | done | with_reducible rfl); (try simp only [List.getElem_toArray, List.getElem_cons_zero, List.getElem_cons_succ, Act.put, List.setIfInBounds_toArray, List.set_cons_zero, List.set_cons_succ])); (refine wpAnyH_take (i := 9) (v := ?_) rfl (by kernel_rfl) (by kernel_rfl) (by kernel_rfl) (fun _ _ _ h => h) (Or.inl ⟨by rfl, ?_⟩) (by assumption) ?_; rotate_left; (· intro w hSw; (try dsimp only at hSw); go_simp; first | done | with_reducible rfl); (try simp only [List.getElem_toArray, List.getElem_cons_zero, List.getElem_cons_succ, Act.put, List.setIfInBounds_toArray, List.set_cons_zero, List.set_cons_succ])); (refine wpAnyH_take (i := 10) (v := ?_) rfl (by kernel_rfl) (by kernel_rfl) (by kernel_rfl) (fun _ _ _ h => h) (Or.inl ⟨by rfl, ?_⟩) (by assumption) ?_; rotate_left; (· intro w hSw; (try dsimp only at hSw); go_simp; first | done | with_reducible rfl); (try simp only [List.getElem_toArray, List.getElem_cons_zero, List.getElem_cons_succ, Act.put, List.setIfInBounds_toArray, List.set_cons_zero, List.set_cons_succ])))
  (refine wpAnyH_ready (rs := [11]) (by kernel_rfl) (by simp) ?_; refine AllReadyH.cons (i := 11) rfl (fun K hK => ?_) AllReadyH.nil)
  go_simp
  go_wp2_with fail
  have HD2 := Lib.hid (HD1.out.alloc HD1.out.size (.cells #[.int .i64 0, .int .i64 0] 27))
  have HA2 := Lib.hid (heap_alloc_new v1 (.cells #[.int .i64 0, .int .i64 0] 27))
  have HK2 := Lib.hid HD1.out.size
  have HS2 := Lib.hid (show v1.heap.size < (v1.alloc (.cells #[.int .i64 0, .int .i64 0] 27)).heap.size by simp)
  generalize v1.alloc (.cells #[.int .i64 0, .int .i64 0] 27) = v2 at HD2 HA2 HS2 ⊢
  generalize v1.heap.size = k1 at HA2 HK2 HS2 ⊢
  have hgl : g < w1.heap.size := Nat.lt_of_lt_of_le hg HB0.out.size
  have hg2 : g ≠ k1 := Nat.ne_of_lt (Nat.lt_of_lt_of_le hgl HK2.out)
  have cc0 : v2.cell? ⟨g, 0, none⟩ = some (.int .i64 a) := by rw [HD2.out.cell (p := ⟨g, 0, none⟩) hgl, HB0.out.cell (p := ⟨g, 0, none⟩) hg]; exact hg0
  have cc1 : v2.cell? ⟨g, 1, none⟩ = some (.int .i64 b) := by rw [HD2.out.cell (p := ⟨g, 1, none⟩) hgl, HB0.out.cell (p := ⟨g, 1, none⟩) hg]; exact hg1
  (refine hK.out _ _ (⟨cc0, cc1⟩) (fun hHeld => ?_); clear hK K; (try simp only [List.getElem_toArray, List.getElem_cons_zero, List.getElem_cons_succ, Act.put, List.setIfInBounds_toArray, List.set_cons_zero, List.set_cons_succ]))
  have z0 : v2.cell? ⟨k1, 0, none⟩ = some (.int .i64 0) := by rw [Joins.cell_of_block HA2.out]; rfl
  have z1 : v2.cell? ⟨k1, 1, none⟩ = some (.int .i64 0) := by rw [Joins.cell_of_block HA2.out]; rfl
  have f0 : v2.frozen? ⟨k1, 0, none⟩ = false := by simp [World.frozen?, HA2.out]
  have f1 : v2.frozen? ⟨k1, 1, none⟩ = false := by simp [World.frozen?, HA2.out]
  (refine wpAnyH_ready (rs := [12]) (by kernel_rfl) (by simp) ?_; refine AllReadyH.cons (i := 12) rfl (fun K hK => ?_) AllReadyH.nil)
  go_simp
  have HD3 := Lib.hid ((HD2.out.setCell (p := ⟨k1, 0, none⟩) HK2.out (.int .i64 (a / 2))).setCell (p := ⟨k1, 1, none⟩) HK2.out (.int .i64 (b / 2)))
  have HP3 := Lib.hid (show GP ((v2.setCell ⟨k1, 0, none⟩ (.int .i64 (a / 2))).setCell ⟨k1, 1, none⟩ (.int .i64 (b / 2))) (.pointer (some ⟨k1, 0, none⟩)) (a / 2) (b / 2) from ⟨k1, rfl, by simpa using HS2.out, by go_simp, by go_simp⟩)
  generalize (v2.setCell ⟨k1, 0, none⟩ (.int .i64 (a / 2))).setCell ⟨k1, 1, none⟩ (.int .i64 (b / 2)) = w3 at HD3 HP3 ⊢
  have ce0 : w3.cell? ⟨g, 0, none⟩ = some (.int .i64 a) := by rw [HD3.out.cell (p := ⟨g, 0, none⟩) hgl, HB0.out.cell (p := ⟨g, 0, none⟩) hg]; exact hg0
  have ce1 : w3.cell? ⟨g, 1, none⟩ = some (.int .i64 b) := by rw [HD3.out.cell (p := ⟨g, 1, none⟩) hgl, HB0.out.cell (p := ⟨g, 1, none⟩) hg]; exact hg1
  (refine hK.out _ _ (⟨ce0, ce1⟩) (fun hHeld => ?_); clear hK K; (try simp only [List.getElem_toArray, List.getElem_cons_zero, List.getElem_cons_succ, Act.put, List.setIfInBounds_toArray, List.set_cons_zero, List.set_cons_succ]))
  (refine wpAnyH_done (by kernel_rfl) ?_ _; refine NoPanic.normal ?_)
  clear cc0 cc1 ce0 ce1 hHeld z0 z1 f0 f1 HD2
  go_wp2_with fail
  have hown0 := own_start w3.heap.size w3 (Nat.le_refl _)
  have hbel0 := (Below.refl w3.heap.size w3).alloc (Nat.le_refl _) (.cells #[] 37)
  generalize w3.alloc (.cells #[] 37) = w4 at hown0 hbel0 ⊢
  have HO0 := Lib.hid hown0
  have HDD := Lib.hid hbel0
  have HG := Lib.hid (show GP w3 (.pointer (some ⟨g, 0, none⟩)) a b from (GP.below ⟨g, rfl, hg, hg0, hg1⟩ (HB0.out.trans (HD3.out.mono HB0.out.size))))
  have HBW := Lib.hid (HB0.out.trans (HD3.out.mono HB0.out.size))
  clear hown0 hbel0 hg0 hg1 hw1 hw2 ht1 ht2 HK2 HS2
  have hA : 4 ≤ a ∧ a ≤ 16 ∧ 4 ≤ b ∧ b ≤ 16 := ⟨HA.out.1, HA.out.2.1, HA.out.2.2.1, HA.out.2.2.2.1⟩
  go_loopw [7, 8] (fun s i wr => ∃ (v : Nat) (rs : List Nat), i = .int .i64 (v : Int) ∧ (v : Int) ≤ b / 2 ∧ Hid ((rs.length : Int) = a / 2 * v) ∧ Hid (Eqs rs (csF a xs)) ∧ (∃ g cap, s = .slice (some ⟨g, 0, none⟩) rs.length cap ∧ Hid (wr.ownsRow w3.heap.size 37 1 s rs.length (rs.map (Value.float .f32)))) ∧ Hid (Below w3.heap.size w3 wr)) (fun _ i _ => (b / 2 - intOf i).toNat)
  case atStart => exact ⟨0, [], rfl, by omega, Lib.hid (by simp), Lib.hid (Eqs.nil _), ⟨_, _, rfl, HO0⟩, HDD⟩
  case round =>
    clear HO0 HDD
    obtain ⟨v, rs, rfl, hv, HL, HE, ⟨gr, cap, rfl, HO⟩, HD⟩ := hrel
    have hc0 := (HP3.out.ever _ HD.out).1
    have hc1 := (HP3.out.ever _ HD.out).2
    by_cases hlt : (v : Int) < b / 2
    · go_wp2_with fail
      go_loopw [7, 9] (fun s i wr => ∃ (u : Nat) (rs : List Nat), i = .int .i64 (u : Int) ∧ (u : Int) ≤ a / 2 ∧ Hid ((rs.length : Int) = a / 2 * v + u) ∧ Hid (Eqs rs (csF a xs)) ∧ (∃ g cap, s = .slice (some ⟨g, 0, none⟩) rs.length cap ∧ Hid (wr.ownsRow w3.heap.size 37 1 s rs.length (rs.map (Value.float .f32)))) ∧ Hid (Below w3.heap.size w3 wr)) (fun _ i _ => (a / 2 - intOf i).toNat)
      case atStart => exact ⟨0, rs, rfl, by omega, Lib.hid (by have := HL.out; omega), HE, ⟨gr, cap, rfl, HO⟩, HD⟩
      case round =>
        clear HL HE HO HD hc0 hc1
        obtain ⟨u, ss, rfl, hu, HL, HE, ⟨gr, cap, rfl, HO⟩, HD⟩ := hrel
        have hc0 := (HP3.out.ever _ HD.out).1
        have hc1 := (HP3.out.ever _ HD.out).2
        have he0 := (HG.out.ever _ HD.out).1
        have he1 := (HG.out.ever _ HD.out).2
        by_cases hlu : (u : Int) < a / 2
        · obtain ⟨e1, e2, e3, e4⟩ := csI_facts (a := a) (b := b) hA.1 h2 hlu hlt
          have hF := csF_at xs hA.1 hlu HL.out
          generalize csI a u v = k at e1 e2 hF
          obtain ⟨l, hl⟩ : ∃ l, k + a.toNat = l := ⟨_, rfl⟩
          have hl1 : (l : Int) = (k : Int) + a := by omega
          unfold csN quarterF at hF
          rw [hl] at hF
          have hn := HA.out.2.2.2.2.1
          have l0 : k < xs.length := by omega
          have l1 : k + 1 < xs.length := by omega
          have l2 : l < xs.length := by omega
          have l3 : l + 1 < xs.length := by omega
          have HBX := Lib.hid (HBW.out.trans (HD.out.mono HBW.out.size))
          obtain ⟨bk, ok, e5, hcx⟩ := FS.at HU.out HBX.out l0
          obtain rfl := e5
          have C0 := Lib.hid (FS.ever HU.out l0); have C1 := Lib.hid (FS.ever HU.out l1); have C2 := Lib.hid (FS.ever HU.out l2); have C3 := Lib.hid (FS.ever HU.out l3)
          have i0' := FS.is hwf k l0; have i1' := FS.is hwf (k + 1) l1; have i2' := FS.is hwf l l2; have i3' := FS.is hwf (l + 1) l3
          generalize cn .f32 (xs.getD k 0) = X0 at i0' hF
          generalize cn .f32 (xs.getD (k + 1) 0) = X1 at i1' hF
          generalize cn .f32 (xs.getD l 0) = X2 at i2' hF
          generalize cn .f32 (xs.getD (l + 1) 0) = X3 at i3' hF
          generalize xs.getD k 0 = x0 at i0' C0 hcx
          generalize xs.getD (k + 1) 0 = x1 at i1' C1
          generalize xs.getD l 0 = x2 at i2' C2
          generalize xs.getD (l + 1) 0 = x3 at i3' C3
          have HF := Lib.hid hF
          have hn256 := HA.out.2.2.2.2.2
          have hm0 : 0 ≤ a * (2 * (v : Int)) := Int.mul_nonneg (by omega) (by omega)
          have em : a * 2 * (v : Int) = a * (2 * (v : Int)) := Int.mul_assoc ..
          have hwa : wrap64 (2 * (u : Int)) = 2 * (u : Int) := wrap64_of (by omega) (by omega)
          have hwb : wrap64 (a * 2) = a * 2 := wrap64_of (by omega) (by omega)
          have hwc : wrap64 (a * 2 * (v : Int)) = a * (2 * (v : Int)) := by rw [em]; exact wrap64_of (by omega) (by omega)
          have hwd : wrap64 (2 * (u : Int) + a * (2 * (v : Int))) = (k : Int) := by rw [e1]; exact wrap64_of (by omega) (by omega)
          have hq4 : IntKind.i64.wrap ((k : Int) + 1) = (k : Int) + 1 := by rw [wrap_i64]; exact wrap64_of (by omega) (by omega)
          have hq5 : IntKind.i64.wrap ((k : Int) + a) = (l : Int) := by rw [wrap_i64, ← hl1]; exact wrap64_of (by omega) (by omega)
          have hq6 : IntKind.i64.wrap ((l : Int) + 1) = (l : Int) + 1 := by rw [wrap_i64]; exact wrap64_of (by omega) (by omega)
          have m0 : (0 : Int) ≤ (k : Int) := Int.natCast_nonneg _
          have m1 : (k : Int) < (xs.length : Int) := by omega
          have m2 : (0 : Int) ≤ (l : Int) := Int.natCast_nonneg _
          have m3 : (l : Int) < (xs.length : Int) := by omega
          have m4 : (0 : Int) ≤ (k : Int) + 1 := by omega
          have m5 : (k : Int) + 1 < (xs.length : Int) := by omega
          have m6 : (0 : Int) ≤ (l : Int) + 1 := by omega
          have m7 : (l : Int) + 1 < (xs.length : Int) := by omega
          have m8 : ((k : Int) + 1).toNat = k + 1 := by omega
          have m9 : ((l : Int) + 1).toNat = l + 1 := by omega
          have hlen : ss.length < 1024 := by
            have := HL.out
            have hm : a / 2 * ((v : Int) + 1) ≤ a / 2 * (b / 2) := Int.mul_le_mul_of_nonneg_left (by omega) (by omega)
            have hm2 : a / 2 * (b / 2) ≤ 16 * 16 := Int.mul_le_mul (by omega) (by omega) (by omega) (by omega)
            rw [Int.mul_add, Int.mul_one] at hm
            omega
          clear hF e1 e2 e3 e4 hm0 em hl hl1 hcx l0 l1 l2 l3 hn
          go_wp2_with fail
          refine wp_region_noPanic ?_
          refine wp_region_held_drew (S := fun w' => w'.cell? ⟨g, 0, none⟩ = some (.int .i64 a) ∧ w'.cell? ⟨bk, ok + k, none⟩ = some (.float .f32 x0) ∧ w'.cell? ⟨bk, ok + (k + 1), none⟩ = some (.float .f32 x1) ∧ w'.cell? ⟨bk, ok + l, none⟩ = some (.float .f32 x2) ∧ w'.cell? ⟨bk, ok + (l + 1), none⟩ = some (.float .f32 x3)) (by kernel_rfl) ⟨he0, C0.out _ HBX.out.drew, C1.out _ HBX.out.drew, C2.out _ HBX.out.drew, C3.out _ HBX.out.drew⟩ (fun hHeld => ?_)
          have hbd := (Below.refl wr.heap.size wr).drew
          have P1 := Lib.hid (World.ownsRow.kept HO.out (grown_below (row := none) hbd) (by simp [Value.ownBlock]))
          have E1 := Lib.hid (HD.out.trans (hbd.mono HD.out.size))
          clear hbd
          generalize wr.drew = v1 at hHeld P1 E1 ⊢
          ((refine wpAnyH_take (i := 0) (v := ?_) rfl (by kernel_rfl) (by kernel_rfl) (by kernel_rfl) (fun _ _ _ h => h) (Or.inl ⟨by rfl, ?_⟩) (by assumption) ?_; rotate_left; (· intro w hSw; (try dsimp only at hSw); go_simp; first | done | with_reducible rfl); (try simp only [List.getElem_toArray, List.getElem_cons_zero, List.getElem_cons_succ, Act.put, List.setIfInBounds_toArray, List.set_cons_zero, List.set_cons_succ])); (refine wpAnyH_take (i := 1) (v := ?_) rfl (by kernel_rfl) (by kernel_rfl) (by kernel_rfl) (fun _ _ _ h => h) (Or.inl ⟨by rfl, ?_⟩) (by assumption) ?_; rotate_left; (· intro w hSw; (try dsimp only at hSw); go_simp; first | done | with_reducible rfl); (try simp only [List.getElem_toArray, List.getElem_cons_zero, List.getElem_cons_succ, Act.put, List.setIfInBounds_toArray, List.set_cons_zero, List.set_cons_succ])); (refine wpAnyH_take (i := 2) (v := ?_) rfl (by kernel_rfl) (by kernel_rfl) (by kernel_rfl) (fun _ _ _ h => h) (Or.inl ⟨by rfl, ?_⟩) (by assumption) ?_; rotate_left; (· intro w hSw; (try dsimp only at hSw); go_simp; first | done | with_reducible rfl); (try simp only [List.getElem_toArray, List.getElem_cons_zero, List.getElem_cons_succ, Act.put, List.setIfInBounds_toArray, List.set_cons_zero, List.set_cons_succ])); (refine wpAnyH_take (i := 3) (v := ?_) rfl (by kernel_rfl) (by kernel_rfl) (by kernel_rfl) (fun _ _ _ h => h) (Or.inl ⟨by rfl, ?_⟩) (by assumption) ?_; rotate_left; (· intro w hSw; (try dsimp only at hSw); go_simp; first | done | with_reducible rfl); (try simp only [List.getElem_toArray, List.getElem_cons_zero, List.getElem_cons_succ, Act.put, List.setIfInBounds_toArray, List.set_cons_zero, List.set_cons_succ])); (refine wpAnyH_take (i := 4) (v := ?_) rfl (by kernel_rfl) (by kernel_rfl) (by kernel_rfl) (fun _ _ _ h => h) (Or.inl ⟨by rfl, ?_⟩) (by assumption) ?_; rotate_left; (· intro w hSw; (try dsimp only at hSw); go_simp; first | done | with_reducible rfl); (try simp only [List.getElem_toArray, List.getElem_cons_zero, List.getElem_cons_succ, Act.put, List.setIfInBounds_toArray, List.set_cons_zero, List.set_cons_succ])); (refine wpAnyH_take (i := 5) (v := ?_) rfl (by kernel_rfl) (by kernel_rfl) (by kernel_rfl) (fun _ _ _ h => h) (Or.inl ⟨by rfl, ?_⟩) (by assumption) ?_; rotate_left; (· intro w hSw; (try dsimp only at hSw); go_simp; first | done | with_reducible rfl); (try simp only [List.getElem_toArray, List.getElem_cons_zero, List.getElem_cons_succ, Act.put, List.setIfInBounds_toArray, List.set_cons_zero, List.set_cons_succ])); (refine wpAnyH_take (i := 6) (v := ?_) rfl (by kernel_rfl) (by kernel_rfl) (by kernel_rfl) (fun _ _ _ h => h) (Or.inl ⟨by rfl, ?_⟩) (by assumption) ?_; rotate_left; (· intro w hSw; (try dsimp only at hSw); go_simp; first | done | with_reducible rfl); (try simp only [List.getElem_toArray, List.getElem_cons_zero, List.getElem_cons_succ, Act.put, List.setIfInBounds_toArray, List.set_cons_zero, List.set_cons_succ])); (refine wpAnyH_take (i := 7) (v := ?_) rfl (by kernel_rfl) (by kernel_rfl) (by kernel_rfl) (fun _ _ _ h => h) (Or.inl ⟨by rfl, ?_⟩) (by assumption) ?_; rotate_left; (· intro w hSw; (try dsimp only at hSw); go_simp; first | done | with_reducible rfl); (try simp only [List.getElem_toArray, List.getElem_cons_zero, List.getElem_cons_succ, Act.put, List.setIfInBounds_toArray, List.set_cons_zero, List.set_cons_succ])); (refine wpAnyH_take (i := 8) (v := ?_) rfl (by kernel_rfl) (by kernel_rfl) (by kernel_rfl) (fun _ _ _ h => h) (Or.inl ⟨by rfl, ?_⟩) (by assumption) ?_; rotate_left; (· intro w hSw; (try dsimp only at hSw); go_simp; first | done | with_reducible rfl); (try simp only [List.getElem_toArray, List.getElem_cons_zero, List.getElem_cons_succ, Act.put, List.setIfInBounds_toArray, List.set_cons_zero, List.set_cons_succ])); (refine wpAnyH_take (i := 9) (v := ?_) rfl (by kernel_rfl) (by kernel_rfl) (by kernel_rfl) (fun _ _ _ h => h) (Or.inl ⟨by rfl, ?_⟩) (by assumption) ?_; rotate_left; (· intro w hSw; (try dsimp only at hSw); go_simp; first | done | with_reducible rfl); (try simp only [List.getElem_toArray, List.getElem_cons_zero, List.getElem_cons_succ, Act.put, List.setIfInBounds_toArray, List.set_cons_zero, List.set_cons_succ])); (refine wpAnyH_take (i := 11) (v := ?_) rfl (by kernel_rfl) (by kernel_rfl) (by kernel_rfl) (fun _ _ _ h => h) (Or.inl ⟨by rfl, ?_⟩) (by assumption) ?_; rotate_left; (· intro w hSw; (try dsimp only at hSw); go_simp; first | done | with_reducible rfl); (try simp only [List.getElem_toArray, List.getElem_cons_zero, List.getElem_cons_succ, Act.put, List.setIfInBounds_toArray, List.set_cons_zero, List.set_cons_succ])); (refine wpAnyH_take (i := 12) (v := ?_) rfl (by kernel_rfl) (by kernel_rfl) (by kernel_rfl) (fun _ _ _ h => h) (Or.inl ⟨by rfl, ?_⟩) (by assumption) ?_; rotate_left; (· intro w hSw; (try dsimp only at hSw); go_simp; first | done | with_reducible rfl); (try simp only [List.getElem_toArray, List.getElem_cons_zero, List.getElem_cons_succ, Act.put, List.setIfInBounds_toArray, List.set_cons_zero, List.set_cons_succ])); (refine wpAnyH_take (i := 13) (v := ?_) rfl (by kernel_rfl) (by kernel_rfl) (by kernel_rfl) (fun _ _ _ h => h) (Or.inl ⟨by rfl, ?_⟩) (by assumption) ?_; rotate_left; (· intro w hSw; (try dsimp only at hSw); go_simp; first | done | with_reducible rfl); (try simp only [List.getElem_toArray, List.getElem_cons_zero, List.getElem_cons_succ, Act.put, List.setIfInBounds_toArray, List.set_cons_zero, List.set_cons_succ])); (refine wpAnyH_take (i := 14) (v := ?_) rfl (by kernel_rfl) (by kernel_rfl) (by kernel_rfl) (fun _ _ _ h => h) (Or.inl ⟨by rfl, ?_⟩) (by assumption) ?_; rotate_left; (· intro w hSw; (try dsimp only at hSw); go_simp; first | done | with_reducible rfl); (try simp only [List.getElem_toArray, List.getElem_cons_zero, List.getElem_cons_succ, Act.put, List.setIfInBounds_toArray, List.set_cons_zero, List.set_cons_succ])); (refine wpAnyH_take (i := 15) (v := ?_) rfl (by kernel_rfl) (by kernel_rfl) (by kernel_rfl) (fun _ _ _ h => h) (Or.inl ⟨by rfl, ?_⟩) (by assumption) ?_; rotate_left; (· intro w hSw; (try dsimp only at hSw); go_simp; first | done | with_reducible rfl); (try simp only [List.getElem_toArray, List.getElem_cons_zero, List.getElem_cons_succ, Act.put, List.setIfInBounds_toArray, List.set_cons_zero, List.set_cons_succ])); (refine wpAnyH_take (i := 16) (v := ?_) rfl (by kernel_rfl) (by kernel_rfl) (by kernel_rfl) (fun _ _ _ h => h) (Or.inl ⟨by rfl, ?_⟩) (by assumption) ?_; rotate_left; (· intro w hSw; (try dsimp only at hSw); go_simp; first | done | with_reducible rfl); (try simp only [List.getElem_toArray, List.getElem_cons_zero, List.getElem_cons_succ, Act.put, List.setIfInBounds_toArray, List.set_cons_zero, List.set_cons_succ])); (refine wpAnyH_take (i := 17) (v := ?_) rfl (by kernel_rfl) (by kernel_rfl) (by kernel_rfl) (fun _ _ _ h => h) (Or.inl ⟨by rfl, ?_⟩) (by assumption) ?_; rotate_left; (· intro w hSw; (try dsimp only at hSw); go_simp; first | done | with_reducible rfl); (try simp only [List.getElem_toArray, List.getElem_cons_zero, List.getElem_cons_succ, Act.put, List.setIfInBounds_toArray, List.set_cons_zero, List.set_cons_succ])); (refine wpAnyH_take (i := 18) (v := ?_) rfl (by kernel_rfl) (by kernel_rfl) (by kernel_rfl) (fun _ _ _ h => h) (Or.inl ⟨by rfl, ?_⟩) (by assumption) ?_; rotate_left; (· intro w hSw; (try dsimp only at hSw); go_simp; first | done | with_reducible rfl); (try simp only [List.getElem_toArray, List.getElem_cons_zero, List.getElem_cons_succ, Act.put, List.setIfInBounds_toArray, List.set_cons_zero, List.set_cons_succ])); (refine wpAnyH_take (i := 19) (v := ?_) rfl (by kernel_rfl) (by kernel_rfl) (by kernel_rfl) (fun _ _ _ h => h) (Or.inl ⟨by rfl, ?_⟩) (by assumption) ?_; rotate_left; (· intro w hSw; (try dsimp only at hSw); go_simp; first | done | with_reducible rfl); (try simp only [List.getElem_toArray, List.getElem_cons_zero, List.getElem_cons_succ, Act.put, List.setIfInBounds_toArray, List.set_cons_zero, List.set_cons_succ])); (refine wpAnyH_take (i := 21) (v := ?_) rfl (by kernel_rfl) (by kernel_rfl) (by kernel_rfl) (fun _ _ _ h => h) (Or.inl ⟨by rfl, ?_⟩) (by assumption) ?_; rotate_left; (· intro w hSw; (try dsimp only at hSw); go_simp; first | done | with_reducible rfl); (try simp only [List.getElem_toArray, List.getElem_cons_zero, List.getElem_cons_succ, Act.put, List.setIfInBounds_toArray, List.set_cons_zero, List.set_cons_succ])); (refine wpAnyH_take (i := 22) (v := ?_) rfl (by kernel_rfl) (by kernel_rfl) (by kernel_rfl) (fun _ _ _ h => h) (Or.inl ⟨by rfl, ?_⟩) (by assumption) ?_; rotate_left; (· intro w hSw; (try dsimp only at hSw); go_simp; first | done | with_reducible rfl); (try simp only [List.getElem_toArray, List.getElem_cons_zero, List.getElem_cons_succ, Act.put, List.setIfInBounds_toArray, List.set_cons_zero, List.set_cons_succ])); (refine wpAnyH_take (i := 23) (v := ?_) rfl (by kernel_rfl) (by kernel_rfl) (by kernel_rfl) (fun _ _ _ h => h) (Or.inl ⟨by rfl, ?_⟩) (by assumption) ?_; rotate_left; (· intro w hSw; (try dsimp only at hSw); go_simp; first | done | with_reducible rfl); (try simp only [List.getElem_toArray, List.getElem_cons_zero, List.getElem_cons_succ, Act.put, List.setIfInBounds_toArray, List.set_cons_zero, List.set_cons_succ])); (refine wpAnyH_take (i := 24) (v := ?_) rfl (by kernel_rfl) (by kernel_rfl) (by kernel_rfl) (fun _ _ _ h => h) (Or.inl ⟨by rfl, ?_⟩) (by assumption) ?_; rotate_left; (· intro w hSw; (try dsimp only at hSw); go_simp; first | done | with_reducible rfl); (try simp only [List.getElem_toArray, List.getElem_cons_zero, List.getElem_cons_succ, Act.put, List.setIfInBounds_toArray, List.set_cons_zero, List.set_cons_succ])); (refine wpAnyH_take (i := 25) (v := ?_) rfl (by kernel_rfl) (by kernel_rfl) (by kernel_rfl) (fun _ _ _ h => h) (Or.inl ⟨by rfl, ?_⟩) (by assumption) ?_; rotate_left; (· intro w hSw; (try dsimp only at hSw); go_simp; first | done | with_reducible rfl); (try simp only [List.getElem_toArray, List.getElem_cons_zero, List.getElem_cons_succ, Act.put, List.setIfInBounds_toArray, List.set_cons_zero, List.set_cons_succ])); (refine wpAnyH_take (i := 26) (v := ?_) rfl (by kernel_rfl) (by kernel_rfl) (by kernel_rfl) (fun _ _ _ h => h) (Or.inl ⟨by rfl, ?_⟩) (by assumption) ?_; rotate_left; (· intro w hSw; (try dsimp only at hSw); go_simp; first | done | with_reducible rfl); (try simp only [List.getElem_toArray, List.getElem_cons_zero, List.getElem_cons_succ, Act.put, List.setIfInBounds_toArray, List.set_cons_zero, List.set_cons_succ])); (refine wpAnyH_take (i := 27) (v := ?_) rfl (by kernel_rfl) (by kernel_rfl) (by kernel_rfl) (fun _ _ _ h => h) (Or.inl ⟨by rfl, ?_⟩) (by assumption) ?_; rotate_left; (· intro w hSw; (try dsimp only at hSw); go_simp; first | done | with_reducible rfl); (try simp only [List.getElem_toArray, List.getElem_cons_zero, List.getElem_cons_succ, Act.put, List.setIfInBounds_toArray, List.set_cons_zero, List.set_cons_succ])); (refine wpAnyH_take (i := 28) (v := ?_) rfl (by kernel_rfl) (by kernel_rfl) (by kernel_rfl) (fun _ _ _ h => h) (Or.inl ⟨by rfl, ?_⟩) (by assumption) ?_; rotate_left; (· intro w hSw; (try dsimp only at hSw); go_simp; first | done | with_reducible rfl); (try simp only [List.getElem_toArray, List.getElem_cons_zero, List.getElem_cons_succ, Act.put, List.setIfInBounds_toArray, List.set_cons_zero, List.set_cons_succ])); (refine wpAnyH_take (i := 29) (v := ?_) rfl (by kernel_rfl) (by kernel_rfl) (by kernel_rfl) (fun _ _ _ h => h) (Or.inl ⟨by rfl, ?_⟩) (by assumption) ?_; rotate_left; (· intro w hSw; (try dsimp only at hSw); go_simp; first | done | with_reducible rfl); (try simp only [List.getElem_toArray, List.getElem_cons_zero, List.getElem_cons_succ, Act.put, List.setIfInBounds_toArray, List.set_cons_zero, List.set_cons_succ])); (refine wpAnyH_take (i := 30) (v := ?_) rfl (by kernel_rfl) (by kernel_rfl) (by kernel_rfl) (fun _ _ _ h => h) (Or.inl ⟨by rfl, ?_⟩) (by assumption) ?_; rotate_left; (· intro w hSw; (try dsimp only at hSw); go_simp; first | done | with_reducible rfl); (try simp only [List.getElem_toArray, List.getElem_cons_zero, List.getElem_cons_succ, Act.put, List.setIfInBounds_toArray, List.set_cons_zero, List.set_cons_succ])))
          (refine wpAnyH_ready (rs := [10]) (by kernel_rfl) (by simp) ?_; refine AllReadyH.cons (i := 10) rfl (fun K hK => ?_) AllReadyH.nil)
          refine hstep_fa rfl .add 37 37 _ _ rfl rfl .f32 x0 x1 rfl rfl i0' i1' ?_
          intro r1 n1 hr1
          (refine hK.out _ _ (by assumption) (fun hHeld => ?_); clear hK K; (try simp only [List.getElem_toArray, List.getElem_cons_zero, List.getElem_cons_succ, Act.put, List.setIfInBounds_toArray, List.set_cons_zero, List.set_cons_succ]))
          (refine wpAnyH_ready (rs := [20]) (by kernel_rfl) (by simp) ?_; refine AllReadyH.cons (i := 20) rfl (fun K hK => ?_) AllReadyH.nil)
          refine hstep_fa rfl .add 37 37 _ _ rfl rfl .f32 r1 x2 rfl rfl hr1 i2' ?_
          intro r2 n2 hr2
          (refine hK.out _ _ (by assumption) (fun hHeld => ?_); clear hK K; (try simp only [List.getElem_toArray, List.getElem_cons_zero, List.getElem_cons_succ, Act.put, List.setIfInBounds_toArray, List.set_cons_zero, List.set_cons_succ]))
          (refine wpAnyH_ready (rs := [31]) (by kernel_rfl) (by simp) ?_; refine AllReadyH.cons (i := 31) rfl (fun K hK => ?_) AllReadyH.nil)
          refine hstep_fa rfl .add 37 37 _ _ rfl rfl .f32 r2 x3 rfl rfl hr2 i3' ?_
          intro r3 n3 hr3
          (refine hK.out _ _ (by assumption) (fun hHeld => ?_); clear hK K; (try simp only [List.getElem_toArray, List.getElem_cons_zero, List.getElem_cons_succ, Act.put, List.setIfInBounds_toArray, List.set_cons_zero, List.set_cons_succ]))
          (refine wpAnyH_ready (rs := [32]) (by kernel_rfl) (by simp) ?_; refine AllReadyH.cons (i := 32) rfl (fun K hK => ?_) AllReadyH.nil)
          refine hstep_fa rfl .mul 37 37 _ _ rfl rfl .f32 1048576000 r3 rfl rfl (Is.const rfl) hr3 ?_
          intro r4 n4 hr4
          (refine hK.out _ _ (by assumption) (fun hHeld => ?_); clear hK K; (try simp only [List.getElem_toArray, List.getElem_cons_zero, List.getElem_cons_succ, Act.put, List.setIfInBounds_toArray, List.set_cons_zero, List.set_cons_succ]))
          (refine wpAnyH_ready (rs := [33]) (by kernel_rfl) (by simp) ?_; refine AllReadyH.cons (i := 33) rfl (fun K hK => ?_) AllReadyH.nil)
          go_simp
          have hb4 := (below_drewN (Below.refl v1.heap.size v1) (n1 + n2 + n3 + n4)).alloc (Nat.le_refl _) (.cells #[.float .f32 r4] 37)
          have hown3 := World.ownsRow.kept P1.out (grown_below (row := none) hb4) (by simp [Value.ownBlock])
          have E2 := Lib.hid (E1.out.trans (hb4.mono E1.out.size))
          have HBY := Lib.hid (HBW.out.trans (E2.out.mono HBW.out.size))
          (refine hK.out _ _ (⟨And.left (HG.out.ever _ E2.out), C0.out _ HBY.out, C1.out _ HBY.out, C2.out _ HBY.out, C3.out _ HBY.out⟩) (fun hHeld => ?_); clear hK K; (try simp only [List.getElem_toArray, List.getElem_cons_zero, List.getElem_cons_succ, Act.put, List.setIfInBounds_toArray, List.set_cons_zero, List.set_cons_succ]))
          (refine wpAnyH_ready (rs := [34]) (by kernel_rfl) (by simp) ?_; refine AllReadyH.cons (i := 34) rfl (fun K hK => ?_) AllReadyH.nil)
          refine step_append_lies _ (by rfl) _ _ _ (by rfl) w3.heap.size 37 i0 _ 1 4 Try.underlying24 hi hz0 hz1 hz2 rfl (by omega) (.slice (some ⟨gr, 0, none⟩) ss.length cap) ss.length (ss.map (Value.float .f32)) (by rfl) hown3
            ⟨v1.heap.size, 0, none⟩ 1 1 [.float .f32 r4] (by rfl) (by rfl) (World.news_of_block (cs := #[.float .f32 r4]) (t := 37) (fr := (0, 0)) (heap_alloc_new _ _)) (by simp [Value.oneCell'])
            (by omega) (by unfold maxLen; omega) (by omega) E2.out.size (v1.heap.size + 1) (by simp) ?_
          intro g2 cap2 w3' hown4 hgrow hat hltg
          have hb5 := Lib.hid (E2.out.grown hgrow E2.out.size (fun k hk => (hown3.lt k hk).1))
          have HBZ := Lib.hid (HBW.out.trans (hb5.out.mono HBW.out.size))
          (refine hK.out _ _ (⟨And.left (HG.out.ever _ hb5.out), C0.out _ HBZ.out, C1.out _ HBZ.out, C2.out _ HBZ.out, C3.out _ HBZ.out⟩) (fun hHeld => ?_); clear hK K; (try simp only [List.getElem_toArray, List.getElem_cons_zero, List.getElem_cons_succ, Act.put, List.setIfInBounds_toArray, List.set_cons_zero, List.set_cons_succ]))
          (refine wpAnyH_ready (rs := [35]) (by kernel_rfl) (by simp) ?_; refine AllReadyH.cons (i := 35) rfl (fun K hK => ?_) AllReadyH.nil)
          go_simp
          (refine hK.out _ _ (by assumption) (fun hHeld => ?_); clear hK K; (try simp only [List.getElem_toArray, List.getElem_cons_zero, List.getElem_cons_succ, Act.put, List.setIfInBounds_toArray, List.set_cons_zero, List.set_cons_succ]))
          (refine wpAnyH_done (by kernel_rfl) ?_ _; refine NoPanic.normal ?_)
          have HO4 := Lib.hid (show w3'.ownsRow w3.heap.size 37 1 (.slice (some ⟨g2, 0, none⟩) (ss ++ [r4]).length cap2) (ss ++ [r4]).length ((ss ++ [r4]).map (Value.float .f32)) by simpa using hown4)
          have HE4 := Lib.hid (HE.out.snoc (r := r4) (by rw [HF.out]; exact hr4))
          have HL4 := Lib.hid (show (ss ++ [r4]).length = ss.length + 1 by simp)
          have HL7 := Lib.hid (show ((ss ++ [r4]).length : Int) = a / 2 * v + ((u + 1 : Nat) : Int) by have := HL.out; rw [HL4.out]; omega)
          clear hown3 hown4 hgrow hat hHeld hb4 hr1 hr2 hr3 hr4 hltg hwa hwb hwc hwd hq4 hq5 hq6 m4 m5 m6 m7 m8 m9
          go_wp2
          go_roundw
          case rel => exact ⟨u + 1, ss ++ [r4], by go_num, by omega, HL7, HE4, ⟨g2, cap2, by rw [HL4.out], by rw [HL4.out] at HO4 ⊢; exact HO4⟩, hb5⟩
          case measure => simp [intOf]; omega
        · have hua : (u : Int) = a / 2 := by omega
          have HL8 := Lib.hid (show (ss.length : Int) = a / 2 * ((v + 1 : Nat) : Int) by have := HL.out; rw [this, hua]; simp [Int.mul_add])
          clear hua
          go_wp2
          go_roundw
          case rel => exact ⟨v + 1, ss, by go_num, by omega, HL8, HE, ⟨gr, cap, rfl, HO⟩, HD⟩
          case measure => simp [intOf]; omega
    · have hvb : (v : Int) = b / 2 := by omega
      have HK9 := Lib.hid (show rs.length = (a / 2 * (b / 2)).toNat by have h1 := HL.out; rw [hvb] at h1; omega)
      have hk0 : w.heap.size < w3.heap.size := Nat.lt_of_lt_of_le HS0.out HD3.out.size
      have HA3 := (HD3.out.block w.heap.size HS0.out).trans HA0.out
      have HA9 := (HD.out.block w.heap.size hk0).trans HA3
      have y0 : wr.cell? ⟨w.heap.size, 0, none⟩ = some (.int .i64 0) := by rw [Joins.cell_of_block HA9]; rfl
      have y1 : wr.cell? ⟨w.heap.size, 1, none⟩ = some (.int .i64 0) := by rw [Joins.cell_of_block HA9]; rfl
      have f0 : wr.frozen? ⟨w.heap.size, 0, none⟩ = false := by simp [World.frozen?, HA9]
      have f1 : wr.frozen? ⟨w.heap.size, 1, none⟩ = false := by simp [World.frozen?, HA9]
      clear hvb HA3 HA9
      go_wp2
      refine bodyPost_ret (v := .tuple #[GV (a / 2) (b / 2), .slice (some ⟨gr, 0, none⟩) rs.length cap]) (by simp [results, Try.results101, go_sem, y0, y1]) rfl ?_
      have hbw := ((HBW.out.trans (HD.out.mono HBW.out.size)).setCell (p := ⟨w.heap.size, 0, none⟩) (Nat.le_refl _) (.int .i64 (a / 2))).setCell (p := ⟨w.heap.size, 1, none⟩) (Nat.le_refl _) (.int .i64 (b / 2))
      exact ⟨⟨_, rfl, rs, HK9.out, HE.out, ownsRow_le (own_cell (own_cell HO.out hk0 (.int .i64 (a / 2))) hk0 (.int .i64 (b / 2))) (Nat.le_of_lt hk0)⟩, hbw⟩
end Go.Proofs.Ytjfnecmnofcjbaa
