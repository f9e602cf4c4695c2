/-
  Springs: fields that pull to the middle, of the model.
-/
import Derived.Test.YtlfnbnhbobohlaaSpr
namespace Go.Proofs.Ytlfnbnhbobohlaa
open Go.Fl Go.RowKit
open Go.Joins (ownsRow_le)
set_option linter.unusedSimpArgs false
set_option linter.unusedVariables false

theorem spr_facts {a b : Int} {k n : Nat} (hA : 4 ≤ a ∧ a ≤ 16 ∧ 4 ≤ b ∧ b ≤ 16) (hab : (n : Int) = a * b) (hn : n ≤ 256) (hk : k < n) : ∃ u v t : Nat, k % a.toNat = u ∧ k / a.toNat = v ∧ (u + v) % 2 = t ∧ (k : Int) % a = (u : Int) ∧ (k : Int) / a = (v : Int) ∧ (u : Int) < a ∧ (v : Int) < b ∧ (k : Int) = a * v + u ∧ ¬ a = 0 ∧ (k : Int).tmod a = (u : Int) ∧ (k : Int).tdiv a = (v : Int) ∧
    IntKind.i64.wrap (v : Int) = (v : Int) ∧ IntKind.i64.wrap ((k : Int) / a) = (v : Int) ∧ wrap64 ((u : Int) + (v : Int)) = (u : Int) + (v : Int) ∧ ((u : Int) + (v : Int)) % 2 = (t : Int) ∧ ((u : Int) + (v : Int)).tmod 2 = (t : Int) ∧ wrap64 ((k : Int) + 1) = (k : Int) + 1 ∧ (0 : Int) ≤ (k : Int) ∧ (k : Int) < (n : Int) := by
  obtain ⟨v, hv⟩ : ∃ v, k / a.toNat = v := ⟨_, rfl⟩
  obtain ⟨u, hu⟩ : ∃ u, k % a.toNat = u := ⟨_, rfl⟩
  obtain ⟨m, hm⟩ := Int.eq_ofNat_of_zero_le (show 0 ≤ a by omega)
  have hu1 : ((k : Int) % a) = (u : Int) := by rw [← hu, hm]; simp
  have hv0 : ((k : Int) / a) = (v : Int) := by rw [← hv, hm]; simp
  have hule := emod_facts a (k : Int) hA.1
  rw [hu1] at hule
  have hiu : (k : Int) = a * v + u := by have := Int.mul_ediv_add_emod (k : Int) a; rw [hu1, hv0] at this; omega
  have hvb : (v : Int) < b := by
    rcases Int.lt_or_le (v : Int) b with h | h
    · exact h
    · have := Int.mul_le_mul_of_nonneg_left h (show 0 ≤ a by omega); omega
  have hs2 : ((u : Int) + (v : Int)) % 2 = (((u + v) % 2 : Nat) : Int) := by omega
  exact ⟨u, v, (u + v) % 2, hu, hv, rfl, hu1, hv0, hule.2, hvb, hiu, by omega, by rw [Int.tmod_eq_emod_of_nonneg (by omega)]; exact hu1, by rw [Int.tdiv_eq_ediv_of_nonneg (by omega)]; exact hv0, by rw [wrap_i64]; exact wrap64_of (by omega) (by omega), by rw [hv0, wrap_i64]; exact wrap64_of (by omega) (by omega), wrap64_of (by omega) (by omega), hs2, by rw [Int.tmod_eq_emod_of_nonneg (by omega)]; exact hs2, wrap64_of (by omega) (by omega), Int.natCast_nonneg _, by omega⟩
theorem sFinite5_any (x X : Nat) (ix : Is .f32 x X) (w : World) : Calls Try.prog 78 #[.float .f32 x] w fun e w' => e = .returned (.bool (fin .f32 X)) ∧ ∃ n, w' = w.drewN n := by
  rw [← sub_self]
  go_enter Try.func78, Try.ntmps78
  go_wp2_with (first | (apply wpList_fcmp; rfl; rfl; rfl; rfl; (first | with_reducible assumption | exact Is.const rfl); (first | with_reducible assumption | exact Is.const rfl); (first | with_reducible assumption | exact rfl)) | (apply wpList_farith; rfl; rfl; rfl; rfl; (first | with_reducible assumption | exact Is.const rfl); (first | with_reducible assumption | exact Is.const rfl); intro r n hr))
  go_ret
  exact ⟨rfl, _, rfl⟩

set_option maxHeartbeats 4000000 in
set_option maxRecDepth 100000 in
theorem sSpring_two (a b : Int) (x X : Nat) (w : World) (ix : Is .f32 x X) :
    Calls Try.prog 48 #[GV a b, .float .f32 x] w fun e w' => TwoR w w' e (okSpringField a b X) (lenSpringField a b X) (sprX X a) (sprY X a b) ∧ Below w.heap.size w w' := by
  obtain ⟨i0, hi, hz0, hz1, hz2⟩ := info_parts F32info
  have HP := Lib.hid (gp_new w a b 27)
  have HG := Lib.hid (heap_alloc_new w (.cells #[.int .i64 a, .int .i64 b] 27))
  have hb0 := (Below.refl w.heap.size w).alloc (Nat.le_refl _) (.cells #[.int .i64 a, .int .i64 b] 27)
  have HX := Lib.hid ix
  obtain ⟨ok, hok⟩ : ∃ ok, okSpringField a b X = ok := ⟨_, rfl⟩
  obtain ⟨N, hN⟩ : ∃ N, lenSpringField a b X = N := ⟨_, rfl⟩
  rw [hok, hN]
  have HOK := Lib.hid hok; have HNN := Lib.hid hN
  clear hok hN ix
  cases h1 : gridOk a b with
  | true =>
    have H1 := Lib.hid h1
    clear h1
    cases h2 : fin .f32 X with
    | true =>
      have H2 := Lib.hid h2
      have HA := Lib.hid (gridOk_true H1.out)
      obtain ⟨n, hn⟩ : ∃ n : Nat, (n : Int) = a * b := by
        have := HA.out; have h4 : 4 * 4 ≤ a * b := Int.mul_le_mul this.1 this.2.2.1 (by omega) (by omega)
        exact ⟨(a * b).toNat, by omega⟩
      have HNI := Lib.hid hn
      have HNT := Lib.hid (show (a * b).toNat = n by omega)
      have hn256 := (grid_points H1.out hn).2
      have hpt : wrap64 (a * b) = (n : Int) := by have := (grid_points H1.out hn).1; rwa [wrap_i64] at this
      clear h2 hn
      go_enter Try.func48, Try.ntmps48
      go_wp2_with fail
      generalize w.alloc (.cells #[.int .i64 a, .int .i64 b] 27) = w1 at hb0 HP HG ⊢
      refine (sIs_any _ a b _ HP.out).mono ?_; rw [H1.out]; rintro e w' ⟨rfl, rfl⟩
      go_wp2_with fail
      refine (sFinite5_any _ _ HX.out _).mono ?_; rw [H2.out]; rintro e w' ⟨rfl, m, rfl⟩
      have HG2 := Lib.hid (show (w1.drewN m).heap[w.heap.size]? = _ from HG.out)
      have HB2 := Lib.hid (below_drewN hb0 m)
      generalize w1.drewN m = w2 at HG2 HB2 ⊢
      go_wp2_with fail
      have o1 := own_start w2.heap.size w2 (Nat.le_refl _)
      have d1 := (Below.refl w2.heap.size w2).alloc (Nat.le_refl _) (.cells #[] 46)
      have ne1 : (w2.alloc (.cells #[] 46)).heap.size = w2.heap.size + 1 := by simp
      generalize w2.alloc (.cells #[] 46) = w3 at o1 d1 ne1 ⊢
      have o2 := own_start w2.heap.size w3 d1.size
      have o1' := World.ownsRow.alloc o1 (.cells #[] 46)
      have d2 := d1.alloc d1.size (.cells #[] 46)
      rw [ne1] at o2
      generalize w3.alloc (.cells #[] 46) = w4 at o1' o2 d2 ⊢
      have HO1 := Lib.hid o1'; have HO2 := Lib.hid o2; have HD0 := Lib.hid d2
      clear o1 o1' o2 d1 d2 ne1
      go_loopw [7, 8, 9] (fun s1 s2 i wr => ∃ rs ss : List Nat, i = .int .i64 (rs.length : Int) ∧ ss.length = rs.length ∧ rs.length ≤ n ∧ Hid (Eqs rs (sprX X a)) ∧ Hid (Eqs ss (sprY X a b)) ∧ Hid (∀ j, j < rs.length → fin .f32 (sprX X a j) = true ∧ fin .f32 (sprY X a b j) = true) ∧ (∃ g cap g' cap', s1 = .slice (some ⟨g, 0, none⟩) rs.length cap ∧ s2 = .slice (some ⟨g', 0, none⟩) rs.length cap' ∧ g ≠ g' ∧ Hid (wr.ownsRow w2.heap.size 46 1 s1 rs.length (rs.map (Value.float .f32))) ∧ Hid (wr.ownsRow w2.heap.size 46 1 s2 rs.length (ss.map (Value.float .f32)))) ∧ Hid (Below w2.heap.size w2 wr)) (fun _ _ i _ => n - (intOf i).toNat)
      case atStart => exact ⟨[], [], rfl, rfl, Nat.zero_le _, Lib.hid (Eqs.nil _), Lib.hid (Eqs.nil _), Lib.hid (fun j h => absurd h (Nat.not_lt_zero _)), ⟨_, _, _, _, rfl, rfl, by omega, HO1, HO2⟩, HD0⟩
      case round =>
        clear HO1 HO2 HD0
        obtain ⟨rs, ss, rfl, hsl, hk, HE1, HE2, HFN, ⟨g, cap, g', cap', rfl, rfl, hgg, HO1, HO2⟩, HD⟩ := hrel
        have HSL := Lib.hid hsl; have HGG := Lib.hid hgg
        clear hsl hgg
        have HGR := Lib.hid ((HD.out.block w.heap.size (Array.getElem?_eq_some_iff.1 HG2.out).1).trans HG2.out)
        have g0 := (pair_cells HGR.out).1; have g1 := (pair_cells HGR.out).2.1
        by_cases hlt : rs.length < n
        · have HLT := Lib.hid hlt
          obtain ⟨u, v, t, hu, hv, ht, hu1, hv0, hult, hvb, hiu, ha0, hm1, hd1, hw1, hw2, hw3, hs2, hs3, hwk, iK0, iK1⟩ := spr_facts (And.intro HA.out.1 (And.intro HA.out.2.1 (And.intro HA.out.2.2.1 HA.out.2.2.2))) HNI.out hn256 hlt
          have HFa := Lib.hid (show sprX X a rs.length = fop .mul .f32 X (fop .sub .f32 (fop .quo .f32 (floatOfInt .f32 a) 1073741824) (floatOfInt .f32 (u : Int))) by unfold sprX sprV; rw [hu])
          have HFb := Lib.hid (show sprY X a b rs.length = fop .mul .f32 X (fop .sub .f32 (fop .quo .f32 (floatOfInt .f32 b) 1073741824) (floatOfInt .f32 (v : Int))) by unfold sprY sprV; rw [hv])
          have HWK := Lib.hid hwk
          clear hu hv ht hult hvb hiu hw3 hs2 hs3 hlt hwk
          go_upto_region 8 with fail
          refine wp_region_noPanic ?_
          refine wp_region_held_drew (S := (fun w' => w'.cell? ⟨w.heap.size, 0, none⟩ = some (.int .i64 a) ∧ w'.cell? ⟨w.heap.size, 1, none⟩ = some (.int .i64 b))) (by kernel_rfl) ⟨g0, g1⟩ (fun hHeld => ?_)
          ((refine wpAnyH_take (i := 0) (v := ?_) rfl (by kernel_rfl) (by kernel_rfl) (by kernel_rfl) (fun _ _ _ h => h) (Or.inl ⟨by rfl, ?_⟩) (by assumption) ?_; rotate_left; (· intro w hSw; (try dsimp only at hSw); go_simp; first | done | with_reducible rfl); (try simp only [List.getElem_toArray, List.getElem_cons_zero, List.getElem_cons_succ, Act.put, List.setIfInBounds_toArray, List.set_cons_zero, List.set_cons_succ])); (refine wpAnyH_take (i := 1) (v := ?_) rfl (by kernel_rfl) (by kernel_rfl) (by kernel_rfl) (fun _ _ _ h => h) (Or.inl ⟨by rfl, ?_⟩) (by assumption) ?_; rotate_left; (· intro w hSw; (try dsimp only at hSw); go_simp; first | done | with_reducible rfl); (try simp only [List.getElem_toArray, List.getElem_cons_zero, List.getElem_cons_succ, Act.put, List.setIfInBounds_toArray, List.set_cons_zero, List.set_cons_succ])); (refine wpAnyH_take (i := 2) (v := ?_) rfl (by kernel_rfl) (by kernel_rfl) (by kernel_rfl) (fun _ _ _ h => h) (Or.inl ⟨by rfl, ?_⟩) (by assumption) ?_; rotate_left; (· intro w hSw; (try dsimp only at hSw); go_simp; first | done | with_reducible rfl); (try simp only [List.getElem_toArray, List.getElem_cons_zero, List.getElem_cons_succ, Act.put, List.setIfInBounds_toArray, List.set_cons_zero, List.set_cons_succ])); (refine wpAnyH_take (i := 3) (v := ?_) rfl (by kernel_rfl) (by kernel_rfl) (by kernel_rfl) (fun _ _ _ h => h) (Or.inl ⟨by rfl, ?_⟩) (by assumption) ?_; rotate_left; (· intro w hSw; (try dsimp only at hSw); go_simp; first | done | with_reducible rfl); (try simp only [List.getElem_toArray, List.getElem_cons_zero, List.getElem_cons_succ, Act.put, List.setIfInBounds_toArray, List.set_cons_zero, List.set_cons_succ])); (refine wpAnyH_take (i := 5) (v := ?_) rfl (by kernel_rfl) (by kernel_rfl) (by kernel_rfl) (fun _ _ _ h => h) (Or.inl ⟨by rfl, ?_⟩) (by assumption) ?_; rotate_left; (· intro w hSw; (try dsimp only at hSw); go_simp; first | done | with_reducible rfl); (try simp only [List.getElem_toArray, List.getElem_cons_zero, List.getElem_cons_succ, Act.put, List.setIfInBounds_toArray, List.set_cons_zero, List.set_cons_succ])); (refine wpAnyH_take (i := 6) (v := ?_) rfl (by kernel_rfl) (by kernel_rfl) (by kernel_rfl) (fun _ _ _ h => h) (Or.inl ⟨by rfl, ?_⟩) (by assumption) ?_; rotate_left; (· intro w hSw; (try dsimp only at hSw); go_simp; first | done | with_reducible rfl); (try simp only [List.getElem_toArray, List.getElem_cons_zero, List.getElem_cons_succ, Act.put, List.setIfInBounds_toArray, List.set_cons_zero, List.set_cons_succ])); (refine wpAnyH_take (i := 7) (v := ?_) rfl (by kernel_rfl) (by kernel_rfl) (by kernel_rfl) (fun _ _ _ h => h) (Or.inl ⟨by rfl, ?_⟩) (by assumption) ?_; rotate_left; (· intro w hSw; (try dsimp only at hSw); go_simp; first | done | with_reducible rfl); (try simp only [List.getElem_toArray, List.getElem_cons_zero, List.getElem_cons_succ, Act.put, List.setIfInBounds_toArray, List.set_cons_zero, List.set_cons_succ])); (refine wpAnyH_take (i := 8) (v := ?_) rfl (by kernel_rfl) (by kernel_rfl) (by kernel_rfl) (fun _ _ _ h => h) (Or.inl ⟨by rfl, ?_⟩) (by assumption) ?_; rotate_left; (· intro w hSw; (try dsimp only at hSw); go_simp; first | done | with_reducible rfl); (try simp only [List.getElem_toArray, List.getElem_cons_zero, List.getElem_cons_succ, Act.put, List.setIfInBounds_toArray, List.set_cons_zero, List.set_cons_succ])); (refine wpAnyH_take (i := 9) (v := ?_) rfl (by kernel_rfl) (by kernel_rfl) (by kernel_rfl) (fun _ _ _ h => h) (Or.inl ⟨by rfl, ?_⟩) (by assumption) ?_; rotate_left; (· intro w hSw; (try dsimp only at hSw); go_simp; first | done | with_reducible rfl); (try simp only [List.getElem_toArray, List.getElem_cons_zero, List.getElem_cons_succ, Act.put, List.setIfInBounds_toArray, List.set_cons_zero, List.set_cons_succ])))
          (refine wpAnyH_ready (rs := [4]) (by kernel_rfl) (by simp) ?_; refine AllReadyH.cons (i := 4) rfl (fun K hK => ?_) AllReadyH.nil)
          refine hstep_fa rfl .quo 46 46 _ _ rfl rfl .f32 _ 1073741824 rfl rfl (intWord32_is a) (Is.const rfl) ?_
          intro qa n1a hqa
          (refine hK.out _ _ (⟨g0, g1⟩) (fun hHeld => ?_); clear hK K; (try simp only [List.getElem_toArray, List.getElem_cons_zero, List.getElem_cons_succ, Act.put, List.setIfInBounds_toArray, List.set_cons_zero, List.set_cons_succ]))
          (refine wpAnyH_ready (rs := [10]) (by kernel_rfl) (by simp) ?_; refine AllReadyH.cons (i := 10) rfl (fun K hK => ?_) AllReadyH.nil)
          refine hstep_fa rfl .sub 46 46 _ _ rfl rfl .f32 qa _ rfl rfl hqa (intWord32_is ((u : Int) : Int)) ?_
          intro sa n2a hsa
          (refine hK.out _ _ (⟨g0, g1⟩) (fun hHeld => ?_); clear hK K; (try simp only [List.getElem_toArray, List.getElem_cons_zero, List.getElem_cons_succ, Act.put, List.setIfInBounds_toArray, List.set_cons_zero, List.set_cons_succ]))
          (refine wpAnyH_ready (rs := [11]) (by kernel_rfl) (by simp) ?_; refine AllReadyH.cons (i := 11) rfl (fun K hK => ?_) AllReadyH.nil)
          refine hstep_fa rfl .mul 46 46 _ _ rfl rfl .f32 x sa rfl rfl HX.out hsa ?_
          intro ra n3a hra
          (refine hK.out _ _ (⟨g0, g1⟩) (fun hHeld => ?_); clear hK K; (try simp only [List.getElem_toArray, List.getElem_cons_zero, List.getElem_cons_succ, Act.put, List.setIfInBounds_toArray, List.set_cons_zero, List.set_cons_succ]))
          ((refine wpAnyH_take (i := 12) (v := ?_) rfl (by kernel_rfl) (by kernel_rfl) (by kernel_rfl) (fun _ _ _ h => h) (Or.inl ⟨by rfl, ?_⟩) (by assumption) ?_; rotate_left; (· intro w hSw; (try dsimp only at hSw); go_simp; first | done | with_reducible rfl); (try simp only [List.getElem_toArray, List.getElem_cons_zero, List.getElem_cons_succ, Act.put, List.setIfInBounds_toArray, List.set_cons_zero, List.set_cons_succ])))
          (refine wpAnyH_done (by kernel_rfl) ?_ _; refine NoPanic.normal ?_)
          clear hHeld
          have HRa := Lib.hid (show Is .f32 ra (sprX X a rs.length) by rw [HFa.out]; exact hra)
          clear hqa hsa hra
          have hbx := below_drewN (below_drewN (below_drewN (Below.refl wr.heap.size wr).drew n1a) n2a) n3a
          have HGRw5 := Lib.hid ((hbx.block w.heap.size (Array.getElem?_eq_some_iff.1 HGR.out).1).trans HGR.out)
          have HO1w5 := Lib.hid (World.ownsRow.kept HO1.out (grown_below (row := none) hbx) (.inr (by simp [Value.ownBlock])))
          have HO2w5 := Lib.hid (World.ownsRow.kept HO2.out (grown_below (row := none) hbx) (.inr (by simp [Value.ownBlock])))
          have HDw5 := Lib.hid (HD.out.trans (hbx.mono HD.out.size))
          generalize ((wr.drew.drewN n1a).drewN n2a).drewN n3a = w5 at HGRw5 HO1w5 HO2w5 HDw5 ⊢
          clear hbx
          clear g0 g1
          have g0 := (pair_cells HGRw5.out).1; have g1 := (pair_cells HGRw5.out).2.1
          simp only [Exit.then]
          go_upto_region 9 with fail
          refine wp_region_noPanic ?_
          refine wp_region_held_drew (S := (fun w' => w'.cell? ⟨w.heap.size, 0, none⟩ = some (.int .i64 a) ∧ w'.cell? ⟨w.heap.size, 1, none⟩ = some (.int .i64 b))) (by kernel_rfl) ⟨g0, g1⟩ (fun hHeld => ?_)
          ((refine wpAnyH_take (i := 0) (v := ?_) rfl (by kernel_rfl) (by kernel_rfl) (by kernel_rfl) (fun _ _ _ h => h) (Or.inl ⟨by rfl, ?_⟩) (by assumption) ?_; rotate_left; (· intro w hSw; (try dsimp only at hSw); go_simp; first | done | with_reducible rfl); (try simp only [List.getElem_toArray, List.getElem_cons_zero, List.getElem_cons_succ, Act.put, List.setIfInBounds_toArray, List.set_cons_zero, List.set_cons_succ])); (refine wpAnyH_take (i := 1) (v := ?_) rfl (by kernel_rfl) (by kernel_rfl) (by kernel_rfl) (fun _ _ _ h => h) (Or.inl ⟨by rfl, ?_⟩) (by assumption) ?_; rotate_left; (· intro w hSw; (try dsimp only at hSw); go_simp; first | done | with_reducible rfl); (try simp only [List.getElem_toArray, List.getElem_cons_zero, List.getElem_cons_succ, Act.put, List.setIfInBounds_toArray, List.set_cons_zero, List.set_cons_succ])); (refine wpAnyH_take (i := 2) (v := ?_) rfl (by kernel_rfl) (by kernel_rfl) (by kernel_rfl) (fun _ _ _ h => h) (Or.inl ⟨by rfl, ?_⟩) (by assumption) ?_; rotate_left; (· intro w hSw; (try dsimp only at hSw); go_simp; first | done | with_reducible rfl); (try simp only [List.getElem_toArray, List.getElem_cons_zero, List.getElem_cons_succ, Act.put, List.setIfInBounds_toArray, List.set_cons_zero, List.set_cons_succ])); (refine wpAnyH_take (i := 3) (v := ?_) rfl (by kernel_rfl) (by kernel_rfl) (by kernel_rfl) (fun _ _ _ h => h) (Or.inl ⟨by rfl, ?_⟩) (by assumption) ?_; rotate_left; (· intro w hSw; (try dsimp only at hSw); go_simp; first | done | with_reducible rfl); (try simp only [List.getElem_toArray, List.getElem_cons_zero, List.getElem_cons_succ, Act.put, List.setIfInBounds_toArray, List.set_cons_zero, List.set_cons_succ])); (refine wpAnyH_take (i := 5) (v := ?_) rfl (by kernel_rfl) (by kernel_rfl) (by kernel_rfl) (fun _ _ _ h => h) (Or.inl ⟨by rfl, ?_⟩) (by assumption) ?_; rotate_left; (· intro w hSw; (try dsimp only at hSw); go_simp; first | done | with_reducible rfl); (try simp only [List.getElem_toArray, List.getElem_cons_zero, List.getElem_cons_succ, Act.put, List.setIfInBounds_toArray, List.set_cons_zero, List.set_cons_succ])); (refine wpAnyH_take (i := 6) (v := ?_) rfl (by kernel_rfl) (by kernel_rfl) (by kernel_rfl) (fun _ _ _ h => h) (Or.inl ⟨by rfl, ?_⟩) (by assumption) ?_; rotate_left; (· intro w hSw; (try dsimp only at hSw); go_simp; first | done | with_reducible rfl); (try simp only [List.getElem_toArray, List.getElem_cons_zero, List.getElem_cons_succ, Act.put, List.setIfInBounds_toArray, List.set_cons_zero, List.set_cons_succ])); (refine wpAnyH_take (i := 7) (v := ?_) rfl (by kernel_rfl) (by kernel_rfl) (by kernel_rfl) (fun _ _ _ h => h) (Or.inl ⟨by rfl, ?_⟩) (by assumption) ?_; rotate_left; (· intro w hSw; (try dsimp only at hSw); go_simp; first | done | with_reducible rfl); (try simp only [List.getElem_toArray, List.getElem_cons_zero, List.getElem_cons_succ, Act.put, List.setIfInBounds_toArray, List.set_cons_zero, List.set_cons_succ])); (refine wpAnyH_take (i := 8) (v := ?_) rfl (by kernel_rfl) (by kernel_rfl) (by kernel_rfl) (fun _ _ _ h => h) (Or.inl ⟨by rfl, ?_⟩) (by assumption) ?_; rotate_left; (· intro w hSw; (try dsimp only at hSw); go_simp; first | done | with_reducible rfl); (try simp only [List.getElem_toArray, List.getElem_cons_zero, List.getElem_cons_succ, Act.put, List.setIfInBounds_toArray, List.set_cons_zero, List.set_cons_succ])); (refine wpAnyH_take (i := 9) (v := ?_) rfl (by kernel_rfl) (by kernel_rfl) (by kernel_rfl) (fun _ _ _ h => h) (Or.inl ⟨by rfl, ?_⟩) (by assumption) ?_; rotate_left; (· intro w hSw; (try dsimp only at hSw); go_simp; first | done | with_reducible rfl); (try simp only [List.getElem_toArray, List.getElem_cons_zero, List.getElem_cons_succ, Act.put, List.setIfInBounds_toArray, List.set_cons_zero, List.set_cons_succ])))
          (refine wpAnyH_ready (rs := [4]) (by kernel_rfl) (by simp) ?_; refine AllReadyH.cons (i := 4) rfl (fun K hK => ?_) AllReadyH.nil)
          refine hstep_fa rfl .quo 46 46 _ _ rfl rfl .f32 _ 1073741824 rfl rfl (intWord32_is b) (Is.const rfl) ?_
          intro qb n1b hqb
          (refine hK.out _ _ (⟨g0, g1⟩) (fun hHeld => ?_); clear hK K; (try simp only [List.getElem_toArray, List.getElem_cons_zero, List.getElem_cons_succ, Act.put, List.setIfInBounds_toArray, List.set_cons_zero, List.set_cons_succ]))
          (refine wpAnyH_ready (rs := [10]) (by kernel_rfl) (by simp) ?_; refine AllReadyH.cons (i := 10) rfl (fun K hK => ?_) AllReadyH.nil)
          refine hstep_fa rfl .sub 46 46 _ _ rfl rfl .f32 qb _ rfl rfl hqb (intWord32_is ((v : Int) : Int)) ?_
          intro sb n2b hsb
          (refine hK.out _ _ (⟨g0, g1⟩) (fun hHeld => ?_); clear hK K; (try simp only [List.getElem_toArray, List.getElem_cons_zero, List.getElem_cons_succ, Act.put, List.setIfInBounds_toArray, List.set_cons_zero, List.set_cons_succ]))
          (refine wpAnyH_ready (rs := [11]) (by kernel_rfl) (by simp) ?_; refine AllReadyH.cons (i := 11) rfl (fun K hK => ?_) AllReadyH.nil)
          refine hstep_fa rfl .mul 46 46 _ _ rfl rfl .f32 x sb rfl rfl HX.out hsb ?_
          intro rb n3b hrb
          (refine hK.out _ _ (⟨g0, g1⟩) (fun hHeld => ?_); clear hK K; (try simp only [List.getElem_toArray, List.getElem_cons_zero, List.getElem_cons_succ, Act.put, List.setIfInBounds_toArray, List.set_cons_zero, List.set_cons_succ]))
          ((refine wpAnyH_take (i := 12) (v := ?_) rfl (by kernel_rfl) (by kernel_rfl) (by kernel_rfl) (fun _ _ _ h => h) (Or.inl ⟨by rfl, ?_⟩) (by assumption) ?_; rotate_left; (· intro w hSw; (try dsimp only at hSw); go_simp; first | done | with_reducible rfl); (try simp only [List.getElem_toArray, List.getElem_cons_zero, List.getElem_cons_succ, Act.put, List.setIfInBounds_toArray, List.set_cons_zero, List.set_cons_succ])))
          (refine wpAnyH_done (by kernel_rfl) ?_ _; refine NoPanic.normal ?_)
          clear hHeld
          have HRb := Lib.hid (show Is .f32 rb (sprY X a b rs.length) by rw [HFb.out]; exact hrb)
          clear hqb hsb hrb
          have hbx := below_drewN (below_drewN (below_drewN (Below.refl w5.heap.size w5).drew n1b) n2b) n3b
          have HGRw6 := Lib.hid ((hbx.block w.heap.size (Array.getElem?_eq_some_iff.1 HGRw5.out).1).trans HGRw5.out)
          have HO1w6 := Lib.hid (World.ownsRow.kept HO1w5.out (grown_below (row := none) hbx) (.inr (by simp [Value.ownBlock])))
          have HO2w6 := Lib.hid (World.ownsRow.kept HO2w5.out (grown_below (row := none) hbx) (.inr (by simp [Value.ownBlock])))
          have HDw6 := Lib.hid (HDw5.out.trans (hbx.mono HDw5.out.size))
          generalize ((w5.drew.drewN n1b).drewN n2b).drewN n3b = w6 at HGRw6 HO1w6 HO2w6 HDw6 ⊢
          clear hbx
          clear g0 g1 hu1 hv0 ha0 hm1 hd1 hw1 hw2
          simp only [Exit.then]
          have HB6 := Lib.hid (HB2.out.trans (HDw6.out.mono HB2.out.size))
          cases h3 : fin .f32 (sprX X a rs.length) with
          | false =>
            have H3 := Lib.hid h3
            clear h3
            go_wp2_with fail
            refine (sFinite5_any _ _ HRa.out _).mono ?_; rw [H3.out]; rintro e w' ⟨rfl, m3, rfl⟩
            go_wp2_with fail
            refine bodyPost_ret (v := .tuple #[.slice none 0 0, .slice none 0 0, .bool false]) (by simp [results, Try.results48, go_sem]) rfl ?_
            have hy := okSpr_no (a := a) (b := b) (X := X) (.inr (.inr (.inl (by rw [HNT.out]; exact allFin_no HLT.out H3.out))))
            rw [← HOK.out, ← HNN.out, hy.1, hy.2]
            exact ⟨twoR_none _ _ _ _, below_drewN HB6.out m3⟩
          | true =>
            have H3 := Lib.hid h3
            clear h3
            cases h4 : fin .f32 (sprY X a b rs.length) with
            | false =>
              have H4 := Lib.hid h4
              clear h4
              go_wp2_with fail
              refine (sFinite5_any _ _ HRa.out _).mono ?_; rw [H3.out]; rintro e w' ⟨rfl, m3, rfl⟩
              go_wp2_with fail
              refine (sFinite5_any _ _ HRb.out _).mono ?_; rw [H4.out]; rintro e w' ⟨rfl, m4, rfl⟩
              go_wp2_with fail
              refine bodyPost_ret (v := .tuple #[.slice none 0 0, .slice none 0 0, .bool false]) (by simp [results, Try.results48, go_sem]) rfl ?_
              have hy := okSpr_no (a := a) (b := b) (X := X) (.inr (.inr (.inr (by rw [HNT.out]; exact allFin_no HLT.out H4.out))))
              rw [← HOK.out, ← HNN.out, hy.1, hy.2]
              exact ⟨twoR_none _ _ _ _, below_drewN HB6.out (m3 + m4)⟩
            | true =>
              have H4 := Lib.hid h4
              clear h4
              go_wp2_with fail
              refine (sFinite5_any _ _ HRa.out _).mono ?_; rw [H3.out]; rintro e w' ⟨rfl, m3, rfl⟩
              go_wp2_with fail
              refine (sFinite5_any _ _ HRb.out _).mono ?_; rw [H4.out]; rintro e w' ⟨rfl, m4, rfl⟩
              go_upto_region 12 with fail
              have hbx := below_drewN (Below.refl w6.heap.size w6) (m3 + m4)
              have HO17 := Lib.hid (World.ownsRow.kept HO1w6.out (grown_below (row := none) hbx) (.inr (by simp [Value.ownBlock])))
              have HO27 := Lib.hid (World.ownsRow.kept HO2w6.out (grown_below (row := none) hbx) (.inr (by simp [Value.ownBlock])))
              have HD7 := Lib.hid (HDw6.out.trans (hbx.mono HDw6.out.size))
              clear hbx
              generalize w6.drewN (m3 + m4) = w7 at HO17 HO27 HD7 ⊢
              go_upto_region 13 with (at_builtin; refine wpList_append_lies _ rfl _ _ _ rfl w2.heap.size 46 i0 _ 1 4 Try.underlying24 hi hz0 hz1 hz2 rfl (by omega) (.slice (some ⟨g, 0, none⟩) rs.length cap) rs.length (rs.map (Value.float .f32)) rfl (World.ownsRow.alloc HO17.out (.cells #[.float .f32 ra] 46)) ⟨w7.heap.size, 0, none⟩ 1 1 [.float .f32 ra] rfl rfl (World.news_of_block (cs := #[.float .f32 ra]) (t := 46) (fr := (0, 0)) (heap_alloc_new _ _)) (by simp [Value.oneCell']) (by omega) (by unfold maxLen; omega) (by omega) (HD7.out.alloc HD7.out.size (.cells #[.float .f32 ra] 46)).size (w7.heap.size + 1) (by simp) ?_; intro g2 cap2 w9 hown4 hgrow hat hltg)
              have HB3 := Lib.hid ((HD7.out.alloc HD7.out.size (.cells #[.float .f32 ra] 46)).grown hgrow (HD7.out.alloc HD7.out.size (.cells #[.float .f32 ra] 46)).size (fun k hk => (HO17.out.lt k hk).1))
              have HO3 := Lib.hid (World.ownsRow.kept (World.ownsRow.alloc HO27.out (.cells #[.float .f32 ra] 46)) hgrow (.inr (fun e => HGG.out (by simpa [Value.ownBlock] using e.symm))))
              have HG3 := Lib.hid (show g2 ≠ g' from fun e => hat.elim (fun h => HGG.out (by simp [Value.ownBlock] at h; omega)) (fun h => by have := (HO27.out.lt g' rfl).2; omega))
              have HN3 := Lib.hid (show w9.ownsRow w2.heap.size 46 1 (.slice (some ⟨g2, 0, none⟩) (rs.length + 1) cap2) (rs.length + 1) ((rs ++ [ra]).map (Value.float .f32)) by simpa using hown4)
              clear hown4 hgrow hat hltg
              generalize w9 = w8 at HB3 HO3 HN3 ⊢
              go_wp2_with (at_builtin; refine wpList_append_lies _ rfl _ _ _ rfl w2.heap.size 46 i0 _ 1 4 Try.underlying24 hi hz0 hz1 hz2 rfl (by omega) (.slice (some ⟨g', 0, none⟩) rs.length cap') rs.length (ss.map (Value.float .f32)) rfl (World.ownsRow.alloc HO3.out (.cells #[.float .f32 rb] 46)) ⟨w8.heap.size, 0, none⟩ 1 1 [.float .f32 rb] rfl rfl (World.news_of_block (cs := #[.float .f32 rb]) (t := 46) (fr := (0, 0)) (heap_alloc_new _ _)) (by simp [Value.oneCell']) (by omega) (by unfold maxLen; omega) (by omega) (HB3.out.alloc HB3.out.size (.cells #[.float .f32 rb] 46)).size (w8.heap.size + 1) (by simp) ?_; intro g3 cap3 w9 hown4 hgrow hat hltg)
              have HB4 := Lib.hid ((HB3.out.alloc HB3.out.size (.cells #[.float .f32 rb] 46)).grown hgrow (HB3.out.alloc HB3.out.size (.cells #[.float .f32 rb] 46)).size (fun k hk => (HO3.out.lt k hk).1))
              have HN4 := Lib.hid (World.ownsRow.kept (World.ownsRow.alloc HN3.out (.cells #[.float .f32 rb] 46)) hgrow (.inr (fun e => HG3.out (by simpa [Value.ownBlock] using e))))
              have HG5 := Lib.hid (show g2 ≠ g3 from fun e => hat.elim (fun h => HG3.out (by simp [Value.ownBlock] at h; omega)) (fun h => by have := (HN3.out.lt g2 rfl).2; omega))
              have HP4 := Lib.hid (show w9.ownsRow w2.heap.size 46 1 (.slice (some ⟨g3, 0, none⟩) (rs.length + 1) cap3) (rs.length + 1) ((ss ++ [rb]).map (Value.float .f32)) by simpa using hown4)
              clear hown4 hgrow hat hltg
              have HE3 := Lib.hid (HE1.out.snoc HRa.out)
              have HE4 := Lib.hid (HE2.out.snoc (show Is .f32 rb (sprY X a b ss.length) by rw [HSL.out]; exact HRb.out))
              have HFN2 := Lib.hid (show ∀ j, j < rs.length + 1 → fin .f32 (sprX X a j) = true ∧ fin .f32 (sprY X a b j) = true from fun j hj => by
                rcases Nat.lt_or_ge j rs.length with h | h
                · exact HFN.out j h
                · rw [show j = rs.length by omega]; exact ⟨H3.out, H4.out⟩)
              have HL4 := Lib.hid (show (rs ++ [ra]).length = rs.length + 1 by simp)
              have HL5 := Lib.hid (show (ss ++ [rb]).length = rs.length + 1 by simp; exact HSL.out)
              go_wp2_with fail
              go_roundw
              case rel => exact ⟨rs ++ [ra], ss ++ [rb], by rw [HL4.out]; first | exact congrArg (Value.int .i64) HWK.out | (rw [HWK.out]; rfl) | go_num, by rw [HL4.out, HL5.out], by rw [HL4.out]; exact HLT.out, HE3, HE4, by rw [HL4.out]; exact HFN2, ⟨g2, cap2, g3, cap3, by rw [HL4.out], by rw [HL4.out], HG5.out, by rw [HL4.out]; exact HN4, by rw [HL4.out]; exact HP4⟩, HB4⟩
              case measure => have h1 := HLT.out; have h2 := HWK.out; simp [intOf]; omega
        · have hk2 : rs.length = n := by omega
          have HK2 := Lib.hid hk2
          clear hk2
          go_wp2_with fail
          refine bodyPost_ret (v := .tuple #[.slice (some ⟨g, 0, none⟩) rs.length cap, .slice (some ⟨g', 0, none⟩) rs.length cap', .bool true]) (by simp [results, Try.results48, go_sem]) rfl ?_
          have hy := okSpr_yes H1.out H2.out (by rw [HNT.out, ← HK2.out]; exact allFin_yes (fun j hj => (HFN.out j hj).1)) (by rw [HNT.out, ← HK2.out]; exact allFin_yes (fun j hj => (HFN.out j hj).2))
          rw [← HOK.out, ← HNN.out, hy.1, hy.2, HNT.out, ← HK2.out]
          exact ⟨⟨_, _, rfl, fres_le ⟨rs, rfl, HE1.out, HO1.out⟩ HB2.out.size, fres_le ⟨ss, HSL.out, HE2.out, by unfold FOwn; rw [HSL.out]; exact HO2.out⟩ HB2.out.size, .inr (by simp [Value.ownBlock]; exact fun e => HGG.out e.symm), .inr (by simp [Value.ownBlock]; exact HGG.out)⟩, HB2.out.trans (HD.out.mono HB2.out.size)⟩
    | false =>
      have H2 := Lib.hid h2
      clear h2
      go_enter Try.func48, Try.ntmps48
      go_wp2_with fail
      generalize w.alloc (.cells #[.int .i64 a, .int .i64 b] 27) = w1 at hb0 HP HG ⊢
      refine (sIs_any _ a b _ HP.out).mono ?_; rw [H1.out]; rintro e w' ⟨rfl, rfl⟩
      go_wp2_with fail
      refine (sFinite5_any _ _ HX.out _).mono ?_; rw [H2.out]; rintro e w' ⟨rfl, m, rfl⟩
      go_wp2_with fail
      refine bodyPost_ret (v := .tuple #[.slice none 0 0, .slice none 0 0, .bool false]) (by simp [results, Try.results48, go_sem]) rfl ?_
      have hy := okSpr_no (a := a) (b := b) (X := X) (.inr (.inl H2.out))
      rw [← HOK.out, ← HNN.out, hy.1, hy.2]
      exact ⟨twoR_none _ _ _ _, below_drewN hb0 m⟩
  | false =>
    have H1 := Lib.hid h1
    clear h1
    go_enter Try.func48, Try.ntmps48
    go_wp2_with fail
    generalize w.alloc (.cells #[.int .i64 a, .int .i64 b] 27) = w1 at hb0 HP HG ⊢
    refine (sIs_any _ a b _ HP.out).mono ?_; rw [H1.out]; rintro e w' ⟨rfl, rfl⟩
    go_wp2_with fail
    refine bodyPost_ret (v := .tuple #[.slice none 0 0, .slice none 0 0, .bool false]) (by simp [results, Try.results48, go_sem]) rfl ?_
    have hy := okSpr_no (a := a) (b := b) (X := X) (.inl H1.out)
    rw [← HOK.out, ← HNN.out, hy.1, hy.2]
    exact ⟨twoR_none _ _ _ _, hb0⟩

theorem sSpringField_any (a b : Int) (x X : Nat) (w : World) (ix : Is .f32 x X) :
    Calls Try.prog 48 #[GV a b, .float .f32 x] w fun e w' => (∃ u v, e = .returned (.tuple #[u, v, .bool (okSpringField a b X)]) ∧ FRes w.heap.size w' u (lenSpringField a b X) (sprX X a) ∧ FRes w.heap.size w' v (lenSpringField a b X) (sprY X a b) ∧ (v.ownBlock = none ∨ v.ownBlock ≠ u.ownBlock) ∧ (u.ownBlock = none ∨ u.ownBlock ≠ v.ownBlock)) ∧ Below w.heap.size w w' := sSpring_two a b x X w ix
theorem iSpringField_any (a b : Int) (x X : Nat) (w : World) (ix : Is .f32 x X) :
    Calls Try.prog 49 #[GV a b, .float .f32 x] w fun e w' => (∃ u v, e = .returned (.tuple #[u, v, .bool (okSpringField a b X)]) ∧ FRes w.heap.size w' u (lenSpringField a b X) (sprX X a) ∧ FRes w.heap.size w' v (lenSpringField a b X) (sprY X a b) ∧ (v.ownBlock = none ∨ v.ownBlock ≠ u.ownBlock) ∧ (u.ownBlock = none ∨ u.ownBlock ≠ v.ownBlock)) ∧ Below w.heap.size w w' := iSpring_two a b x X w ix
end Go.Proofs.Ytlfnbnhbobohlaa
