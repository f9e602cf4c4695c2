/-
  The fields of a potential, of the program and of the model.
-/
import Derived.Test.YtajnaobfeipdaaaGap
namespace Go.Proofs.Ytajnaobfeipdaaa
open Go.Fl Go.RowKit
open Go.Joins (ownsRow_le)
set_option linter.unusedSimpArgs false
set_option linter.unusedVariables false

theorem cells4 {w : World} {k : Nat} {v0 v1 v2 v3 : Value} {t : TypeId} (h : w.heap[k]? = some (.cells #[v0, v1, v2, v3] t)) : w.cell? ⟨k, 0, none⟩ = some v0 ∧ w.cell? ⟨k, 1, none⟩ = some v1 ∧ w.cell? ⟨k, 2, none⟩ = some v2 ∧ w.cell? ⟨k, 3, none⟩ = some v3 :=
  ⟨by rw [Go.Joins.cell_of_block h]; rfl, by rw [Go.Joins.cell_of_block h]; rfl, by rw [Go.Joins.cell_of_block h]; rfl, by rw [Go.Joins.cell_of_block h]; rfl⟩

set_option maxHeartbeats 2000000 in
set_option maxRecDepth 100000 in
theorem sFields_any (p : Value) (a b : Int) (t : Value) (xs : List Nat) (w : World) (hp : GP w p a b) (hu : FS .f32 w t xs) (h1 : fieldOk a b xs.length = true) :
    Calls Try.prog 70 #[p, t] w fun e w' => (∃ u v, e = .returned (.tuple #[u, v]) ∧ FRes w.heap.size w' u xs.length (gapF a b xs 1 0) ∧ FRes w.heap.size w' v xs.length (gapF a b xs 0 1) ∧ (v.ownBlock = none ∨ v.ownBlock ≠ u.ownBlock) ∧ (u.ownBlock = none ∨ u.ownBlock ≠ v.ownBlock)) ∧ Below w.heap.size w w' := by
  obtain ⟨i0, hi, hz0, hz1, hz2⟩ := info_parts F32info
  have HU := Lib.hid hu
  obtain ⟨a1, c1, rfl, hlc, hcm, hwf, hmem⟩ := hu
  have HA := Lib.hid (fieldOk_true h1)
  have hn256 : xs.length ≤ 256 := HA.out.2.2.2.2.2
  have HP := Lib.hid hp
  have HGO := Lib.hid (show gridOk a b = true from decide_eq_true ⟨HA.out.1, HA.out.2.1, HA.out.2.2.1, HA.out.2.2.2.1⟩)
  clear h1 hmem hlc hcm hp
  go_enter Try.func70, Try.ntmps70
  go_wp2_with fail
  have o1 := own_start w.heap.size w (Nat.le_refl _)
  have d1 := (Below.refl w.heap.size w).alloc (Nat.le_refl _) (.cells #[] 25)
  have ne1 : (w.alloc (.cells #[] 25)).heap.size = w.heap.size + 1 := by simp
  generalize w.alloc (.cells #[] 25) = w1 at o1 d1 ne1 ⊢
  have o2 := own_start w.heap.size w1 d1.size
  have o1' := World.ownsRow.alloc o1 (.cells #[] 25)
  have d2 := d1.alloc d1.size (.cells #[] 25)
  rw [ne1] at o2
  generalize w1.alloc (.cells #[] 25) = w2 at o1' o2 d2 ⊢
  have HO1 := Lib.hid o1'; have HO2 := Lib.hid o2; have HD0 := Lib.hid d2
  clear o1 o1' o2 d1 d2 ne1
  go_loopw [6, 7, 14] (fun s1 s2 i wr => ∃ rs ss : List Nat, i = .int .i64 (rs.length : Int) ∧ ss.length = rs.length ∧ rs.length ≤ xs.length ∧ Hid (Eqs rs (gapF a b xs 1 0)) ∧ Hid (Eqs ss (gapF a b xs 0 1)) ∧ (∃ g cap g' cap', s1 = .slice (some ⟨g, 0, none⟩) rs.length cap ∧ s2 = .slice (some ⟨g', 0, none⟩) rs.length cap' ∧ g ≠ g' ∧ Hid (wr.ownsRow w.heap.size 25 1 s1 rs.length (rs.map (Value.float .f32))) ∧ Hid (wr.ownsRow w.heap.size 25 1 s2 rs.length (ss.map (Value.float .f32)))) ∧ Hid (Below w.heap.size w wr)) (fun _ _ i _ => xs.length - (intOf i).toNat)
  case atStart => exact ⟨[], [], rfl, rfl, Nat.zero_le _, Lib.hid (Eqs.nil _), Lib.hid (Eqs.nil _), ⟨_, _, _, _, rfl, rfl, by omega, HO1, HO2⟩, HD0⟩
  case round =>
    clear HO1 HO2 HD0
    obtain ⟨rs, ss, rfl, hsl, hk, HE1, HE2, ⟨g, cap, g', cap', rfl, rfl, hgg, HO1, HO2⟩, HD⟩ := hrel
    by_cases hlt : rs.length < xs.length
    · have HSL := Lib.hid hsl; have HGG := Lib.hid hgg
      have hjn : (rs.length : Int) < a * b := by have := HA.out.2.2.2.2.1; omega
      clear hsl hgg
      go_wp2_with fail
      refine (sNear_any _ a b rs.length _ (HP.out.below HD.out) HGO.out hjn).mono ?_; rintro e w3 ⟨kk, rfl, hkk, hnear, hb3⟩
      have DD3 := Lib.hid (HD.out.trans (hb3.mono HD.out.size))
      have O13 := Lib.hid (fown_below HO1.out hb3)
      have O23 := Lib.hid (World.ownsRow.kept HO2.out (grown_below (row := none) hb3) (by simp [Value.ownBlock]))
      have hkl : kk < w3.heap.size := (Array.getElem?_eq_some_iff.1 hnear).1
      have KA1 := Lib.hid (show kk ≠ g by have := (HO1.out.lt g rfl).2; omega)
      have KA2 := Lib.hid (show kk ≠ g' by have := (HO2.out.lt g' rfl).2; omega)
      have HN := Lib.hid hnear
      clear hnear hb3 hkk hkl
      -- the neighbours
      have f1 := nbI_facts (a := a) (b := b) (-1) 0 (rs.length % a.toNat) (rs.length / a.toNat) HA.out.1 HA.out.2.2.1
      have f2 := nbI_facts (a := a) (b := b) 1 0 (rs.length % a.toNat) (rs.length / a.toNat) HA.out.1 HA.out.2.2.1
      have f3 := nbI_facts (a := a) (b := b) 0 (-1) (rs.length % a.toNat) (rs.length / a.toNat) HA.out.1 HA.out.2.2.1
      have f4 := nbI_facts (a := a) (b := b) 0 1 (rs.length % a.toNat) (rs.length / a.toNat) HA.out.1 HA.out.2.2.1
      have GF1 : gapF a b xs 1 0 rs.length = fop .mul .f32 1056964608 (fop .sub .f32 (cn .f32 (xs.getD (nbI a b (-1) 0 (rs.length % a.toNat) (rs.length / a.toNat)) 0)) (cn .f32 (xs.getD (nbI a b 1 0 (rs.length % a.toNat) (rs.length / a.toNat)) 0))) := by unfold gapF nbF; rfl
      have GF2 : gapF a b xs 0 1 rs.length = fop .mul .f32 1056964608 (fop .sub .f32 (cn .f32 (xs.getD (nbI a b 0 (-1) (rs.length % a.toNat) (rs.length / a.toNat)) 0)) (cn .f32 (xs.getD (nbI a b 0 1 (rs.length % a.toNat) (rs.length / a.toNat)) 0))) := by unfold gapF nbF; rfl
      generalize nbI a b (-1) 0 (rs.length % a.toNat) (rs.length / a.toNat) = n0 at f1 HN GF1
      generalize nbI a b 1 0 (rs.length % a.toNat) (rs.length / a.toNat) = n1 at f2 HN GF1
      generalize nbI a b 0 (-1) (rs.length % a.toNat) (rs.length / a.toNat) = n2 at f3 HN GF2
      generalize nbI a b 0 1 (rs.length % a.toNat) (rs.length / a.toNat) = n3 at f4 HN GF2
      have l0 : n0 < xs.length := by have := HA.out.2.2.2.2.1; omega
      have l1 : n1 < xs.length := by have := HA.out.2.2.2.2.1; omega
      have l2 : n2 < xs.length := by have := HA.out.2.2.2.2.1; omega
      have l3 : n3 < xs.length := by have := HA.out.2.2.2.2.1; omega
      obtain ⟨bk, ok, e5, hcx⟩ := FS.at HU.out DD3.out l0
      obtain rfl := e5
      have C0 := Lib.hid (FS.ever HU.out l0); have C1 := Lib.hid (FS.ever HU.out l1); have C2 := Lib.hid (FS.ever HU.out l2); have C3 := Lib.hid (FS.ever HU.out l3)
      have i0' := FS.is hwf n0 l0; have i1' := FS.is hwf n1 l1; have i2' := FS.is hwf n2 l2; have i3' := FS.is hwf n3 l3
      generalize cn .f32 (xs.getD n0 0) = X0 at i0' GF1
      generalize cn .f32 (xs.getD n1 0) = X1 at i1' GF1
      generalize cn .f32 (xs.getD n2 0) = X2 at i2' GF2
      generalize cn .f32 (xs.getD n3 0) = X3 at i3' GF2
      generalize xs.getD n0 0 = x0 at i0' C0 hcx
      generalize xs.getD n1 0 = x1 at i1' C1
      generalize xs.getD n2 0 = x2 at i2' C2
      generalize xs.getD n3 0 = x3 at i3' C3
      have J0 := Lib.hid i0'; have J1 := Lib.hid i1'; have J2 := Lib.hid i2'; have J3 := Lib.hid i3'
      have HF1 := Lib.hid GF1; have HF2 := Lib.hid GF2
      have m0 : (0 : Int) ≤ (n0 : Int) := Int.natCast_nonneg _
      have m1 : (0 : Int) ≤ (n1 : Int) := Int.natCast_nonneg _
      have m2 : (0 : Int) ≤ (n2 : Int) := Int.natCast_nonneg _
      have m3 : (0 : Int) ≤ (n3 : Int) := Int.natCast_nonneg _
      have q0 : (n0 : Int) < (xs.length : Int) := by omega
      have q1 : (n1 : Int) < (xs.length : Int) := by omega
      have q2 : (n2 : Int) < (xs.length : Int) := by omega
      have q3 : (n3 : Int) < (xs.length : Int) := by omega
      clear f1 f2 f3 f4 GF1 GF2 hcx i0' i1' i2' i3' l0 l1 l2 l3
      go_wp2_with fail
      refine wp_region_noPanic ?_
      refine wp_region_held_drew (S := (fun w' => w'.cell? ⟨kk, 0, none⟩ = some (.int .i64 n0) ∧ w'.cell? ⟨kk, 1, none⟩ = some (.int .i64 n1) ∧ w'.cell? ⟨bk, ok + n0, none⟩ = some (.float .f32 x0) ∧ w'.cell? ⟨bk, ok + n1, none⟩ = some (.float .f32 x1))) (by kernel_rfl) ⟨(cells4 HN.out).1, (cells4 HN.out).2.1, C0.out _ DD3.out.drew, C1.out _ DD3.out.drew⟩ (fun hHeld => ?_)
      have hba0 := (Below.refl w3.heap.size w3).drew
      have nea : w3.drew.heap.size = w3.heap.size := rfl
      have bla : ∀ k : Nat, w3.drew.heap[k]? = w3.heap[k]? := fun _ => rfl
      have P1a := Lib.hid (World.ownsRow.kept O13.out (grown_below (row := none) hba0) (by simp [Value.ownBlock]))
      have P2a := Lib.hid (World.ownsRow.kept O23.out (grown_below (row := none) hba0) (by simp [Value.ownBlock]))
      have Ea := Lib.hid (DD3.out.trans (hba0.mono DD3.out.size))
      have Na := Lib.hid ((bla kk).trans HN.out)
      clear bla nea hba0
      generalize w3.drew = va at hHeld P1a P2a Ea Na ⊢
      ((refine wpAnyH_take (i := 0) (v := ?_) rfl (by kernel_rfl) (by kernel_rfl) (by kernel_rfl) (fun _ _ _ h => h) (Or.inl ⟨by rfl, ?_⟩) (by assumption) ?_; rotate_left; (· intro w hSw; (try dsimp only at hSw); go_simp; first | done | with_reducible rfl); (try simp only [List.getElem_toArray, List.getElem_cons_zero, List.getElem_cons_succ, Act.put, List.setIfInBounds_toArray, List.set_cons_zero, List.set_cons_succ])); (refine wpAnyH_take (i := 1) (v := ?_) rfl (by kernel_rfl) (by kernel_rfl) (by kernel_rfl) (fun _ _ _ h => h) (Or.inl ⟨by rfl, ?_⟩) (by assumption) ?_; rotate_left; (· intro w hSw; (try dsimp only at hSw); go_simp; first | done | with_reducible rfl); (try simp only [List.getElem_toArray, List.getElem_cons_zero, List.getElem_cons_succ, Act.put, List.setIfInBounds_toArray, List.set_cons_zero, List.set_cons_succ])); (refine wpAnyH_take (i := 2) (v := ?_) rfl (by kernel_rfl) (by kernel_rfl) (by kernel_rfl) (fun _ _ _ h => h) (Or.inl ⟨by rfl, ?_⟩) (by assumption) ?_; rotate_left; (· intro w hSw; (try dsimp only at hSw); go_simp; first | done | with_reducible rfl); (try simp only [List.getElem_toArray, List.getElem_cons_zero, List.getElem_cons_succ, Act.put, List.setIfInBounds_toArray, List.set_cons_zero, List.set_cons_succ])); (refine wpAnyH_take (i := 3) (v := ?_) rfl (by kernel_rfl) (by kernel_rfl) (by kernel_rfl) (fun _ _ _ h => h) (Or.inl ⟨by rfl, ?_⟩) (by assumption) ?_; rotate_left; (· intro w hSw; (try dsimp only at hSw); go_simp; first | done | with_reducible rfl); (try simp only [List.getElem_toArray, List.getElem_cons_zero, List.getElem_cons_succ, Act.put, List.setIfInBounds_toArray, List.set_cons_zero, List.set_cons_succ])); (refine wpAnyH_take (i := 4) (v := ?_) rfl (by kernel_rfl) (by kernel_rfl) (by kernel_rfl) (fun _ _ _ h => h) (Or.inl ⟨by rfl, ?_⟩) (by assumption) ?_; rotate_left; (· intro w hSw; (try dsimp only at hSw); go_simp; first | done | with_reducible rfl); (try simp only [List.getElem_toArray, List.getElem_cons_zero, List.getElem_cons_succ, Act.put, List.setIfInBounds_toArray, List.set_cons_zero, List.set_cons_succ])); (refine wpAnyH_take (i := 5) (v := ?_) rfl (by kernel_rfl) (by kernel_rfl) (by kernel_rfl) (fun _ _ _ h => h) (Or.inl ⟨by rfl, ?_⟩) (by assumption) ?_; rotate_left; (· intro w hSw; (try dsimp only at hSw); go_simp; first | done | with_reducible rfl); (try simp only [List.getElem_toArray, List.getElem_cons_zero, List.getElem_cons_succ, Act.put, List.setIfInBounds_toArray, List.set_cons_zero, List.set_cons_succ])); (refine wpAnyH_take (i := 6) (v := ?_) rfl (by kernel_rfl) (by kernel_rfl) (by kernel_rfl) (fun _ _ _ h => h) (Or.inl ⟨by rfl, ?_⟩) (by assumption) ?_; rotate_left; (· intro w hSw; (try dsimp only at hSw); go_simp; first | done | with_reducible rfl); (try simp only [List.getElem_toArray, List.getElem_cons_zero, List.getElem_cons_succ, Act.put, List.setIfInBounds_toArray, List.set_cons_zero, List.set_cons_succ])); (refine wpAnyH_take (i := 7) (v := ?_) rfl (by kernel_rfl) (by kernel_rfl) (by kernel_rfl) (fun _ _ _ h => h) (Or.inl ⟨by rfl, ?_⟩) (by assumption) ?_; rotate_left; (· intro w hSw; (try dsimp only at hSw); go_simp; first | done | with_reducible rfl); (try simp only [List.getElem_toArray, List.getElem_cons_zero, List.getElem_cons_succ, Act.put, List.setIfInBounds_toArray, List.set_cons_zero, List.set_cons_succ])); (refine wpAnyH_take (i := 8) (v := ?_) rfl (by kernel_rfl) (by kernel_rfl) (by kernel_rfl) (fun _ _ _ h => h) (Or.inl ⟨by rfl, ?_⟩) (by assumption) ?_; rotate_left; (· intro w hSw; (try dsimp only at hSw); go_simp; first | done | with_reducible rfl); (try simp only [List.getElem_toArray, List.getElem_cons_zero, List.getElem_cons_succ, Act.put, List.setIfInBounds_toArray, List.set_cons_zero, List.set_cons_succ])); (refine wpAnyH_take (i := 9) (v := ?_) rfl (by kernel_rfl) (by kernel_rfl) (by kernel_rfl) (fun _ _ _ h => h) (Or.inl ⟨by rfl, ?_⟩) (by assumption) ?_; rotate_left; (· intro w hSw; (try dsimp only at hSw); go_simp; first | done | with_reducible rfl); (try simp only [List.getElem_toArray, List.getElem_cons_zero, List.getElem_cons_succ, Act.put, List.setIfInBounds_toArray, List.set_cons_zero, List.set_cons_succ])); (refine wpAnyH_take (i := 10) (v := ?_) rfl (by kernel_rfl) (by kernel_rfl) (by kernel_rfl) (fun _ _ _ h => h) (Or.inl ⟨by rfl, ?_⟩) (by assumption) ?_; rotate_left; (· intro w hSw; (try dsimp only at hSw); go_simp; first | done | with_reducible rfl); (try simp only [List.getElem_toArray, List.getElem_cons_zero, List.getElem_cons_succ, Act.put, List.setIfInBounds_toArray, List.set_cons_zero, List.set_cons_succ])); (refine wpAnyH_take (i := 11) (v := ?_) rfl (by kernel_rfl) (by kernel_rfl) (by kernel_rfl) (fun _ _ _ h => h) (Or.inl ⟨by rfl, ?_⟩) (by assumption) ?_; rotate_left; (· intro w hSw; (try dsimp only at hSw); go_simp; first | done | with_reducible rfl); (try simp only [List.getElem_toArray, List.getElem_cons_zero, List.getElem_cons_succ, Act.put, List.setIfInBounds_toArray, List.set_cons_zero, List.set_cons_succ])); (refine wpAnyH_take (i := 12) (v := ?_) rfl (by kernel_rfl) (by kernel_rfl) (by kernel_rfl) (fun _ _ _ h => h) (Or.inl ⟨by rfl, ?_⟩) (by assumption) ?_; rotate_left; (· intro w hSw; (try dsimp only at hSw); go_simp; first | done | with_reducible rfl); (try simp only [List.getElem_toArray, List.getElem_cons_zero, List.getElem_cons_succ, Act.put, List.setIfInBounds_toArray, List.set_cons_zero, List.set_cons_succ])))
      (refine wpAnyH_ready (rs := [13]) (by kernel_rfl) (by simp) ?_; refine AllReadyH.cons (i := 13) rfl (fun K hK => ?_) AllReadyH.nil)
      refine hstep_fa rfl .sub 25 25 _ _ rfl rfl .f32 x0 x1 rfl rfl J0.out J1.out ?_
      intro r n hr
      (refine hK.out _ _ (by assumption) (fun hHeld => ?_); clear hK K; (try simp only [List.getElem_toArray, List.getElem_cons_zero, List.getElem_cons_succ, Act.put, List.setIfInBounds_toArray, List.set_cons_zero, List.set_cons_succ]))
      (refine wpAnyH_ready (rs := [14]) (by kernel_rfl) (by simp) ?_; refine AllReadyH.cons (i := 14) rfl (fun K hK => ?_) AllReadyH.nil)
      refine hstep_fa rfl .mul 25 25 _ _ rfl rfl .f32 1056964608 r rfl rfl (Is.const rfl) hr ?_
      intro ra n' hr2
      (refine hK.out _ _ (by assumption) (fun hHeld => ?_); clear hK K; (try simp only [List.getElem_toArray, List.getElem_cons_zero, List.getElem_cons_succ, Act.put, List.setIfInBounds_toArray, List.set_cons_zero, List.set_cons_succ]))
      (refine wpAnyH_ready (rs := [15]) (by kernel_rfl) (by simp) ?_; refine AllReadyH.cons (i := 15) rfl (fun K hK => ?_) AllReadyH.nil)
      go_simp
      have hb4 := (below_drewN (Below.refl va.heap.size va) (n + n')).alloc (Nat.le_refl _) (.cells #[.float .f32 ra] 25)
      have hown3 := World.ownsRow.kept P1a.out (grown_below (row := none) hb4) (by simp [Value.ownBlock])
      have P3a := Lib.hid (World.ownsRow.kept P2a.out (grown_below (row := none) hb4) (by simp [Value.ownBlock]))
      have E1a := Lib.hid (Ea.out.trans (hb4.mono Ea.out.size))
      have N1a := Lib.hid ((hb4.block kk (Array.getElem?_eq_some_iff.1 Na.out).1).trans Na.out)
      (refine hK.out _ _ (⟨(cells4 N1a.out).1, (cells4 N1a.out).2.1, C0.out _ E1a.out, C1.out _ E1a.out⟩) (fun hHeld => ?_); clear hK K; (try simp only [List.getElem_toArray, List.getElem_cons_zero, List.getElem_cons_succ, Act.put, List.setIfInBounds_toArray, List.set_cons_zero, List.set_cons_succ]))
      (refine wpAnyH_ready (rs := [16]) (by kernel_rfl) (by simp) ?_; refine AllReadyH.cons (i := 16) rfl (fun K hK => ?_) AllReadyH.nil)
      refine step_append_lies _ (by rfl) _ _ _ (by rfl) w.heap.size 25 i0 _ 1 4 Try.underlying24 hi hz0 hz1 hz2 rfl (by omega) (.slice (some ⟨g, 0, none⟩) rs.length cap) rs.length (rs.map (Value.float .f32)) (by rfl) hown3
        ⟨va.heap.size, 0, none⟩ 1 1 [.float .f32 ra] (by rfl) (by rfl) (World.news_of_block (cs := #[.float .f32 ra]) (t := 25) (fr := (0, 0)) (heap_alloc_new _ _)) (by simp [Value.oneCell'])
        (by omega) (by unfold maxLen; omega) (by omega) E1a.out.size (va.heap.size + 1) (by simp) ?_
      intro ga capa w4 hown4 hgrow hat hltg
      have hsz4 : kk < va.heap.size := (Array.getElem?_eq_some_iff.1 Na.out).1
      have Xa := Lib.hid (E1a.out.grown hgrow E1a.out.size (fun k hk => (hown3.lt k hk).1))
      have Ya := Lib.hid (World.ownsRow.kept P3a.out hgrow (.inr (by simp [Value.ownBlock]; exact fun e => HGG.out e.symm)))
      have Za := Lib.hid ((hgrow.block kk (by simp; omega) (by simp [Value.ownBlock]; exact KA1.out)).trans N1a.out)
      have Ga := Lib.hid (show ga ≠ g' by
        have := (P2a.out.lt g' rfl).2
        rcases hat with hat | hat
        · simp [Value.ownBlock] at hat; rw [← hat]; exact HGG.out
        · omega)
      have Ka := Lib.hid (show kk ≠ ga by
        rcases hat with hat | hat
        · simp [Value.ownBlock] at hat; rw [← hat]; exact KA1.out
        · omega)
      (refine hK.out _ _ (⟨(cells4 Za.out).1, (cells4 Za.out).2.1, C0.out _ Xa.out, C1.out _ Xa.out⟩) (fun hHeld => ?_); clear hK K; (try simp only [List.getElem_toArray, List.getElem_cons_zero, List.getElem_cons_succ, Act.put, List.setIfInBounds_toArray, List.set_cons_zero, List.set_cons_succ]))
      (refine wpAnyH_ready (rs := [17]) (by kernel_rfl) (by simp) ?_; refine AllReadyH.cons (i := 17) rfl (fun K hK => ?_) AllReadyH.nil)
      go_simp
      (refine hK.out _ _ (by assumption) (fun hHeld => ?_); clear hK K; (try simp only [List.getElem_toArray, List.getElem_cons_zero, List.getElem_cons_succ, Act.put, List.setIfInBounds_toArray, List.set_cons_zero, List.set_cons_succ]))
      (refine wpAnyH_done (by kernel_rfl) ?_ _; refine NoPanic.normal ?_)
      have Va := Lib.hid (show w4.ownsRow w.heap.size 25 1 (.slice (some ⟨ga, 0, none⟩) (rs.length + 1) capa) (rs.length + 1) ((rs ++ [ra]).map (Value.float .f32)) by simpa using hown4)
      have Ua := Lib.hid (HE1.out.snoc (r := ra) (by rw [HF1.out]; exact hr2))
      clear hown3 hown4 hgrow hat hHeld hb4 hr hr2 hsz4 hltg
      go_wp2_with fail
      refine wp_region_noPanic ?_
      refine wp_region_held_drew (S := (fun w' => w'.cell? ⟨kk, 2, none⟩ = some (.int .i64 n2) ∧ w'.cell? ⟨kk, 3, none⟩ = some (.int .i64 n3) ∧ w'.cell? ⟨bk, ok + n2, none⟩ = some (.float .f32 x2) ∧ w'.cell? ⟨bk, ok + n3, none⟩ = some (.float .f32 x3))) (by kernel_rfl) ⟨(cells4 Za.out).2.2.1, (cells4 Za.out).2.2.2, C2.out _ Xa.out.drew, C3.out _ Xa.out.drew⟩ (fun hHeld => ?_)
      have hbb0 := (Below.refl w4.heap.size w4).drew
      have neb : w4.drew.heap.size = w4.heap.size := rfl
      have blb : ∀ k : Nat, w4.drew.heap[k]? = w4.heap[k]? := fun _ => rfl
      have P1b := Lib.hid (World.ownsRow.kept Ya.out (grown_below (row := none) hbb0) (by simp [Value.ownBlock]))
      have P2b := Lib.hid (World.ownsRow.kept Va.out (grown_below (row := none) hbb0) (by simp [Value.ownBlock]))
      have Eb := Lib.hid (Xa.out.trans (hbb0.mono Xa.out.size))
      have Nb := Lib.hid ((blb kk).trans Za.out)
      clear blb neb hbb0
      generalize w4.drew = vb at hHeld P1b P2b Eb Nb ⊢
      ((refine wpAnyH_take (i := 0) (v := ?_) rfl (by kernel_rfl) (by kernel_rfl) (by kernel_rfl) (fun _ _ _ h => h) (Or.inl ⟨by rfl, ?_⟩) (by assumption) ?_; rotate_left; (· intro w hSw; (try dsimp only at hSw); go_simp; first | done | with_reducible rfl); (try simp only [List.getElem_toArray, List.getElem_cons_zero, List.getElem_cons_succ, Act.put, List.setIfInBounds_toArray, List.set_cons_zero, List.set_cons_succ])); (refine wpAnyH_take (i := 1) (v := ?_) rfl (by kernel_rfl) (by kernel_rfl) (by kernel_rfl) (fun _ _ _ h => h) (Or.inl ⟨by rfl, ?_⟩) (by assumption) ?_; rotate_left; (· intro w hSw; (try dsimp only at hSw); go_simp; first | done | with_reducible rfl); (try simp only [List.getElem_toArray, List.getElem_cons_zero, List.getElem_cons_succ, Act.put, List.setIfInBounds_toArray, List.set_cons_zero, List.set_cons_succ])); (refine wpAnyH_take (i := 2) (v := ?_) rfl (by kernel_rfl) (by kernel_rfl) (by kernel_rfl) (fun _ _ _ h => h) (Or.inl ⟨by rfl, ?_⟩) (by assumption) ?_; rotate_left; (· intro w hSw; (try dsimp only at hSw); go_simp; first | done | with_reducible rfl); (try simp only [List.getElem_toArray, List.getElem_cons_zero, List.getElem_cons_succ, Act.put, List.setIfInBounds_toArray, List.set_cons_zero, List.set_cons_succ])); (refine wpAnyH_take (i := 3) (v := ?_) rfl (by kernel_rfl) (by kernel_rfl) (by kernel_rfl) (fun _ _ _ h => h) (Or.inl ⟨by rfl, ?_⟩) (by assumption) ?_; rotate_left; (· intro w hSw; (try dsimp only at hSw); go_simp; first | done | with_reducible rfl); (try simp only [List.getElem_toArray, List.getElem_cons_zero, List.getElem_cons_succ, Act.put, List.setIfInBounds_toArray, List.set_cons_zero, List.set_cons_succ])); (refine wpAnyH_take (i := 4) (v := ?_) rfl (by kernel_rfl) (by kernel_rfl) (by kernel_rfl) (fun _ _ _ h => h) (Or.inl ⟨by rfl, ?_⟩) (by assumption) ?_; rotate_left; (· intro w hSw; (try dsimp only at hSw); go_simp; first | done | with_reducible rfl); (try simp only [List.getElem_toArray, List.getElem_cons_zero, List.getElem_cons_succ, Act.put, List.setIfInBounds_toArray, List.set_cons_zero, List.set_cons_succ])); (refine wpAnyH_take (i := 5) (v := ?_) rfl (by kernel_rfl) (by kernel_rfl) (by kernel_rfl) (fun _ _ _ h => h) (Or.inl ⟨by rfl, ?_⟩) (by assumption) ?_; rotate_left; (· intro w hSw; (try dsimp only at hSw); go_simp; first | done | with_reducible rfl); (try simp only [List.getElem_toArray, List.getElem_cons_zero, List.getElem_cons_succ, Act.put, List.setIfInBounds_toArray, List.set_cons_zero, List.set_cons_succ])); (refine wpAnyH_take (i := 6) (v := ?_) rfl (by kernel_rfl) (by kernel_rfl) (by kernel_rfl) (fun _ _ _ h => h) (Or.inl ⟨by rfl, ?_⟩) (by assumption) ?_; rotate_left; (· intro w hSw; (try dsimp only at hSw); go_simp; first | done | with_reducible rfl); (try simp only [List.getElem_toArray, List.getElem_cons_zero, List.getElem_cons_succ, Act.put, List.setIfInBounds_toArray, List.set_cons_zero, List.set_cons_succ])); (refine wpAnyH_take (i := 7) (v := ?_) rfl (by kernel_rfl) (by kernel_rfl) (by kernel_rfl) (fun _ _ _ h => h) (Or.inl ⟨by rfl, ?_⟩) (by assumption) ?_; rotate_left; (· intro w hSw; (try dsimp only at hSw); go_simp; first | done | with_reducible rfl); (try simp only [List.getElem_toArray, List.getElem_cons_zero, List.getElem_cons_succ, Act.put, List.setIfInBounds_toArray, List.set_cons_zero, List.set_cons_succ])); (refine wpAnyH_take (i := 8) (v := ?_) rfl (by kernel_rfl) (by kernel_rfl) (by kernel_rfl) (fun _ _ _ h => h) (Or.inl ⟨by rfl, ?_⟩) (by assumption) ?_; rotate_left; (· intro w hSw; (try dsimp only at hSw); go_simp; first | done | with_reducible rfl); (try simp only [List.getElem_toArray, List.getElem_cons_zero, List.getElem_cons_succ, Act.put, List.setIfInBounds_toArray, List.set_cons_zero, List.set_cons_succ])); (refine wpAnyH_take (i := 9) (v := ?_) rfl (by kernel_rfl) (by kernel_rfl) (by kernel_rfl) (fun _ _ _ h => h) (Or.inl ⟨by rfl, ?_⟩) (by assumption) ?_; rotate_left; (· intro w hSw; (try dsimp only at hSw); go_simp; first | done | with_reducible rfl); (try simp only [List.getElem_toArray, List.getElem_cons_zero, List.getElem_cons_succ, Act.put, List.setIfInBounds_toArray, List.set_cons_zero, List.set_cons_succ])); (refine wpAnyH_take (i := 10) (v := ?_) rfl (by kernel_rfl) (by kernel_rfl) (by kernel_rfl) (fun _ _ _ h => h) (Or.inl ⟨by rfl, ?_⟩) (by assumption) ?_; rotate_left; (· intro w hSw; (try dsimp only at hSw); go_simp; first | done | with_reducible rfl); (try simp only [List.getElem_toArray, List.getElem_cons_zero, List.getElem_cons_succ, Act.put, List.setIfInBounds_toArray, List.set_cons_zero, List.set_cons_succ])); (refine wpAnyH_take (i := 11) (v := ?_) rfl (by kernel_rfl) (by kernel_rfl) (by kernel_rfl) (fun _ _ _ h => h) (Or.inl ⟨by rfl, ?_⟩) (by assumption) ?_; rotate_left; (· intro w hSw; (try dsimp only at hSw); go_simp; first | done | with_reducible rfl); (try simp only [List.getElem_toArray, List.getElem_cons_zero, List.getElem_cons_succ, Act.put, List.setIfInBounds_toArray, List.set_cons_zero, List.set_cons_succ])); (refine wpAnyH_take (i := 12) (v := ?_) rfl (by kernel_rfl) (by kernel_rfl) (by kernel_rfl) (fun _ _ _ h => h) (Or.inl ⟨by rfl, ?_⟩) (by assumption) ?_; rotate_left; (· intro w hSw; (try dsimp only at hSw); go_simp; first | done | with_reducible rfl); (try simp only [List.getElem_toArray, List.getElem_cons_zero, List.getElem_cons_succ, Act.put, List.setIfInBounds_toArray, List.set_cons_zero, List.set_cons_succ])))
      (refine wpAnyH_ready (rs := [13]) (by kernel_rfl) (by simp) ?_; refine AllReadyH.cons (i := 13) rfl (fun K hK => ?_) AllReadyH.nil)
      refine hstep_fa rfl .sub 25 25 _ _ rfl rfl .f32 x2 x3 rfl rfl J2.out J3.out ?_
      intro r n hr
      (refine hK.out _ _ (by assumption) (fun hHeld => ?_); clear hK K; (try simp only [List.getElem_toArray, List.getElem_cons_zero, List.getElem_cons_succ, Act.put, List.setIfInBounds_toArray, List.set_cons_zero, List.set_cons_succ]))
      (refine wpAnyH_ready (rs := [14]) (by kernel_rfl) (by simp) ?_; refine AllReadyH.cons (i := 14) rfl (fun K hK => ?_) AllReadyH.nil)
      refine hstep_fa rfl .mul 25 25 _ _ rfl rfl .f32 1056964608 r rfl rfl (Is.const rfl) hr ?_
      intro rb n' hr2
      (refine hK.out _ _ (by assumption) (fun hHeld => ?_); clear hK K; (try simp only [List.getElem_toArray, List.getElem_cons_zero, List.getElem_cons_succ, Act.put, List.setIfInBounds_toArray, List.set_cons_zero, List.set_cons_succ]))
      (refine wpAnyH_ready (rs := [15]) (by kernel_rfl) (by simp) ?_; refine AllReadyH.cons (i := 15) rfl (fun K hK => ?_) AllReadyH.nil)
      go_simp
      have hb4 := (below_drewN (Below.refl vb.heap.size vb) (n + n')).alloc (Nat.le_refl _) (.cells #[.float .f32 rb] 25)
      have hown3 := World.ownsRow.kept P1b.out (grown_below (row := none) hb4) (by simp [Value.ownBlock])
      have P3b := Lib.hid (World.ownsRow.kept P2b.out (grown_below (row := none) hb4) (by simp [Value.ownBlock]))
      have E1b := Lib.hid (Eb.out.trans (hb4.mono Eb.out.size))
      have N1b := Lib.hid ((hb4.block kk (Array.getElem?_eq_some_iff.1 Nb.out).1).trans Nb.out)
      (refine hK.out _ _ (⟨(cells4 N1b.out).2.2.1, (cells4 N1b.out).2.2.2, C2.out _ E1b.out, C3.out _ E1b.out⟩) (fun hHeld => ?_); clear hK K; (try simp only [List.getElem_toArray, List.getElem_cons_zero, List.getElem_cons_succ, Act.put, List.setIfInBounds_toArray, List.set_cons_zero, List.set_cons_succ]))
      (refine wpAnyH_ready (rs := [16]) (by kernel_rfl) (by simp) ?_; refine AllReadyH.cons (i := 16) rfl (fun K hK => ?_) AllReadyH.nil)
      refine step_append_lies _ (by rfl) _ _ _ (by rfl) w.heap.size 25 i0 _ 1 4 Try.underlying24 hi hz0 hz1 hz2 rfl (by omega) (.slice (some ⟨g', 0, none⟩) rs.length cap') rs.length (ss.map (Value.float .f32)) (by rfl) hown3
        ⟨vb.heap.size, 0, none⟩ 1 1 [.float .f32 rb] (by rfl) (by rfl) (World.news_of_block (cs := #[.float .f32 rb]) (t := 25) (fr := (0, 0)) (heap_alloc_new _ _)) (by simp [Value.oneCell'])
        (by omega) (by unfold maxLen; omega) (by omega) E1b.out.size (vb.heap.size + 1) (by simp) ?_
      intro gb capb w5 hown4 hgrow hat hltg
      have hsz4 : kk < vb.heap.size := (Array.getElem?_eq_some_iff.1 Nb.out).1
      have Xb := Lib.hid (E1b.out.grown hgrow E1b.out.size (fun k hk => (hown3.lt k hk).1))
      have Yb := Lib.hid (World.ownsRow.kept P3b.out hgrow (.inr (by simp [Value.ownBlock]; exact Ga.out)))
      have Zb := Lib.hid ((hgrow.block kk (by simp; omega) (by simp [Value.ownBlock]; exact KA2.out)).trans N1b.out)
      have Gb := Lib.hid (show gb ≠ ga by
        have := (P2b.out.lt ga rfl).2
        rcases hat with hat | hat
        · simp [Value.ownBlock] at hat; rw [← hat]; exact (fun e => Ga.out e.symm)
        · omega)
      have Kb := Lib.hid (show kk ≠ gb by
        rcases hat with hat | hat
        · simp [Value.ownBlock] at hat; rw [← hat]; exact KA2.out
        · omega)
      (refine hK.out _ _ (⟨(cells4 Zb.out).2.2.1, (cells4 Zb.out).2.2.2, C2.out _ Xb.out, C3.out _ Xb.out⟩) (fun hHeld => ?_); clear hK K; (try simp only [List.getElem_toArray, List.getElem_cons_zero, List.getElem_cons_succ, Act.put, List.setIfInBounds_toArray, List.set_cons_zero, List.set_cons_succ]))
      (refine wpAnyH_ready (rs := [17]) (by kernel_rfl) (by simp) ?_; refine AllReadyH.cons (i := 17) rfl (fun K hK => ?_) AllReadyH.nil)
      go_simp
      (refine hK.out _ _ (by assumption) (fun hHeld => ?_); clear hK K; (try simp only [List.getElem_toArray, List.getElem_cons_zero, List.getElem_cons_succ, Act.put, List.setIfInBounds_toArray, List.set_cons_zero, List.set_cons_succ]))
      (refine wpAnyH_done (by kernel_rfl) ?_ _; refine NoPanic.normal ?_)
      have Vb := Lib.hid (show w5.ownsRow w.heap.size 25 1 (.slice (some ⟨gb, 0, none⟩) (rs.length + 1) capb) (rs.length + 1) ((ss ++ [rb]).map (Value.float .f32)) by simpa using hown4)
      have Ub := Lib.hid (HE2.out.snoc (r := rb) (by rw [HSL.out]; rw [HF2.out]; exact hr2))
      clear hown3 hown4 hgrow hat hHeld hb4 hr hr2 hsz4 hltg
      have HL4 := Lib.hid (show (rs ++ [ra]).length = rs.length + 1 by simp)
      have HL5 := Lib.hid (show (ss ++ [rb]).length = rs.length + 1 by simp [HSL.out])
      go_wp2
      go_roundw
      case rel => exact ⟨rs ++ [ra], ss ++ [rb], by rw [HL4.out]; go_num, by rw [HL4.out, HL5.out], by rw [HL4.out]; omega, Ua, Ub, ⟨ga, capa, gb, capb, by rw [HL4.out], by rw [HL4.out], fun e => Gb.out e.symm, by rw [HL4.out]; exact Yb, by rw [HL4.out]; exact Vb⟩, Xb⟩
      case measure => simp [intOf]; omega
    · have hk2 : rs.length = xs.length := by omega
      have HK2 := Lib.hid hk2
      have HSL := Lib.hid hsl
      clear hk2 hsl
      go_wp2
      go_ret2
      exact ⟨⟨_, _, rfl, ⟨rs, HK2.out, HE1.out, HO1.out⟩, ⟨ss, HSL.out.trans HK2.out, HE2.out, by unfold FOwn; rw [HSL.out]; exact HO2.out⟩, .inr (by simp [Value.ownBlock]; exact fun e => hgg e.symm), .inr (by simp [Value.ownBlock]; exact hgg)⟩, HD.out⟩
end Go.Proofs.Ytajnaobfeipdaaa
