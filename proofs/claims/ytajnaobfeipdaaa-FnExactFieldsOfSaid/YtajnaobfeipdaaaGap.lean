/-
  The fields of a potential, told point by point by the program.
-/
import Derived.Test.YtajnaobfeipdaaaNear
namespace Go.Proofs.Ytajnaobfeipdaaa
open Go.Fl Go.RowKit
open Go.Joins (ownsRow_le)
set_option linter.unusedSimpArgs false
set_option linter.unusedVariables false

set_option maxHeartbeats 1000000 in
set_option maxRecDepth 100000 in
theorem gap1_any (a b : Int) (t : Value) (xs : List Nat) (c1 c2 : Value) (w : World) (hu : FS .f32 w t xs) (h1 : fieldOk a b xs.length = true) (hc1 : BX w c1 t) (hc2 : GP w c2 a b) :
    Tells w 71 c1 c2 a b (gapF a b xs 1 0) := by
  refine ⟨enters_of Try.func71 (by kernel_rfl) rfl, ?_⟩
  intro u v j wr hu1 hv1 hj hbel
  have HU := Lib.hid hu
  have HA := Lib.hid (fieldOk_true h1)
  obtain ⟨a1, cap1, rfl, hlc, hcm, hwf, hmem⟩ := hu
  have hb1 := hc1.below hbel
  have hg1 := hc2.below hbel
  obtain ⟨k1, rfl, hk1, hc⟩ := hb1
  obtain ⟨k2, rfl, hk2, hg0, hg1⟩ := hg1
  have hA : 4 ≤ a ∧ a ≤ 16 ∧ 4 ≤ b ∧ b ≤ 16 := ⟨HA.out.1, HA.out.2.1, HA.out.2.2.1, HA.out.2.2.2.1⟩
  obtain ⟨e1, e2⟩ := nbI_facts (-1) 0 u v hA.1 hA.2.2.1
  obtain ⟨e3, e4⟩ := nbI_facts 1 0 u v hA.1 hA.2.2.1
  have hF : gapF a b xs 1 0 j = fop .mul .f32 1056964608 (fop .sub .f32 (nbF a b xs (-1) 0 j) (nbF a b xs 1 0 j)) := by unfold gapF; rfl
  rw [nbF_at xs (-1) 0 hA.1 hu1 hj, nbF_at xs 1 0 hA.1 hu1 hj] at hF
  generalize nbI a b (-1) 0 u v = k at e1 e2 hF
  generalize nbI a b 1 0 u v = l at e3 e4 hF
  have HE1 := Lib.hid (show (k : Int) = ((u : Int) - 1) % a + a * ((v : Int) % b) by rw [e1]; simp [Int.sub_eq_add_neg])
  have HE3 := Lib.hid (show (l : Int) = ((u : Int) + 1) % a + a * ((v : Int) % b) by rw [e3]; simp [Int.sub_eq_add_neg])
  have hkl : k < xs.length := by have := HA.out.2.2.2.2.1; omega
  have hll : l < xs.length := by have := HA.out.2.2.2.2.1; omega
  obtain ⟨bk, ok, e5, hcx⟩ := FS.at HU.out hbel hkl
  obtain rfl := e5
  obtain ⟨bl, ol, e6, hcy⟩ := FS.at HU.out hbel hll
  cases e6
  have HC := Lib.hid (FS.ever HU.out hkl)
  have HC2 := Lib.hid (FS.ever HU.out hll)
  have ix := FS.is hwf k hkl
  have iy := FS.is hwf l hll
  generalize cn .f32 (xs.getD k 0) = X at ix hF
  generalize xs.getD k 0 = x0 at hcx ix HC
  generalize cn .f32 (xs.getD l 0) = Y at iy hF
  generalize xs.getD l 0 = y0 at hcy iy HC2
  have HF := Lib.hid hF
  have i1 : (0 : Int) ≤ (k : Int) := Int.natCast_nonneg _
  have i2 : (k : Int) < (xs.length : Int) := by omega
  have i3 : (0 : Int) ≤ (l : Int) := Int.natCast_nonneg _
  have i4 : (l : Int) < (xs.length : Int) := by omega
  have hq1 : IntKind.i64.wrap ((u : Int) - 1) = (u : Int) - 1 := by rw [wrap_i64]; exact wrap64_of (by omega) (by omega)
  have hq2 : IntKind.i64.wrap ((u : Int) + 1) = (u : Int) + 1 := by rw [wrap_i64]; exact wrap64_of (by omega) (by omega)
  have hq3 : IntKind.i64.wrap ((v : Int) - 1) = (v : Int) - 1 := by rw [wrap_i64]; exact wrap64_of (by omega) (by omega)
  have hq4 : IntKind.i64.wrap ((v : Int) + 1) = (v : Int) + 1 := by rw [wrap_i64]; exact wrap64_of (by omega) (by omega)
  clear hF e1 e2 e3 e4 hmem hlc hcm h1 hc1 hc2
  have hd3 := (Below.refl wr.heap.size wr).drew
  go_enter Try.func71, Try.ntmps71
  go_wp2_with fail
  refine wp_region_noPanic ?_
  refine wp_region_held_drew (S := fun w' => w'.cell? ⟨k1, 0, none⟩ = some (.slice (some ⟨bk, ok, none⟩) xs.length cap1) ∧ w'.cell? ⟨k2, 0, none⟩ = some (.int .i64 a) ∧ w'.cell? ⟨k2, 1, none⟩ = some (.int .i64 b) ∧ w'.cell? ⟨bk, ok + k, none⟩ = some (.float .f32 x0) ∧ w'.cell? ⟨bk, ok + l, none⟩ = some (.float .f32 y0)) (by kernel_rfl) ⟨hc, hg0, hg1, hcx, hcy⟩ (fun hHeld => ?_)
  ((refine wpAnyH_take (i := 0) (v := ?_) rfl (by kernel_rfl) (by kernel_rfl) (by kernel_rfl) (fun _ _ _ h => h) (Or.inl ⟨by rfl, ?_⟩) (by assumption) ?_; rotate_left; (· intro w hSw; (try dsimp only at hSw); go_simp; first | done | with_reducible rfl); (try simp only [List.getElem_toArray, List.getElem_cons_zero, List.getElem_cons_succ, Act.put, List.setIfInBounds_toArray, List.set_cons_zero, List.set_cons_succ])); (refine wpAnyH_take (i := 1) (v := ?_) rfl (by kernel_rfl) (by kernel_rfl) (by kernel_rfl) (fun _ _ _ h => h) (Or.inl ⟨by rfl, ?_⟩) (by assumption) ?_; rotate_left; (· intro w hSw; (try dsimp only at hSw); go_simp; first | done | with_reducible rfl); (try simp only [List.getElem_toArray, List.getElem_cons_zero, List.getElem_cons_succ, Act.put, List.setIfInBounds_toArray, List.set_cons_zero, List.set_cons_succ])); (refine wpAnyH_take (i := 2) (v := ?_) rfl (by kernel_rfl) (by kernel_rfl) (by kernel_rfl) (fun _ _ _ h => h) (Or.inl ⟨by rfl, ?_⟩) (by assumption) ?_; rotate_left; (· intro w hSw; (try dsimp only at hSw); go_simp; first | done | with_reducible rfl); (try simp only [List.getElem_toArray, List.getElem_cons_zero, List.getElem_cons_succ, Act.put, List.setIfInBounds_toArray, List.set_cons_zero, List.set_cons_succ])); (refine wpAnyH_take (i := 3) (v := ?_) rfl (by kernel_rfl) (by kernel_rfl) (by kernel_rfl) (fun _ _ _ h => h) (Or.inl ⟨by rfl, ?_⟩) (by assumption) ?_; rotate_left; (· intro w hSw; (try dsimp only at hSw); go_simp; first | done | with_reducible rfl); (try simp only [List.getElem_toArray, List.getElem_cons_zero, List.getElem_cons_succ, Act.put, List.setIfInBounds_toArray, List.set_cons_zero, List.set_cons_succ])); (refine wpAnyH_take (i := 4) (v := ?_) rfl (by kernel_rfl) (by kernel_rfl) (by kernel_rfl) (fun _ _ _ h => h) (Or.inl ⟨by rfl, ?_⟩) (by assumption) ?_; rotate_left; (· intro w hSw; (try dsimp only at hSw); go_simp; first | done | with_reducible rfl); (try simp only [List.getElem_toArray, List.getElem_cons_zero, List.getElem_cons_succ, Act.put, List.setIfInBounds_toArray, List.set_cons_zero, List.set_cons_succ])); (refine wpAnyH_take (i := 8) (v := ?_) rfl (by kernel_rfl) (by kernel_rfl) (by kernel_rfl) (fun _ _ _ h => h) (Or.inl ⟨by rfl, ?_⟩) (by assumption) ?_; rotate_left; (· intro w hSw; (try dsimp only at hSw); go_simp; first | done | with_reducible rfl); (try simp only [List.getElem_toArray, List.getElem_cons_zero, List.getElem_cons_succ, Act.put, List.setIfInBounds_toArray, List.set_cons_zero, List.set_cons_succ])); (refine wpAnyH_take (i := 9) (v := ?_) rfl (by kernel_rfl) (by kernel_rfl) (by kernel_rfl) (fun _ _ _ h => h) (Or.inl ⟨by rfl, ?_⟩) (by assumption) ?_; rotate_left; (· intro w hSw; (try dsimp only at hSw); go_simp; first | done | with_reducible rfl); (try simp only [List.getElem_toArray, List.getElem_cons_zero, List.getElem_cons_succ, Act.put, List.setIfInBounds_toArray, List.set_cons_zero, List.set_cons_succ])); (refine wpAnyH_take (i := 10) (v := ?_) rfl (by kernel_rfl) (by kernel_rfl) (by kernel_rfl) (fun _ _ _ h => h) (Or.inl ⟨by rfl, ?_⟩) (by assumption) ?_; rotate_left; (· intro w hSw; (try dsimp only at hSw); go_simp; first | done | with_reducible rfl); (try simp only [List.getElem_toArray, List.getElem_cons_zero, List.getElem_cons_succ, Act.put, List.setIfInBounds_toArray, List.set_cons_zero, List.set_cons_succ])); (refine wpAnyH_take (i := 11) (v := ?_) rfl (by kernel_rfl) (by kernel_rfl) (by kernel_rfl) (fun _ _ _ h => h) (Or.inl ⟨by rfl, ?_⟩) (by assumption) ?_; rotate_left; (· intro w hSw; (try dsimp only at hSw); go_simp; first | done | with_reducible rfl); (try simp only [List.getElem_toArray, List.getElem_cons_zero, List.getElem_cons_succ, Act.put, List.setIfInBounds_toArray, List.set_cons_zero, List.set_cons_succ])); (refine wpAnyH_take (i := 12) (v := ?_) rfl (by kernel_rfl) (by kernel_rfl) (by kernel_rfl) (fun _ _ _ h => h) (Or.inl ⟨by rfl, ?_⟩) (by assumption) ?_; rotate_left; (· intro w hSw; (try dsimp only at hSw); go_simp; first | done | with_reducible rfl); (try simp only [List.getElem_toArray, List.getElem_cons_zero, List.getElem_cons_succ, Act.put, List.setIfInBounds_toArray, List.set_cons_zero, List.set_cons_succ])))
  (refine wpAnyH_ready (rs := [5]) (by kernel_rfl) (by simp) ?_; refine AllReadyH.cons (i := 5) rfl (fun K hK => ?_) AllReadyH.nil)
  go_simp
  refine (indexOf_any a b ((u : Int) - 1) (v : Int) k _ ⟨hA.1, hA.2.1⟩ ⟨hA.2.2.1, hA.2.2.2⟩ HE1.out).mono ?_; rintro e w5 ⟨rfl, hb5⟩
  have HD5 := Lib.hid (hd3.trans (hb5.mono hd3.size))
  clear hb5
  go_wp2_with fail
  (refine hK.out _ _ (⟨by rw [HD5.out.cell (p := ⟨k1, 0, none⟩) hk1]; exact hc, by rw [HD5.out.cell (p := ⟨k2, 0, none⟩) hk2]; exact hg0, by rw [HD5.out.cell (p := ⟨k2, 1, none⟩) hk2]; exact hg1, HC.out _ (hbel.trans (HD5.out.mono hbel.size)), HC2.out _ (hbel.trans (HD5.out.mono hbel.size))⟩) (fun hHeld => ?_); clear hK K; (try simp only [List.getElem_toArray, List.getElem_cons_zero, List.getElem_cons_succ, Act.put, List.setIfInBounds_toArray, List.set_cons_zero, List.set_cons_succ]))
  ((refine wpAnyH_take (i := 6) (v := ?_) rfl (by kernel_rfl) (by kernel_rfl) (by kernel_rfl) (fun _ _ _ h => h) (Or.inl ⟨by rfl, ?_⟩) (by assumption) ?_; rotate_left; (· intro w hSw; (try dsimp only at hSw); go_simp; first | done | with_reducible rfl); (try simp only [List.getElem_toArray, List.getElem_cons_zero, List.getElem_cons_succ, Act.put, List.setIfInBounds_toArray, List.set_cons_zero, List.set_cons_succ])); (refine wpAnyH_take (i := 7) (v := ?_) rfl (by kernel_rfl) (by kernel_rfl) (by kernel_rfl) (fun _ _ _ h => h) (Or.inl ⟨by rfl, ?_⟩) (by assumption) ?_; rotate_left; (· intro w hSw; (try dsimp only at hSw); go_simp; first | done | with_reducible rfl); (try simp only [List.getElem_toArray, List.getElem_cons_zero, List.getElem_cons_succ, Act.put, List.setIfInBounds_toArray, List.set_cons_zero, List.set_cons_succ])))
  (refine wpAnyH_ready (rs := [13]) (by kernel_rfl) (by simp) ?_; refine AllReadyH.cons (i := 13) rfl (fun K hK => ?_) AllReadyH.nil)
  go_simp
  refine (indexOf_any a b ((u : Int) + 1) (v : Int) l _ ⟨hA.1, hA.2.1⟩ ⟨hA.2.2.1, hA.2.2.2⟩ HE3.out).mono ?_; rintro e w6 ⟨rfl, hb6⟩
  have HD6 := Lib.hid (HD5.out.trans (hb6.mono HD5.out.size))
  clear hb6
  go_wp2_with fail
  (refine hK.out _ _ (⟨by rw [HD6.out.cell (p := ⟨k1, 0, none⟩) hk1]; exact hc, by rw [HD6.out.cell (p := ⟨k2, 0, none⟩) hk2]; exact hg0, by rw [HD6.out.cell (p := ⟨k2, 1, none⟩) hk2]; exact hg1, HC.out _ (hbel.trans (HD6.out.mono hbel.size)), HC2.out _ (hbel.trans (HD6.out.mono hbel.size))⟩) (fun hHeld => ?_); clear hK K; (try simp only [List.getElem_toArray, List.getElem_cons_zero, List.getElem_cons_succ, Act.put, List.setIfInBounds_toArray, List.set_cons_zero, List.set_cons_succ]))
  ((refine wpAnyH_take (i := 14) (v := ?_) rfl (by kernel_rfl) (by kernel_rfl) (by kernel_rfl) (fun _ _ _ h => h) (Or.inl ⟨by rfl, ?_⟩) (by assumption) ?_; rotate_left; (· intro w hSw; (try dsimp only at hSw); go_simp; first | done | with_reducible rfl); (try simp only [List.getElem_toArray, List.getElem_cons_zero, List.getElem_cons_succ, Act.put, List.setIfInBounds_toArray, List.set_cons_zero, List.set_cons_succ])); (refine wpAnyH_take (i := 15) (v := ?_) rfl (by kernel_rfl) (by kernel_rfl) (by kernel_rfl) (fun _ _ _ h => h) (Or.inl ⟨by rfl, ?_⟩) (by assumption) ?_; rotate_left; (· intro w hSw; (try dsimp only at hSw); go_simp; first | done | with_reducible rfl); (try simp only [List.getElem_toArray, List.getElem_cons_zero, List.getElem_cons_succ, Act.put, List.setIfInBounds_toArray, List.set_cons_zero, List.set_cons_succ])))
  (refine wpAnyH_ready (rs := [16]) (by kernel_rfl) (by simp) ?_; refine AllReadyH.cons (i := 16) rfl (fun K hK => ?_) AllReadyH.nil)
  refine hstep_fa rfl .sub 25 25 _ _ rfl rfl .f32 x0 y0 rfl rfl ix iy ?_
  intro r n hr
  (refine hK.out _ _ (by assumption) (fun hHeld => ?_); clear hK K; (try simp only [List.getElem_toArray, List.getElem_cons_zero, List.getElem_cons_succ, Act.put, List.setIfInBounds_toArray, List.set_cons_zero, List.set_cons_succ]))
  (refine wpAnyH_ready (rs := [17]) (by kernel_rfl) (by simp) ?_; refine AllReadyH.cons (i := 17) rfl (fun K hK => ?_) AllReadyH.nil)
  refine hstep_fa rfl .mul 25 25 _ _ rfl rfl .f32 1056964608 r rfl rfl (Is.const rfl) hr ?_
  intro r2 n2 hr2
  (refine hK.out _ _ (by assumption) (fun hHeld => ?_); clear hK K; (try simp only [List.getElem_toArray, List.getElem_cons_zero, List.getElem_cons_succ, Act.put, List.setIfInBounds_toArray, List.set_cons_zero, List.set_cons_succ]))
  ((refine wpAnyH_take (i := 18) (v := ?_) rfl (by kernel_rfl) (by kernel_rfl) (by kernel_rfl) (fun _ _ _ h => h) (Or.inl ⟨by rfl, ?_⟩) (by assumption) ?_; rotate_left; (· intro w hSw; (try dsimp only at hSw); go_simp; first | done | with_reducible rfl); (try simp only [List.getElem_toArray, List.getElem_cons_zero, List.getElem_cons_succ, Act.put, List.setIfInBounds_toArray, List.set_cons_zero, List.set_cons_succ])))
  (refine wpAnyH_done (by kernel_rfl) ?_ _; refine NoPanic.normal ?_)
  clear hHeld
  go_wp2
  go_ret
  exact ⟨⟨_, rfl, by rw [HF.out]; exact hr2⟩, below_drewN (below_drewN HD6.out n) n2⟩

set_option maxHeartbeats 1000000 in
set_option maxRecDepth 100000 in
theorem gap2_any (a b : Int) (t : Value) (xs : List Nat) (c1 c2 : Value) (w : World) (hu : FS .f32 w t xs) (h1 : fieldOk a b xs.length = true) (hc1 : BX w c1 t) (hc2 : GP w c2 a b) :
    Tells w 72 c1 c2 a b (gapF a b xs 0 1) := by
  refine ⟨enters_of Try.func72 (by kernel_rfl) rfl, ?_⟩
  intro u v j wr hu1 hv1 hj hbel
  have HU := Lib.hid hu
  have HA := Lib.hid (fieldOk_true h1)
  obtain ⟨a1, cap1, rfl, hlc, hcm, hwf, hmem⟩ := hu
  have hb1 := hc1.below hbel
  have hg1 := hc2.below hbel
  obtain ⟨k1, rfl, hk1, hc⟩ := hb1
  obtain ⟨k2, rfl, hk2, hg0, hg1⟩ := hg1
  have hA : 4 ≤ a ∧ a ≤ 16 ∧ 4 ≤ b ∧ b ≤ 16 := ⟨HA.out.1, HA.out.2.1, HA.out.2.2.1, HA.out.2.2.2.1⟩
  obtain ⟨e1, e2⟩ := nbI_facts 0 (-1) u v hA.1 hA.2.2.1
  obtain ⟨e3, e4⟩ := nbI_facts 0 1 u v hA.1 hA.2.2.1
  have hF : gapF a b xs 0 1 j = fop .mul .f32 1056964608 (fop .sub .f32 (nbF a b xs 0 (-1) j) (nbF a b xs 0 1 j)) := by unfold gapF; rfl
  rw [nbF_at xs 0 (-1) hA.1 hu1 hj, nbF_at xs 0 1 hA.1 hu1 hj] at hF
  generalize nbI a b 0 (-1) u v = k at e1 e2 hF
  generalize nbI a b 0 1 u v = l at e3 e4 hF
  have HE1 := Lib.hid (show (k : Int) = (u : Int) % a + a * (((v : Int) - 1) % b) by rw [e1]; simp [Int.sub_eq_add_neg])
  have HE3 := Lib.hid (show (l : Int) = (u : Int) % a + a * (((v : Int) + 1) % b) by rw [e3]; simp [Int.sub_eq_add_neg])
  have hkl : k < xs.length := by have := HA.out.2.2.2.2.1; omega
  have hll : l < xs.length := by have := HA.out.2.2.2.2.1; omega
  obtain ⟨bk, ok, e5, hcx⟩ := FS.at HU.out hbel hkl
  obtain rfl := e5
  obtain ⟨bl, ol, e6, hcy⟩ := FS.at HU.out hbel hll
  cases e6
  have HC := Lib.hid (FS.ever HU.out hkl)
  have HC2 := Lib.hid (FS.ever HU.out hll)
  have ix := FS.is hwf k hkl
  have iy := FS.is hwf l hll
  generalize cn .f32 (xs.getD k 0) = X at ix hF
  generalize xs.getD k 0 = x0 at hcx ix HC
  generalize cn .f32 (xs.getD l 0) = Y at iy hF
  generalize xs.getD l 0 = y0 at hcy iy HC2
  have HF := Lib.hid hF
  have i1 : (0 : Int) ≤ (k : Int) := Int.natCast_nonneg _
  have i2 : (k : Int) < (xs.length : Int) := by omega
  have i3 : (0 : Int) ≤ (l : Int) := Int.natCast_nonneg _
  have i4 : (l : Int) < (xs.length : Int) := by omega
  have hq1 : IntKind.i64.wrap ((u : Int) - 1) = (u : Int) - 1 := by rw [wrap_i64]; exact wrap64_of (by omega) (by omega)
  have hq2 : IntKind.i64.wrap ((u : Int) + 1) = (u : Int) + 1 := by rw [wrap_i64]; exact wrap64_of (by omega) (by omega)
  have hq3 : IntKind.i64.wrap ((v : Int) - 1) = (v : Int) - 1 := by rw [wrap_i64]; exact wrap64_of (by omega) (by omega)
  have hq4 : IntKind.i64.wrap ((v : Int) + 1) = (v : Int) + 1 := by rw [wrap_i64]; exact wrap64_of (by omega) (by omega)
  clear hF e1 e2 e3 e4 hmem hlc hcm h1 hc1 hc2
  have hd3 := (Below.refl wr.heap.size wr).drew
  go_enter Try.func72, Try.ntmps72
  go_wp2_with fail
  refine wp_region_noPanic ?_
  refine wp_region_held_drew (S := fun w' => w'.cell? ⟨k1, 0, none⟩ = some (.slice (some ⟨bk, ok, none⟩) xs.length cap1) ∧ w'.cell? ⟨k2, 0, none⟩ = some (.int .i64 a) ∧ w'.cell? ⟨k2, 1, none⟩ = some (.int .i64 b) ∧ w'.cell? ⟨bk, ok + k, none⟩ = some (.float .f32 x0) ∧ w'.cell? ⟨bk, ok + l, none⟩ = some (.float .f32 y0)) (by kernel_rfl) ⟨hc, hg0, hg1, hcx, hcy⟩ (fun hHeld => ?_)
  ((refine wpAnyH_take (i := 0) (v := ?_) rfl (by kernel_rfl) (by kernel_rfl) (by kernel_rfl) (fun _ _ _ h => h) (Or.inl ⟨by rfl, ?_⟩) (by assumption) ?_; rotate_left; (· intro w hSw; (try dsimp only at hSw); go_simp; first | done | with_reducible rfl); (try simp only [List.getElem_toArray, List.getElem_cons_zero, List.getElem_cons_succ, Act.put, List.setIfInBounds_toArray, List.set_cons_zero, List.set_cons_succ])); (refine wpAnyH_take (i := 1) (v := ?_) rfl (by kernel_rfl) (by kernel_rfl) (by kernel_rfl) (fun _ _ _ h => h) (Or.inl ⟨by rfl, ?_⟩) (by assumption) ?_; rotate_left; (· intro w hSw; (try dsimp only at hSw); go_simp; first | done | with_reducible rfl); (try simp only [List.getElem_toArray, List.getElem_cons_zero, List.getElem_cons_succ, Act.put, List.setIfInBounds_toArray, List.set_cons_zero, List.set_cons_succ])); (refine wpAnyH_take (i := 2) (v := ?_) rfl (by kernel_rfl) (by kernel_rfl) (by kernel_rfl) (fun _ _ _ h => h) (Or.inl ⟨by rfl, ?_⟩) (by assumption) ?_; rotate_left; (· intro w hSw; (try dsimp only at hSw); go_simp; first | done | with_reducible rfl); (try simp only [List.getElem_toArray, List.getElem_cons_zero, List.getElem_cons_succ, Act.put, List.setIfInBounds_toArray, List.set_cons_zero, List.set_cons_succ])); (refine wpAnyH_take (i := 3) (v := ?_) rfl (by kernel_rfl) (by kernel_rfl) (by kernel_rfl) (fun _ _ _ h => h) (Or.inl ⟨by rfl, ?_⟩) (by assumption) ?_; rotate_left; (· intro w hSw; (try dsimp only at hSw); go_simp; first | done | with_reducible rfl); (try simp only [List.getElem_toArray, List.getElem_cons_zero, List.getElem_cons_succ, Act.put, List.setIfInBounds_toArray, List.set_cons_zero, List.set_cons_succ])); (refine wpAnyH_take (i := 4) (v := ?_) rfl (by kernel_rfl) (by kernel_rfl) (by kernel_rfl) (fun _ _ _ h => h) (Or.inl ⟨by rfl, ?_⟩) (by assumption) ?_; rotate_left; (· intro w hSw; (try dsimp only at hSw); go_simp; first | done | with_reducible rfl); (try simp only [List.getElem_toArray, List.getElem_cons_zero, List.getElem_cons_succ, Act.put, List.setIfInBounds_toArray, List.set_cons_zero, List.set_cons_succ])); (refine wpAnyH_take (i := 8) (v := ?_) rfl (by kernel_rfl) (by kernel_rfl) (by kernel_rfl) (fun _ _ _ h => h) (Or.inl ⟨by rfl, ?_⟩) (by assumption) ?_; rotate_left; (· intro w hSw; (try dsimp only at hSw); go_simp; first | done | with_reducible rfl); (try simp only [List.getElem_toArray, List.getElem_cons_zero, List.getElem_cons_succ, Act.put, List.setIfInBounds_toArray, List.set_cons_zero, List.set_cons_succ])); (refine wpAnyH_take (i := 9) (v := ?_) rfl (by kernel_rfl) (by kernel_rfl) (by kernel_rfl) (fun _ _ _ h => h) (Or.inl ⟨by rfl, ?_⟩) (by assumption) ?_; rotate_left; (· intro w hSw; (try dsimp only at hSw); go_simp; first | done | with_reducible rfl); (try simp only [List.getElem_toArray, List.getElem_cons_zero, List.getElem_cons_succ, Act.put, List.setIfInBounds_toArray, List.set_cons_zero, List.set_cons_succ])); (refine wpAnyH_take (i := 10) (v := ?_) rfl (by kernel_rfl) (by kernel_rfl) (by kernel_rfl) (fun _ _ _ h => h) (Or.inl ⟨by rfl, ?_⟩) (by assumption) ?_; rotate_left; (· intro w hSw; (try dsimp only at hSw); go_simp; first | done | with_reducible rfl); (try simp only [List.getElem_toArray, List.getElem_cons_zero, List.getElem_cons_succ, Act.put, List.setIfInBounds_toArray, List.set_cons_zero, List.set_cons_succ])); (refine wpAnyH_take (i := 11) (v := ?_) rfl (by kernel_rfl) (by kernel_rfl) (by kernel_rfl) (fun _ _ _ h => h) (Or.inl ⟨by rfl, ?_⟩) (by assumption) ?_; rotate_left; (· intro w hSw; (try dsimp only at hSw); go_simp; first | done | with_reducible rfl); (try simp only [List.getElem_toArray, List.getElem_cons_zero, List.getElem_cons_succ, Act.put, List.setIfInBounds_toArray, List.set_cons_zero, List.set_cons_succ])); (refine wpAnyH_take (i := 12) (v := ?_) rfl (by kernel_rfl) (by kernel_rfl) (by kernel_rfl) (fun _ _ _ h => h) (Or.inl ⟨by rfl, ?_⟩) (by assumption) ?_; rotate_left; (· intro w hSw; (try dsimp only at hSw); go_simp; first | done | with_reducible rfl); (try simp only [List.getElem_toArray, List.getElem_cons_zero, List.getElem_cons_succ, Act.put, List.setIfInBounds_toArray, List.set_cons_zero, List.set_cons_succ])))
  (refine wpAnyH_ready (rs := [5]) (by kernel_rfl) (by simp) ?_; refine AllReadyH.cons (i := 5) rfl (fun K hK => ?_) AllReadyH.nil)
  go_simp
  refine (indexOf_any a b (u : Int) ((v : Int) - 1) k _ ⟨hA.1, hA.2.1⟩ ⟨hA.2.2.1, hA.2.2.2⟩ HE1.out).mono ?_; rintro e w5 ⟨rfl, hb5⟩
  have HD5 := Lib.hid (hd3.trans (hb5.mono hd3.size))
  clear hb5
  go_wp2_with fail
  (refine hK.out _ _ (⟨by rw [HD5.out.cell (p := ⟨k1, 0, none⟩) hk1]; exact hc, by rw [HD5.out.cell (p := ⟨k2, 0, none⟩) hk2]; exact hg0, by rw [HD5.out.cell (p := ⟨k2, 1, none⟩) hk2]; exact hg1, HC.out _ (hbel.trans (HD5.out.mono hbel.size)), HC2.out _ (hbel.trans (HD5.out.mono hbel.size))⟩) (fun hHeld => ?_); clear hK K; (try simp only [List.getElem_toArray, List.getElem_cons_zero, List.getElem_cons_succ, Act.put, List.setIfInBounds_toArray, List.set_cons_zero, List.set_cons_succ]))
  ((refine wpAnyH_take (i := 6) (v := ?_) rfl (by kernel_rfl) (by kernel_rfl) (by kernel_rfl) (fun _ _ _ h => h) (Or.inl ⟨by rfl, ?_⟩) (by assumption) ?_; rotate_left; (· intro w hSw; (try dsimp only at hSw); go_simp; first | done | with_reducible rfl); (try simp only [List.getElem_toArray, List.getElem_cons_zero, List.getElem_cons_succ, Act.put, List.setIfInBounds_toArray, List.set_cons_zero, List.set_cons_succ])); (refine wpAnyH_take (i := 7) (v := ?_) rfl (by kernel_rfl) (by kernel_rfl) (by kernel_rfl) (fun _ _ _ h => h) (Or.inl ⟨by rfl, ?_⟩) (by assumption) ?_; rotate_left; (· intro w hSw; (try dsimp only at hSw); go_simp; first | done | with_reducible rfl); (try simp only [List.getElem_toArray, List.getElem_cons_zero, List.getElem_cons_succ, Act.put, List.setIfInBounds_toArray, List.set_cons_zero, List.set_cons_succ])))
  (refine wpAnyH_ready (rs := [13]) (by kernel_rfl) (by simp) ?_; refine AllReadyH.cons (i := 13) rfl (fun K hK => ?_) AllReadyH.nil)
  go_simp
  refine (indexOf_any a b (u : Int) ((v : Int) + 1) l _ ⟨hA.1, hA.2.1⟩ ⟨hA.2.2.1, hA.2.2.2⟩ HE3.out).mono ?_; rintro e w6 ⟨rfl, hb6⟩
  have HD6 := Lib.hid (HD5.out.trans (hb6.mono HD5.out.size))
  clear hb6
  go_wp2_with fail
  (refine hK.out _ _ (⟨by rw [HD6.out.cell (p := ⟨k1, 0, none⟩) hk1]; exact hc, by rw [HD6.out.cell (p := ⟨k2, 0, none⟩) hk2]; exact hg0, by rw [HD6.out.cell (p := ⟨k2, 1, none⟩) hk2]; exact hg1, HC.out _ (hbel.trans (HD6.out.mono hbel.size)), HC2.out _ (hbel.trans (HD6.out.mono hbel.size))⟩) (fun hHeld => ?_); clear hK K; (try simp only [List.getElem_toArray, List.getElem_cons_zero, List.getElem_cons_succ, Act.put, List.setIfInBounds_toArray, List.set_cons_zero, List.set_cons_succ]))
  ((refine wpAnyH_take (i := 14) (v := ?_) rfl (by kernel_rfl) (by kernel_rfl) (by kernel_rfl) (fun _ _ _ h => h) (Or.inl ⟨by rfl, ?_⟩) (by assumption) ?_; rotate_left; (· intro w hSw; (try dsimp only at hSw); go_simp; first | done | with_reducible rfl); (try simp only [List.getElem_toArray, List.getElem_cons_zero, List.getElem_cons_succ, Act.put, List.setIfInBounds_toArray, List.set_cons_zero, List.set_cons_succ])); (refine wpAnyH_take (i := 15) (v := ?_) rfl (by kernel_rfl) (by kernel_rfl) (by kernel_rfl) (fun _ _ _ h => h) (Or.inl ⟨by rfl, ?_⟩) (by assumption) ?_; rotate_left; (· intro w hSw; (try dsimp only at hSw); go_simp; first | done | with_reducible rfl); (try simp only [List.getElem_toArray, List.getElem_cons_zero, List.getElem_cons_succ, Act.put, List.setIfInBounds_toArray, List.set_cons_zero, List.set_cons_succ])))
  (refine wpAnyH_ready (rs := [16]) (by kernel_rfl) (by simp) ?_; refine AllReadyH.cons (i := 16) rfl (fun K hK => ?_) AllReadyH.nil)
  refine hstep_fa rfl .sub 25 25 _ _ rfl rfl .f32 x0 y0 rfl rfl ix iy ?_
  intro r n hr
  (refine hK.out _ _ (by assumption) (fun hHeld => ?_); clear hK K; (try simp only [List.getElem_toArray, List.getElem_cons_zero, List.getElem_cons_succ, Act.put, List.setIfInBounds_toArray, List.set_cons_zero, List.set_cons_succ]))
  (refine wpAnyH_ready (rs := [17]) (by kernel_rfl) (by simp) ?_; refine AllReadyH.cons (i := 17) rfl (fun K hK => ?_) AllReadyH.nil)
  refine hstep_fa rfl .mul 25 25 _ _ rfl rfl .f32 1056964608 r rfl rfl (Is.const rfl) hr ?_
  intro r2 n2 hr2
  (refine hK.out _ _ (by assumption) (fun hHeld => ?_); clear hK K; (try simp only [List.getElem_toArray, List.getElem_cons_zero, List.getElem_cons_succ, Act.put, List.setIfInBounds_toArray, List.set_cons_zero, List.set_cons_succ]))
  ((refine wpAnyH_take (i := 18) (v := ?_) rfl (by kernel_rfl) (by kernel_rfl) (by kernel_rfl) (fun _ _ _ h => h) (Or.inl ⟨by rfl, ?_⟩) (by assumption) ?_; rotate_left; (· intro w hSw; (try dsimp only at hSw); go_simp; first | done | with_reducible rfl); (try simp only [List.getElem_toArray, List.getElem_cons_zero, List.getElem_cons_succ, Act.put, List.setIfInBounds_toArray, List.set_cons_zero, List.set_cons_succ])))
  (refine wpAnyH_done (by kernel_rfl) ?_ _; refine NoPanic.normal ?_)
  clear hHeld
  go_wp2
  go_ret
  exact ⟨⟨_, rfl, by rw [HF.out]; exact hr2⟩, below_drewN (below_drewN HD6.out n) n2⟩
end Go.Proofs.Ytajnaobfeipdaaa
