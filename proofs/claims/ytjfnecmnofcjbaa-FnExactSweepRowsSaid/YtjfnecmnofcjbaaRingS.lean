/-
  Equations of a row around, of the model.
-/
import Derived.Test.YtjfnecmnofcjbaaRingM
import Derived.Test.YtjfnecmnofcjbaaRest
import Derived.Test.YtjfnecmnofcjbaaRow2
import Derived.Deep.Cut
namespace Go.Proofs.Ytjfnecmnofcjbaa
open Go.Fl Go.RowKit
open Go.Joins (ownsRow_le)
set_option linter.unusedSimpArgs false
set_option linter.unusedVariables false

theorem rep_snoc (n x : Nat) : (List.replicate n x).map (Value.float .f32) ++ [.float .f32 x] = (List.replicate (n + 1) x).map (Value.float .f32) := by
  rw [List.replicate_succ', List.map_append]; rfl
/-- A row of a call's own: a list in a block of its own. -/
abbrev RW (B : Nat) (w : World) (g cap : Nat) (xs : List Nat) : Prop := w.ownsRow B 37 1 (.slice (some ⟨g, 0, none⟩) xs.length cap) xs.length (xs.map (Value.float .f32))

theorem RW.other {B : Nat} {w w' : World} {g g' cap : Nat} {xs : List Nat} (h : RW B w g cap xs) (hg : w.grownBy w' (some g')) (hne : g ≠ g') : RW B w' g cap xs := World.ownsRow.kept h hg (.inr (fun e => hne (by simpa [Value.ownBlock] using e)))
theorem RW.still {B : Nat} {w w' : World} {g cap : Nat} {xs : List Nat} (h : RW B w g cap xs) (hb : Below w.heap.size w w') : RW B w' g cap xs := World.ownsRow.kept h (grown_below (row := none) hb) (.inr (by simp [Value.ownBlock]))
theorem RW.put {B : Nat} {w : World} {g cap : Nat} {xs : List Nat} (h : RW B w g cap xs) (k r : Nat) : RW B (w.setCell ⟨g, k, none⟩ (.float .f32 r)) g cap (xs.set k r) ∧ w.grownBy (w.setCell ⟨g, k, none⟩ (.float .f32 r)) (some g) := by
  have := h.stored k (.float .f32 r)
  rw [map_set] at this
  refine ⟨?_, this.2⟩
  show (w.setCell ⟨g, k, none⟩ (.float .f32 r)).ownsRow B 37 1 (.slice (some ⟨g, 0, none⟩) (xs.set k r).length cap) (xs.set k r).length ((xs.set k r).map (Value.float .f32))
  rw [List.length_set]
  exact this.1
theorem RW.at {B : Nat} {w : World} {g cap : Nat} {xs : List Nat} (h : RW B w g cap xs) {k : Nat} (hk : k < xs.length) : w.cell? ⟨g, k, none⟩ = some (.float .f32 (xs.getD k 0)) := row_at h hk hk
theorem RW.fs {B : Nat} {w : World} {g cap : Nat} {xs : List Nat} (h : RW B w g cap xs) (hx : ∀ x ∈ xs, x < 2 ^ FloatKind.f32.format.width) : FS .f32 w (.slice (some ⟨g, 0, none⟩) xs.length cap) xs := fown_FS (B := B) h hx

set_option maxHeartbeats 8000000 in
set_option maxRecDepth 100000 in
theorem sRing_any (u : Value) (ri : List Nat) (w : World) (h : FS .f32 w u ri) (n1 : 3 ≤ ri.length) (n2 : ri.length ≤ 256) :
    Calls Try.prog 107 #[u] w fun e w' => (∃ v, e = .returned v ∧ FRes w.heap.size w' v ri.length (ringV ri)) ∧ Below w.heap.size w w' := by
  obtain ⟨i0, hi, hz0, hz1, hz2⟩ := info_parts F32info
  have hb4 : i0.bytes * ri.length ≤ 281474976710656 := by rw [hz2]; omega
  have hml : ri.length ≤ maxLen := by unfold maxLen; omega
  have HI := Lib.hid hi; have HZ0 := Lib.hid hz0; have HZ1 := Lib.hid hz1; have HZ2 := Lib.hid hz2
  clear hi hz0 hz1 hz2
  have HU := Lib.hid h
  obtain ⟨a1, c1, rfl, _, _, wf1, _⟩ := h
  clear wf1
  go_enter Try.func107, Try.ntmps107
  go_upto_region 4 with fail
  have o1 := own_start w.heap.size w (Nat.le_refl _)
  have d1 := (Below.refl w.heap.size w).alloc (Nat.le_refl _) (.cells #[] 37)
  have ne1 : (w.alloc (.cells #[] 37)).heap.size = w.heap.size + 1 := by simp
  generalize w.alloc (.cells #[] 37) = w1 at o1 d1 ne1 ⊢
  have o2 := own_start w.heap.size w1 d1.size
  have o1' := World.ownsRow.alloc o1 (.cells #[] 37)
  have d2 := d1.alloc d1.size (.cells #[] 37)
  rw [ne1] at o2
  generalize w1.alloc (.cells #[] 37) = w2 at o1' o2 d2 ⊢
  have HO1 := Lib.hid o1'; have HO2 := Lib.hid o2; have HD0 := Lib.hid d2
  clear o1 o1' o2 d1 d2 ne1
  go_wp2_with (at_make; refine wpList_make_full _ rfl _ _ 24 rfl w.heap.size 37 i0 (.float .f32 0) 1 Try.underlying24 HI.out HZ0.out HZ1.out _ _ _ _ ri.length rfl rfl rfl rfl hb4 hml HD0.out.size ?_; intro w4 hown hgrow)
  rw [made_zero] at hown
  have HX := Lib.hid (show RW w.heap.size w4 w2.heap.size ri.length (List.replicate ri.length 0) by show w4.ownsRow _ _ _ (.slice _ (List.replicate ri.length 0).length _) (List.replicate ri.length 0).length _; rw [List.length_replicate]; exact hown)
  have HA1 := Lib.hid (World.ownsRow.kept HO1.out hgrow (.inr (by simp [Value.ownBlock])))
  have HA2 := Lib.hid (World.ownsRow.kept HO2.out hgrow (.inr (by simp [Value.ownBlock])))
  have HG1 := Lib.hid (show w.heap.size ≠ w2.heap.size from by have := (HO1.out.lt w.heap.size rfl).2; omega)
  have HG2 := Lib.hid (show w.heap.size + 1 ≠ w2.heap.size from by have := (HO2.out.lt (w.heap.size + 1) rfl).2; omega)
  have HD4 := Lib.hid (HD0.out.grown hgrow HD0.out.size (fun k h => by cases h))
  clear hown hgrow HO1 HO2 HD0 hb4 hml
  generalize w2.heap.size = gx at HX HG1 HG2 ⊢
  go_loopw [4, 5, 7] (fun s1 s2 i wr => ∃ (k g cap g' cap' : Nat), s1 = .slice (some ⟨g, 0, none⟩) k cap ∧ s2 = .slice (some ⟨g', 0, none⟩) k cap' ∧ i = .int .i64 (k : Int) ∧ k ≤ ri.length ∧ Hid (g ≠ g') ∧ Hid (g ≠ gx) ∧ Hid (g' ≠ gx) ∧ Hid (wr.ownsRow w.heap.size 37 1 (.slice (some ⟨g, 0, none⟩) k cap) k ((List.replicate k 3212836864).map (Value.float .f32))) ∧ Hid (wr.ownsRow w.heap.size 37 1 (.slice (some ⟨g', 0, none⟩) k cap') k ((List.replicate k 1082130432).map (Value.float .f32))) ∧ Hid (RW w.heap.size wr gx ri.length (List.replicate ri.length 0)) ∧ Hid (Below w.heap.size w wr)) (fun _ _ i _ => ri.length - (intOf i).toNat)
  case atStart => exact ⟨0, w.heap.size, 0, w.heap.size + 1, 0, rfl, rfl, rfl, Nat.zero_le _, Lib.hid (by omega), HG1, HG2, HA1, HA2, HX, HD4⟩
  case round =>
    clear HA1 HA2 HX HD4 HG1 HG2
    obtain ⟨k, g, cap, g', cap', rfl, rfl, rfl, hk, HGG, HGX, HGY, HO1, HO2, HX, HD⟩ := hrel
    by_cases hlt : k < ri.length
    · go_wp2_with (first
        | (at_builtin; refine wpList_append_lies _ rfl _ _ _ rfl w.heap.size 37 i0 _ 1 4 Try.underlying24 HI.out HZ0.out HZ1.out HZ2.out rfl (by omega) (.slice (some ⟨g, 0, none⟩) k cap) k ((List.replicate k 3212836864).map (Value.float .f32)) rfl (World.ownsRow.alloc HO1.out (.cells #[.float .f32 3212836864] 37)) ⟨wr.heap.size, 0, none⟩ 1 1 [.float .f32 3212836864] rfl rfl (World.news_of_block (cs := #[.float .f32 3212836864]) (t := 37) (fr := (0, 0)) (heap_alloc_new _ _)) (by simp [Value.oneCell']) (by omega) (by unfold maxLen; omega) (by omega) (HD.out.alloc HD.out.size (.cells #[.float .f32 3212836864] 37)).size (wr.heap.size + 1) (by simp) ?_; intro g2 cap2 w3 hown4 hgrow hat hltg; have HB3 := Lib.hid ((HD.out.alloc HD.out.size (.cells #[.float .f32 3212836864] 37)).grown hgrow (HD.out.alloc HD.out.size (.cells #[.float .f32 3212836864] 37)).size (fun k hk => (HO1.out.lt k hk).1)); have HO3 := Lib.hid (World.ownsRow.kept (World.ownsRow.alloc HO2.out (.cells #[.float .f32 3212836864] 37)) hgrow (.inr (fun e => HGG.out (by simpa [Value.ownBlock] using e.symm)))); have HX3 := Lib.hid (World.ownsRow.kept (World.ownsRow.alloc HX.out (.cells #[.float .f32 3212836864] 37)) hgrow (.inr (fun e => HGX.out (by simpa [Value.ownBlock] using e.symm)))); have HG3 := Lib.hid (show g2 ≠ g' from fun e => hat.elim (fun h => HGG.out (by simp [Value.ownBlock] at h; omega)) (fun h => by have := (HO2.out.lt g' rfl).2; omega)); have HG4 := Lib.hid (show g2 ≠ gx from fun e => hat.elim (fun h => HGX.out (by simp [Value.ownBlock] at h; omega)) (fun h => by have := (HX.out.lt gx rfl).2; omega)); have HN3 := Lib.hid (show w3.ownsRow w.heap.size 37 1 (.slice (some ⟨g2, 0, none⟩) (k + 1) cap2) (k + 1) ((List.replicate (k + 1) 3212836864).map (Value.float .f32)) by rw [← rep_snoc]; exact hown4); clear hown4 hgrow hat hltg)
        | (at_builtin; refine wpList_append_lies _ rfl _ _ _ rfl w.heap.size 37 i0 _ 1 4 Try.underlying24 HI.out HZ0.out HZ1.out HZ2.out rfl (by omega) (.slice (some ⟨g', 0, none⟩) k cap') k ((List.replicate k 1082130432).map (Value.float .f32)) rfl (World.ownsRow.alloc HO3.out (.cells #[.float .f32 1082130432] 37)) ⟨w3.heap.size, 0, none⟩ 1 1 [.float .f32 1082130432] rfl rfl (World.news_of_block (cs := #[.float .f32 1082130432]) (t := 37) (fr := (0, 0)) (heap_alloc_new _ _)) (by simp [Value.oneCell']) (by omega) (by unfold maxLen; omega) (by omega) (HB3.out.alloc HB3.out.size (.cells #[.float .f32 1082130432] 37)).size (w3.heap.size + 1) (by simp) ?_; intro g3 cap3 w4 hown4 hgrow hat hltg))
      have HB4 := Lib.hid ((HB3.out.alloc HB3.out.size (.cells #[.float .f32 1082130432] 37)).grown hgrow (HB3.out.alloc HB3.out.size (.cells #[.float .f32 1082130432] 37)).size (fun k hk => (HO3.out.lt k hk).1))
      have HN4 := Lib.hid (World.ownsRow.kept (World.ownsRow.alloc HN3.out (.cells #[.float .f32 1082130432] 37)) hgrow (.inr (fun e => HG3.out (by simpa [Value.ownBlock] using e))))
      have HX4 := Lib.hid (World.ownsRow.kept (World.ownsRow.alloc HX3.out (.cells #[.float .f32 1082130432] 37)) hgrow (.inr (fun e => HGY.out (by simpa [Value.ownBlock] using e.symm))))
      have HG5 := Lib.hid (show g2 ≠ g3 from fun e => hat.elim (fun h => HG3.out (by simp [Value.ownBlock] at h; omega)) (fun h => by have := (HN3.out.lt g2 rfl).2; omega))
      have HG6 := Lib.hid (show g3 ≠ gx from fun e => hat.elim (fun h => HGY.out (by simp [Value.ownBlock] at h; omega)) (fun h => by have := (HX3.out.lt gx rfl).2; omega))
      have HP4 := Lib.hid (show w4.ownsRow w.heap.size 37 1 (.slice (some ⟨g3, 0, none⟩) (k + 1) cap3) (k + 1) ((List.replicate (k + 1) 1082130432).map (Value.float .f32)) by rw [← rep_snoc]; exact hown4)
      clear hown4 hgrow hat hltg
      go_wp2
      go_roundw
      case rel => exact ⟨k + 1, g2, cap2, g3, cap3, rfl, rfl, by go_num, by omega, HG5, HG4, HG6, HN4, HP4, HX4, HB4⟩
      case measure => simp [intOf]; omega
    · obtain rfl : k = ri.length := by omega
      have HS := Lib.hid (show RW w.heap.size wr g cap (sideL ri.length) by show wr.ownsRow _ _ _ (.slice _ (sideL ri.length).length _) (sideL ri.length).length _; rw [sideL_len]; exact HO1.out)
      have HM := Lib.hid (show RW w.heap.size wr g' cap' (List.replicate ri.length 1082130432) by show wr.ownsRow _ _ _ (.slice _ (List.replicate ri.length 1082130432).length _) (List.replicate ri.length 1082130432).length _; rw [List.length_replicate]; exact HO2.out)
      clear HO1 HO2 HI HZ0 HZ1 HZ2
      obtain ⟨m, hm⟩ : ∃ m, ri.length = m + 1 := ⟨ri.length - 1, by omega⟩
      have hw : wrap64 ((ri.length : Int) - 1) = (m : Int) := by rw [wrap64_of (by omega) (by omega)]; omega
      have hw2 : IntKind.i64.wrap ((ri.length : Int) - 1) = (m : Int) := by rw [wrap_i64]; exact hw
      have iM0 : (0 : Int) ≤ (m : Int) := Int.natCast_nonneg _
      have iM1 : (m : Int) < (ri.length : Int) := by omega
      have iN0 : (0 : Int) < (ri.length : Int) := by omega
      have hm1 : m < ri.length := by omega
      have hm0 : 0 < ri.length := by omega
      have HMM := Lib.hid (show ri.length - 1 = m by omega)
      clear hm
      go_upto_region 10 with fail
      have xk := HM.out.at (k := 0) (by simp; omega)
      have hf := HM.out.frozenAt 0
      have PT := HM.out.put 0 1090519040
      have HS := Lib.hid (HS.out.other PT.2 (HGG.out))
      have HX := Lib.hid (HX.out.other PT.2 (HGY.out.symm))
      have HD := Lib.hid (HD.out.setCell (p := ⟨g', 0, none⟩) (HM.out.lt g' rfl).1 (.float .f32 1090519040))
      have HM := Lib.hid PT.1
      clear PT
      go_upto_region 11 with fail
      clear xk hf
      generalize wr.setCell ⟨g', 0, none⟩ (.float .f32 1090519040) = w5 at HM HS HX HD ⊢
      have xk := HM.out.at (k := m) (by simp; omega)
      have hf := HM.out.frozenAt m
      have PT := HM.out.put m 1082654720
      have HS := Lib.hid (HS.out.other PT.2 (HGG.out))
      have HX := Lib.hid (HX.out.other PT.2 (HGY.out.symm))
      have HD := Lib.hid (HD.out.setCell (p := ⟨g', m, none⟩) (HM.out.lt g' rfl).1 (.float .f32 1082654720))
      have HM := Lib.hid PT.1
      clear PT
      go_upto_region 12 with fail
      clear xk hf
      generalize w5.setCell ⟨g', m, none⟩ (.float .f32 1082654720) = w6 at HM HS HX HD ⊢
      have xk := HX.out.at (k := 0) (by simp; omega)
      have hf := HX.out.frozenAt 0
      have PT := HX.out.put 0 3229614080
      have HS := Lib.hid (HS.out.other PT.2 (HGX.out))
      have HM := Lib.hid (HM.out.other PT.2 (HGY.out))
      have HD := Lib.hid (HD.out.setCell (p := ⟨gx, 0, none⟩) (HX.out.lt gx rfl).1 (.float .f32 3229614080))
      have HX := Lib.hid PT.1
      clear PT
      go_upto_region 13 with fail
      clear xk hf
      generalize w6.setCell ⟨gx, 0, none⟩ (.float .f32 3229614080) = w7 at HX HS HM HD ⊢
      have xk := HX.out.at (k := m) (by simp; omega)
      have hf := HX.out.frozenAt m
      have PT := HX.out.put m 3212836864
      have HS := Lib.hid (HS.out.other PT.2 (HGX.out))
      have HM := Lib.hid (HM.out.other PT.2 (HGY.out))
      have HD := Lib.hid (HD.out.setCell (p := ⟨gx, m, none⟩) (HX.out.lt gx rfl).1 (.float .f32 3212836864))
      have HX := Lib.hid PT.1
      clear PT
      go_upto_region 14 with fail
      clear xk hf
      generalize w7.setCell ⟨gx, m, none⟩ (.float .f32 3212836864) = w8 at HX HS HM HD ⊢
      have HMF := Lib.hid (show FS .f32 w8 (.slice (some ⟨g', 0, none⟩) ri.length cap') (midL ri.length) by
        have e : ((List.replicate ri.length 1082130432).set 0 1090519040).set m 1082654720 = midL ri.length := by unfold midL; rw [HMM.out]
        have := HM.out; rw [e] at this; have h2 := this.fs (mid_lt _); rw [midL_len] at h2; exact h2)
      have HXF := Lib.hid (show FS .f32 w8 (.slice (some ⟨gx, 0, none⟩) ri.length ri.length) (otherL ri.length) by
        have e : ((List.replicate ri.length 0).set 0 3229614080).set m 3212836864 = otherL ri.length := by unfold otherL; rw [HMM.out]
        have := HX.out; rw [e] at this; have h2 := this.fs (other_lt _); rw [otherL_len] at h2; exact h2)
      have HSF := Lib.hid (show FS .f32 w8 (.slice (some ⟨g, 0, none⟩) ri.length cap) (sideL ri.length) by have h2 := HS.out.fs (side_lt _); rw [sideL_len] at h2; exact h2)
      have N1 := Lib.hid n1; have N2 := Lib.hid n2
      clear HS HM HX HGG HGX HGY n1
      go_wp2_with fail
      refine (sRow1_any _ _ _ _ (sideL ri.length) (midL ri.length) (sideL ri.length) ri _ HSF.out HMF.out HSF.out (HU.out.below HD.out) (sideL_len _) (midL_len _) (sideL_len _) (by omega) N2.out).mono ?_; rintro e w9 ⟨⟨v, rfl, hv⟩, hb9⟩
      rw [rowN_yes (ring_fine ri N1.out), ring_fine ri N1.out] at *
      obtain ⟨gp, cp, ps, rfl, hpl, hpe, hpo⟩ := fres_row hv hm0
      have HPL := Lib.hid hpl; have HPE := Lib.hid (show EqOn ps (ringP ri) 0 ri.length from hpe)
      have HPO := Lib.hid (ownsRow_le hpo HD.out.size)
      have HMF9 := Lib.hid (HMF.out.below hb9); have HXF9 := Lib.hid (HXF.out.below hb9); have HSF9 := Lib.hid (HSF.out.below hb9)
      have HD9 := Lib.hid (HD.out.trans (hb9.mono HD.out.size))
      clear hv hpl hpe hpo hb9 HMF HXF HSF HD
      go_wp2_with fail
      refine (sRow1_any _ _ _ _ (sideL ri.length) (midL ri.length) (sideL ri.length) (otherL ri.length) _ HSF9.out HMF9.out HSF9.out (by have := HXF9.out; rw [← otherL_len ri.length] at this; simpa using HXF9.out) (by rw [otherL_len, sideL_len]) (by rw [otherL_len, midL_len]) (by rw [otherL_len, sideL_len]) (by rw [otherL_len]; omega) (by rw [otherL_len]; exact N2.out)).mono ?_; rintro e w10 ⟨⟨v, rfl, hv⟩, hb10⟩
      have EO := otherL_len ri.length
      have RF : triFine (sideL ri.length) (midL ri.length) (sideL ri.length) (otherL ri.length) (otherL ri.length).length = true := by rw [EO]; exact ring_fine _ N1.out
      rw [rowN_yes RF, EO] at hv
      obtain ⟨gq, cq, qs, rfl, hql, hqe, hqo⟩ := fres_row hv hm0
      have HQL := Lib.hid hql; have HQE := Lib.hid (show EqOn qs (ringQ ri.length) 0 ri.length from hqe)
      have HPQ := Lib.hid (show gp ≠ gq by have h1 := (HPO.out.lt gp rfl).2; have h2 := (hqo.lt gq rfl).1; omega)
      have HQO := Lib.hid (ownsRow_le hqo HD9.out.size)
      have HPO2 := Lib.hid (World.ownsRow.kept HPO.out (grown_below (row := none) hb10) (.inr (by simp [Value.ownBlock])))
      have HD10 := Lib.hid (HD9.out.trans (hb10.mono HD9.out.size))
      clear hv hql hqe hqo hb10 HMF9 HXF9 HSF9 HD9 HPO EO
      rw [RF]
      clear RF
      have p0 := row_at' HPO2.out HPL.out (k := 0) hm0
      have p1 := row_at' HPO2.out HPL.out hm1
      have q0 := row_at' HQO.out HQL.out (k := 0) hm0
      have q1 := row_at' HQO.out HQL.out hm1
      have ip0 := HPE.out 0 (Nat.le_refl _) hm0
      have ip1 := HPE.out m (Nat.zero_le _) hm1
      have iq0 := HQE.out 0 (Nat.le_refl _) hm0
      have iq1 := HQE.out m (Nat.zero_le _) hm1
      have HF := Lib.hid (show ringF ri = fop .quo .f32 (fop .add .f32 (ringP ri 0) (fop .mul .f32 1048576000 (ringP ri m))) (fop .add .f32 (fop .add .f32 1065353216 (ringQ ri.length 0)) (fop .mul .f32 1048576000 (ringQ ri.length m))) by unfold ringF; rw [HMM.out])
      generalize ringP ri 0 = P0 at ip0 HF
      generalize ringP ri m = P1 at ip1 HF
      generalize ringQ ri.length 0 = Q0 at iq0 HF
      generalize ringQ ri.length m = Q1 at iq1 HF
      generalize ps.getD 0 0 = y0 at p0 ip0
      generalize ps.getD m 0 = y1 at p1 ip1
      generalize qs.getD 0 0 = z0 at q0 iq0
      generalize qs.getD m 0 = z1 at q1 iq1
      go_upto_region 17 with (first | (apply wpList_farith; rfl; rfl; rfl; rfl; (first | with_reducible assumption | exact Is.const rfl); (first | with_reducible assumption | exact Is.const rfl); intro r n hr) | ((with_reducible apply Loose.wp_start); kernel_rfl; kernel_rfl) | ((with_reducible apply Loose.start_cons)) | ((with_reducible apply Loose.start_nil)) | ((with_reducible apply Loose.walk_nil); intro n) | ((with_reducible apply Loose.walk_skip); exact rfl; (go_simp; first | done | exact rfl)) | ((with_reducible apply Loose.step_fc); rfl; rfl; rfl; rfl; (first | with_reducible assumption | exact Is.const rfl); (first | with_reducible assumption | exact Is.const rfl); (first | with_reducible assumption | exact rfl); exact rfl; (go_simp; first | done | exact rfl)) | ((with_reducible apply Loose.step_fa); rfl; rfl; rfl; rfl; (first | with_reducible assumption | exact Is.const rfl); (first | with_reducible assumption | exact Is.const rfl); exact rfl; (intro r; go_simp; first | done | exact rfl); intro r hr) | ((with_reducible apply Loose.step_wid); rfl; rfl; (first | with_reducible assumption | exact Is.const rfl); exact U32; exact U64; exact rfl; (intro r; go_simp; first | done | exact rfl); intro r hr) | ((with_reducible apply Loose.step_nar); rfl; rfl; (first | with_reducible assumption | exact Is.const rfl); exact U64; exact U32; (with_reducible assumption); exact rfl; (intro r; go_simp; first | done | exact rfl); intro r hr) | ((with_reducible apply Loose.step_assign); rfl; rfl; (with_reducible assumption); exact rfl; (intro r; go_simp; first | done | exact rfl); intro r hr) | ((with_reducible apply Loose.step_move); rfl; rfl; (with_reducible assumption); exact rfl; (intro r; go_simp; first | done | exact rfl); intro r hr) | ((with_reducible apply Loose.step_same); rfl; rfl; exact U32; exact U32; (first | with_reducible assumption | exact Is.const rfl); exact rfl; (intro r; go_simp; first | done | exact rfl); intro r hr) | ((with_reducible apply Loose.step_same); rfl; rfl; exact U64; exact U64; (first | with_reducible assumption | exact Is.const rfl); exact rfl; (intro r; go_simp; first | done | exact rfl); intro r hr) | ((with_reducible apply Loose.step_eq); rfl; (intro n; go_simp; first | done | exact rfl); exact rfl; (go_simp; first | done | exact rfl)))
      have HR := Lib.hid (show Is .f32 r (ringF ri) by rw [HF.out]; exact hr)
      have HPO3 : Hid ((w10.drewN n).ownsRow w.heap.size 37 1 (.slice (some ⟨gp, 0, none⟩) ri.length cp) ri.length (ps.map (Value.float .f32))) := Lib.hid HPO2.out
      have HQO3 : Hid ((w10.drewN n).ownsRow w.heap.size 37 1 (.slice (some ⟨gq, 0, none⟩) ri.length cq) ri.length (qs.map (Value.float .f32))) := Lib.hid HQO.out
      have HD11 := Lib.hid (below_drewN HD10.out n)
      clear p0 p1 q0 q1 ip0 ip1 iq0 iq1 hr HPO2 HQO HD10 hw hw2 iM0 iM1 iN0
      generalize w10.drewN n = w11 at HPO3 HQO3 HD11 ⊢
      go_wp2_with fail
      go_loopw [83] (fun i wr => ∃ (k : Nat) (es : List Nat), i = .int .i64 (k : Int) ∧ k ≤ ri.length ∧ Hid (es.length = ri.length) ∧ Hid (EqOn es (ringV ri) 0 k) ∧ Hid (EqOn es (ringP ri) k ri.length) ∧ Hid (wr.ownsRow w.heap.size 37 1 (.slice (some ⟨gp, 0, none⟩) ri.length cp) ri.length (es.map (Value.float .f32))) ∧ Hid (wr.ownsRow w.heap.size 37 1 (.slice (some ⟨gq, 0, none⟩) ri.length cq) ri.length (qs.map (Value.float .f32))) ∧ Hid (Below w.heap.size w wr)) (fun i _ => ri.length - (intOf i).toNat)
      case atStart => exact ⟨0, ps, rfl, Nat.zero_le _, HPL, Lib.hid (EqOn.none _ _ _), HPE, HPO3, HQO3, HD11⟩
      case round =>
        clear HPL HPE HPO3 HQO3 HD11
        obtain ⟨k, es, rfl, hk, HEL, HE1, HE2, HO, HM, HD⟩ := hrel
        have hel := HEL.out
        by_cases hlt : k < ri.length
        · have xk := row_at' HO.out hel hlt
          have xm := row_at' HM.out HQL.out hlt
          have hf := HO.out.frozenAt k
          have ixk := HE2.out k (Nat.le_refl _) hlt
          have ixm := HQE.out k (Nat.zero_le _) hlt
          have ixr := HR.out
          have HV := Lib.hid (show ringV ri k = fop .sub .f32 (ringP ri k) (fop .mul .f32 (ringF ri) (ringQ ri.length k)) from rfl)
          generalize ringP ri k = X at ixk HV
          generalize ringQ ri.length k = Y at ixm HV
          generalize ringF ri = F at ixr HV
          generalize es.getD k 0 = y at xk ixk
          generalize hmk : qs.getD k 0 = mm at xm ixm
          have HMK := Lib.hid hmk
          have iK0 : (0 : Int) ≤ (k : Int) := Int.natCast_nonneg _
          have iK1 : (k : Int) < (ri.length : Int) := by omega
          clear hmk
          go_wp2_with fail
          refine wp_region_noPanic ?_
          refine wp_region_held_drew (S := fun w' => w'.cell? ⟨gq, k, none⟩ = some (.float .f32 mm)) (by kernel_rfl) xm (fun hHeld => ?_)
          ((refine wpAnyH_take (i := 0) (v := ?_) rfl (by kernel_rfl) (by kernel_rfl) (by kernel_rfl) (fun _ _ _ h => h) (Or.inl ⟨by rfl, ?_⟩) (by assumption) ?_; rotate_left; (· intro w hSw; (try dsimp only at hSw); go_simp; first | done | with_reducible rfl); (try simp only [List.getElem_toArray, List.getElem_cons_zero, List.getElem_cons_succ, Act.put, List.setIfInBounds_toArray, List.set_cons_zero, List.set_cons_succ])); (refine wpAnyH_take (i := 1) (v := ?_) rfl (by kernel_rfl) (by kernel_rfl) (by kernel_rfl) (fun _ _ _ h => h) (Or.inl ⟨by rfl, ?_⟩) (by assumption) ?_; rotate_left; (· intro w hSw; (try dsimp only at hSw); go_simp; first | done | with_reducible rfl); (try simp only [List.getElem_toArray, List.getElem_cons_zero, List.getElem_cons_succ, Act.put, List.setIfInBounds_toArray, List.set_cons_zero, List.set_cons_succ])); (refine wpAnyH_take (i := 2) (v := ?_) rfl (by kernel_rfl) (by kernel_rfl) (by kernel_rfl) (fun _ _ _ h => h) (Or.inl ⟨by rfl, ?_⟩) (by assumption) ?_; rotate_left; (· intro w hSw; (try dsimp only at hSw); go_simp; first | done | with_reducible rfl); (try simp only [List.getElem_toArray, List.getElem_cons_zero, List.getElem_cons_succ, Act.put, List.setIfInBounds_toArray, List.set_cons_zero, List.set_cons_succ])); (refine wpAnyH_take (i := 3) (v := ?_) rfl (by kernel_rfl) (by kernel_rfl) (by kernel_rfl) (fun _ _ _ h => h) (Or.inl ⟨by rfl, ?_⟩) (by assumption) ?_; rotate_left; (· intro w hSw; (try dsimp only at hSw); go_simp; first | done | with_reducible rfl); (try simp only [List.getElem_toArray, List.getElem_cons_zero, List.getElem_cons_succ, Act.put, List.setIfInBounds_toArray, List.set_cons_zero, List.set_cons_succ])); (refine wpAnyH_take (i := 4) (v := ?_) rfl (by kernel_rfl) (by kernel_rfl) (by kernel_rfl) (fun _ _ _ h => h) (Or.inl ⟨by rfl, ?_⟩) (by assumption) ?_; rotate_left; (· intro w hSw; (try dsimp only at hSw); go_simp; first | done | with_reducible rfl); (try simp only [List.getElem_toArray, List.getElem_cons_zero, List.getElem_cons_succ, Act.put, List.setIfInBounds_toArray, List.set_cons_zero, List.set_cons_succ])); (refine wpAnyH_take (i := 6) (v := ?_) rfl (by kernel_rfl) (by kernel_rfl) (by kernel_rfl) (fun _ _ _ h => h) (Or.inl ⟨by rfl, ?_⟩) (by assumption) ?_; rotate_left; (· intro w hSw; (try dsimp only at hSw); go_simp; first | done | with_reducible rfl); (try simp only [List.getElem_toArray, List.getElem_cons_zero, List.getElem_cons_succ, Act.put, List.setIfInBounds_toArray, List.set_cons_zero, List.set_cons_succ])); (refine wpAnyH_take (i := 7) (v := ?_) rfl (by kernel_rfl) (by kernel_rfl) (by kernel_rfl) (fun _ _ _ h => h) (Or.inl ⟨by rfl, ?_⟩) (by assumption) ?_; rotate_left; (· intro w hSw; (try dsimp only at hSw); go_simp; first | done | with_reducible rfl); (try simp only [List.getElem_toArray, List.getElem_cons_zero, List.getElem_cons_succ, Act.put, List.setIfInBounds_toArray, List.set_cons_zero, List.set_cons_succ])); (refine wpAnyH_take (i := 8) (v := ?_) rfl (by kernel_rfl) (by kernel_rfl) (by kernel_rfl) (fun _ _ _ h => h) (Or.inl ⟨by rfl, ?_⟩) (by assumption) ?_; rotate_left; (· intro w hSw; (try dsimp only at hSw); go_simp; first | done | with_reducible rfl); (try simp only [List.getElem_toArray, List.getElem_cons_zero, List.getElem_cons_succ, Act.put, List.setIfInBounds_toArray, List.set_cons_zero, List.set_cons_succ])); (refine wpAnyH_take (i := 9) (v := ?_) rfl (by kernel_rfl) (by kernel_rfl) (by kernel_rfl) (fun _ _ _ h => h) (Or.inl ⟨by rfl, ?_⟩) (by assumption) ?_; rotate_left; (· intro w hSw; (try dsimp only at hSw); go_simp; first | done | with_reducible rfl); (try simp only [List.getElem_toArray, List.getElem_cons_zero, List.getElem_cons_succ, Act.put, List.setIfInBounds_toArray, List.set_cons_zero, List.set_cons_succ])); (refine wpAnyH_take (i := 10) (v := ?_) rfl (by kernel_rfl) (by kernel_rfl) (by kernel_rfl) (fun _ _ _ h => h) (Or.inl ⟨by rfl, ?_⟩) (by assumption) ?_; rotate_left; (· intro w hSw; (try dsimp only at hSw); go_simp; first | done | with_reducible rfl); (try simp only [List.getElem_toArray, List.getElem_cons_zero, List.getElem_cons_succ, Act.put, List.setIfInBounds_toArray, List.set_cons_zero, List.set_cons_succ])))
          refine wpAnyH_ready (rs := [5, 11]) (by kernel_rfl) (by simp) ?_
          refine AllReadyH.cons (i := 5) rfl (fun K hK => ?_) (AllReadyH.cons (i := 11) rfl (fun K hK => ?_) AllReadyH.nil)
          · go_simp
            (refine hK.out _ _ (by go_keep) (fun hHeld => ?_); clear hK K; (try simp only [List.getElem_toArray, List.getElem_cons_zero, List.getElem_cons_succ, Act.put, List.setIfInBounds_toArray, List.set_cons_zero, List.set_cons_succ]))
            (refine wpAnyH_ready (rs := [11]) (by kernel_rfl) (by simp) ?_; refine AllReadyH.cons (i := 11) rfl (fun K hK => ?_) AllReadyH.nil)
            refine hstep_fa rfl .mul 37 37 _ _ rfl rfl .f32 r mm rfl rfl ixr ixm ?_
            intro r1 n1 hr1
            (refine hK.out _ _ (by go_keep) (fun hHeld => ?_); clear hK K; (try simp only [List.getElem_toArray, List.getElem_cons_zero, List.getElem_cons_succ, Act.put, List.setIfInBounds_toArray, List.set_cons_zero, List.set_cons_succ]))
            (refine wpAnyH_ready (rs := [12]) (by kernel_rfl) (by simp) ?_; refine AllReadyH.cons (i := 12) rfl (fun K hK => ?_) AllReadyH.nil)
            refine hstep_fa rfl .sub 37 37 _ _ rfl rfl .f32 y r1 rfl rfl ixk hr1 ?_
            intro r2 n2 hr2
            (refine hK.out _ _ (by go_keep) (fun hHeld => ?_); clear hK K; (try simp only [List.getElem_toArray, List.getElem_cons_zero, List.getElem_cons_succ, Act.put, List.setIfInBounds_toArray, List.set_cons_zero, List.set_cons_succ]))
            have HX5 : Hid ((wr.drewN (1 + n1 + n2)).ownsRow w.heap.size 37 1 (.slice (some ⟨gp, 0, none⟩) ri.length cp) ri.length (es.map (Value.float .f32))) := Lib.hid HO.out
            have ST := HX5.out.stored k (.float .f32 r2)
            rw [map_set] at ST
            have HS := Lib.hid ST.1
            have HM2 := Lib.hid (World.ownsRow.kept (show (wr.drewN (1 + n1 + n2)).ownsRow w.heap.size 37 1 (.slice (some ⟨gq, 0, none⟩) ri.length cq) ri.length (qs.map (Value.float .f32)) from HM.out) ST.2 (.inr (fun e => HPQ.out (by simpa [Value.ownBlock] using e.symm))))
            have HB := Lib.hid ((below_drewN HD.out (1 + n1 + n2)).setCell (p := ⟨gp, k, none⟩) (HX5.out.lt gp rfl).1 (.float .f32 r2))
            have HRV := Lib.hid (show Is .f32 r2 (ringV ri k) by rw [HV.out]; exact hr2)
            have cm := row_at' HM2.out HQL.out hlt
            rw [HMK.out] at cm
            clear ST
            ((refine wpAnyH_take (i := 13) (v := ?_) rfl (by kernel_rfl) (by kernel_rfl) (by kernel_rfl) (fun _ _ _ h => h) (Or.inl ⟨by rfl, ?_⟩) (by assumption) ?_; rotate_left; (· intro w hSw; (try dsimp only at hSw); go_simp; first | done | with_reducible rfl); (try simp only [List.getElem_toArray, List.getElem_cons_zero, List.getElem_cons_succ, Act.put, List.setIfInBounds_toArray, List.set_cons_zero, List.set_cons_succ])))
            (refine wpAnyH_ready (rs := [14]) (by kernel_rfl) (by simp) ?_; refine AllReadyH.cons (i := 14) rfl (fun K hK => ?_) AllReadyH.nil)
            go_simp
            (refine hK.out _ _ (cm) (fun hHeld => ?_); clear hK K; (try simp only [List.getElem_toArray, List.getElem_cons_zero, List.getElem_cons_succ, Act.put, List.setIfInBounds_toArray, List.set_cons_zero, List.set_cons_succ]))
            (refine wpAnyH_done (by kernel_rfl) ?_ _; refine NoPanic.normal ?_)
            clear hHeld xk xm hf cm HX5
            go_wp2_with fail
            go_roundw
            case rel => exact ⟨k + 1, es.set k r2, by go_num, by omega, Lib.hid (by rw [List.length_set]; exact hel), Lib.hid (EqOn.set_up HE1.out (by omega) HRV.out), Lib.hid (EqOn.set_out (fun q h1 h2 => HE2.out q (by omega) h2) (by omega) (.inl (Nat.lt_succ_self k))), HS, HM2, HB⟩
            case measure => simp [intOf]; omega
          · refine hstep_fa rfl .mul 37 37 _ _ rfl rfl .f32 r mm rfl rfl ixr ixm ?_
            intro r1 n1 hr1
            (refine hK.out _ _ (by go_keep) (fun hHeld => ?_); clear hK K; (try simp only [List.getElem_toArray, List.getElem_cons_zero, List.getElem_cons_succ, Act.put, List.setIfInBounds_toArray, List.set_cons_zero, List.set_cons_succ]))
            (refine wpAnyH_ready (rs := [5]) (by kernel_rfl) (by simp) ?_; refine AllReadyH.cons (i := 5) rfl (fun K hK => ?_) AllReadyH.nil)
            go_simp
            (refine hK.out _ _ (by go_keep) (fun hHeld => ?_); clear hK K; (try simp only [List.getElem_toArray, List.getElem_cons_zero, List.getElem_cons_succ, Act.put, List.setIfInBounds_toArray, List.set_cons_zero, List.set_cons_succ]))
            (refine wpAnyH_ready (rs := [12]) (by kernel_rfl) (by simp) ?_; refine AllReadyH.cons (i := 12) rfl (fun K hK => ?_) AllReadyH.nil)
            refine hstep_fa rfl .sub 37 37 _ _ rfl rfl .f32 y r1 rfl rfl ixk hr1 ?_
            intro r2 n2 hr2
            (refine hK.out _ _ (by go_keep) (fun hHeld => ?_); clear hK K; (try simp only [List.getElem_toArray, List.getElem_cons_zero, List.getElem_cons_succ, Act.put, List.setIfInBounds_toArray, List.set_cons_zero, List.set_cons_succ]))
            have HX5 : Hid ((wr.drewN (1 + n1 + n2)).ownsRow w.heap.size 37 1 (.slice (some ⟨gp, 0, none⟩) ri.length cp) ri.length (es.map (Value.float .f32))) := Lib.hid HO.out
            have ST := HX5.out.stored k (.float .f32 r2)
            rw [map_set] at ST
            have HS := Lib.hid ST.1
            have HM2 := Lib.hid (World.ownsRow.kept (show (wr.drewN (1 + n1 + n2)).ownsRow w.heap.size 37 1 (.slice (some ⟨gq, 0, none⟩) ri.length cq) ri.length (qs.map (Value.float .f32)) from HM.out) ST.2 (.inr (fun e => HPQ.out (by simpa [Value.ownBlock] using e.symm))))
            have HB := Lib.hid ((below_drewN HD.out (1 + n1 + n2)).setCell (p := ⟨gp, k, none⟩) (HX5.out.lt gp rfl).1 (.float .f32 r2))
            have HRV := Lib.hid (show Is .f32 r2 (ringV ri k) by rw [HV.out]; exact hr2)
            have cm := row_at' HM2.out HQL.out hlt
            rw [HMK.out] at cm
            clear ST
            ((refine wpAnyH_take (i := 13) (v := ?_) rfl (by kernel_rfl) (by kernel_rfl) (by kernel_rfl) (fun _ _ _ h => h) (Or.inl ⟨by rfl, ?_⟩) (by assumption) ?_; rotate_left; (· intro w hSw; (try dsimp only at hSw); go_simp; first | done | with_reducible rfl); (try simp only [List.getElem_toArray, List.getElem_cons_zero, List.getElem_cons_succ, Act.put, List.setIfInBounds_toArray, List.set_cons_zero, List.set_cons_succ])))
            (refine wpAnyH_ready (rs := [14]) (by kernel_rfl) (by simp) ?_; refine AllReadyH.cons (i := 14) rfl (fun K hK => ?_) AllReadyH.nil)
            go_simp
            (refine hK.out _ _ (cm) (fun hHeld => ?_); clear hK K; (try simp only [List.getElem_toArray, List.getElem_cons_zero, List.getElem_cons_succ, Act.put, List.setIfInBounds_toArray, List.set_cons_zero, List.set_cons_succ]))
            (refine wpAnyH_done (by kernel_rfl) ?_ _; refine NoPanic.normal ?_)
            clear hHeld xk xm hf cm HX5
            go_wp2_with fail
            go_roundw
            case rel => exact ⟨k + 1, es.set k r2, by go_num, by omega, Lib.hid (by rw [List.length_set]; exact hel), Lib.hid (EqOn.set_up HE1.out (by omega) HRV.out), Lib.hid (EqOn.set_out (fun q h1 h2 => HE2.out q (by omega) h2) (by omega) (.inl (Nat.lt_succ_self k))), HS, HM2, HB⟩
            case measure => simp [intOf]; omega
        · have hk2 : k = ri.length := by omega
          have HK2 := Lib.hid hk2
          clear hk2
          go_wp2_with fail
          go_ret
          exact ⟨⟨_, rfl, es, hel, EqOn.eqs (by have := HE1.out; rw [HK2.out] at this; exact this) hel, by unfold FOwn; rw [hel]; exact HO.out⟩, HD.out⟩
end Go.Proofs.Ytjfnecmnofcjbaa
