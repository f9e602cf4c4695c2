/-
  Equations of a row around, of the program; SolveRing of both sides.
-/
import Derived.Test.YtjfnecmnofcjbaaCut77
namespace Go.Proofs.Ytjfnecmnofcjbaa
open Go.Fl Go.RowKit
open Go.Joins (ownsRow_le)
set_option linter.unusedSimpArgs false
set_option linter.unusedVariables false

set_option maxHeartbeats 8000000 in
set_option maxRecDepth 100000 in
theorem iRing_yes (u : Value) (ri : List Nat) (w : World) (h : FS .f32 w u ri) (n1 : 3 ≤ ri.length) (n2 : ri.length ≤ 256) :
    Calls Try.prog 82 #[u] w fun e w' => (∃ v, e = .returned (.tuple #[v, .bool true]) ∧ FRes w.heap.size w' v ri.length (ringV ri)) ∧ Below w.heap.size w w' := by
  obtain ⟨i0, hi, hz0, hz1, hz2⟩ := info_parts F32info
  have hb4 : i0.bytes * ri.length ≤ 281474976710656 := by rw [hz2]; omega
  have hml : ri.length ≤ maxLen := by unfold maxLen; omega
  have HI := Lib.hid hi; have HZ0 := Lib.hid hz0; have HZ1 := Lib.hid hz1
  clear hi hz0 hz1 hz2
  have HU := Lib.hid h
  obtain ⟨a1, c1, rfl, _, _, wf1, _⟩ := h
  clear wf1
  obtain ⟨m, hm⟩ : ∃ m, ri.length = m + 1 := ⟨ri.length - 1, by omega⟩
  have hw : wrap64 ((ri.length : Int) - 1) = (m : Int) := by rw [wrap64_of (by omega) (by omega)]; omega
  have hw2 : IntKind.i64.wrap ((ri.length : Int) - 1) = (m : Int) := by rw [wrap_i64]; exact hw
  have HMM := Lib.hid (show ri.length - 1 = m by omega)
  have iM0 : (0 : Int) ≤ (m : Int) := Int.natCast_nonneg _
  have iM1 : (m : Int) < (ri.length : Int) := by omega
  have iN0 : (0 : Int) < (ri.length : Int) := by omega
  have hm1 : m < ri.length := by omega
  have hm0 : 0 < ri.length := by omega
  have hmz : ¬ 0 = m := by omega
  have hq1 : ¬ (ri.length : Int) < 3 := by omega
  have hq2 : ¬ (256 : Int) < (ri.length : Int) := by omega
  have N1 := Lib.hid n1; have N2 := Lib.hid n2
  clear hm n1
  go_enter Try.func82, Try.ntmps82
  go_upto_region 5 with (at_make; refine wpList_make_full _ rfl _ _ 24 rfl w.heap.size 37 i0 (.float .f32 0) 1 Try.underlying24 HI.out HZ0.out HZ1.out _ _ _ _ ri.length rfl rfl rfl rfl hb4 hml (Nat.le_refl _) ?_; intro w4 hown hgrow)
  rw [made_zero] at hown
  have HX := Lib.hid (show RW w.heap.size w4 w.heap.size ri.length (List.replicate ri.length 0) by show w4.ownsRow _ _ _ (.slice _ (List.replicate ri.length 0).length _) (List.replicate ri.length 0).length _; rw [List.length_replicate]; exact hown)
  have HD := Lib.hid ((Below.refl w.heap.size w).grown hgrow (Nat.le_refl _) (fun k h => by cases h))
  clear hown hgrow hb4 hml hq1 hq2 HI HZ0 HZ1
  generalize hgx : w.heap.size = gx at HX ⊢
  have y0 := HX.out.at (k := 0) (by simp; omega)
  have f0 := HX.out.frozenAt 0
  have PT := HX.out.put 0 3229614080
  have HX2 := Lib.hid PT.1
  have HD2 := Lib.hid (HD.out.setCell (p := ⟨gx, 0, none⟩) (Nat.le_of_eq hgx) (.float .f32 3229614080))
  have y1 := HX2.out.at (k := m) (by simp; omega)
  have f1 := HX2.out.frozenAt m
  have PT2 := HX2.out.put m 3212836864
  have HX3 := Lib.hid PT2.1
  have HD3 := Lib.hid (HD2.out.setCell (p := ⟨gx, m, none⟩) (Nat.le_of_eq hgx) (.float .f32 3212836864))
  clear PT PT2 HX HX2 HD HD2
  go_wp2_with fail
  clear y0 f0 y1 f1
  generalize (w4.setCell ⟨gx, 0, none⟩ (.float .f32 3229614080)).setCell ⟨gx, m, none⟩ (.float .f32 3212836864) = w8 at HX3 HD3 ⊢
  have HXF := Lib.hid (show FS .f32 w8 (.slice (some ⟨gx, 0, none⟩) ri.length ri.length) (otherL ri.length) by
    have e : ((List.replicate ri.length 0).set 0 3229614080).set m 3212836864 = otherL ri.length := by unfold otherL; rw [HMM.out]
    have := HX3.out; rw [e] at this; have h2 := this.fs (other_lt _); rw [otherL_len] at h2; exact h2)
  clear HX3 hgx
  refine (cutRing_any _ ri _ (HU.out.below HD3.out) N1.out N2.out).mono ?_; rintro e w9 ⟨⟨v, rfl, hv⟩, hb9⟩
  obtain ⟨gp, cp, ps, rfl, hpl, hpe, hpo⟩ := fres_row hv hm0
  have HPL := Lib.hid hpl; have HPE := Lib.hid (show EqOn ps (ringP ri) 0 ri.length from hpe)
  have HPO := Lib.hid (ownsRow_le hpo HD3.out.size)
  have HXF9 := Lib.hid (HXF.out.below hb9)
  have HD9 := Lib.hid (HD3.out.trans (hb9.mono HD3.out.size))
  clear hv hpl hpe hpo hb9 HXF HD3
  go_wp2_with fail
  have EO := otherL_len ri.length
  refine (cutRing_any (.slice (some ⟨gx, 0, none⟩) ri.length ri.length) (otherL ri.length) _ HXF9.out (by rw [EO]; exact N1.out) (by rw [EO]; exact N2.out)).mono ?_; rintro e w10 ⟨⟨v, rfl, hv⟩, hb10⟩
  rw [EO] at hv
  obtain ⟨gq, cq, qs, rfl, hql, hqe, hqo⟩ := fres_row hv hm0
  have HQL := Lib.hid hql; have HQE := Lib.hid (show EqOn qs (ringQ ri.length) 0 ri.length from hqe)
  have HPQ := Lib.hid (show gp ≠ gq by have h1 := (HPO.out.lt gp rfl).2; have h2 := (hqo.lt gq rfl).1; omega)
  have HQO := Lib.hid (ownsRow_le hqo HD9.out.size)
  have HPO2 := Lib.hid (World.ownsRow.kept HPO.out (grown_below (row := none) hb10) (.inr (by simp [Value.ownBlock])))
  have HD10 := Lib.hid (HD9.out.trans (hb10.mono HD9.out.size))
  clear hv hql hqe hqo hb10 HXF9 HD9 HPO EO
  have p0 := row_at' HPO2.out HPL.out (k := 0) hm0
  have p1 := row_at' HPO2.out HPL.out hm1
  have q0 := row_at' HQO.out HQL.out (k := 0) hm0
  have q1 := row_at' HQO.out HQL.out hm1
  have ip0 := HPE.out 0 (Nat.le_refl _) hm0
  have ip1 := HPE.out m (Nat.zero_le _) hm1
  have iq0 := HQE.out 0 (Nat.le_refl _) hm0
  have iq1 := HQE.out m (Nat.zero_le _) hm1
  have HF := Lib.hid (show ringF ri = fop .quo .f32 (fop .add .f32 (ringP ri 0) (fop .mul .f32 1048576000 (ringP ri m))) (fop .add .f32 (fop .add .f32 1065353216 (ringQ ri.length 0)) (fop .mul .f32 1048576000 (ringQ ri.length m))) by unfold ringF; rw [HMM.out])
  generalize ringP ri 0 = P0 at ip0 HF
  generalize ringP ri m = P1 at ip1 HF
  generalize ringQ ri.length 0 = Q0 at iq0 HF
  generalize ringQ ri.length m = Q1 at iq1 HF
  generalize ps.getD 0 0 = y0 at p0 ip0
  generalize ps.getD m 0 = y1 at p1 ip1
  generalize qs.getD 0 0 = z0 at q0 iq0
  generalize qs.getD m 0 = z1 at q1 iq1
  go_upto_region 11 with (first | (apply wpList_farith; rfl; rfl; rfl; rfl; (first | with_reducible assumption | exact Is.const rfl); (first | with_reducible assumption | exact Is.const rfl); intro r n hr) | ((with_reducible apply Loose.wp_start); kernel_rfl; kernel_rfl) | ((with_reducible apply Loose.start_cons)) | ((with_reducible apply Loose.start_nil)) | ((with_reducible apply Loose.walk_nil); intro n) | ((with_reducible apply Loose.walk_skip); exact rfl; (go_simp; first | done | exact rfl)) | ((with_reducible apply Loose.step_fc); rfl; rfl; rfl; rfl; (first | with_reducible assumption | exact Is.const rfl); (first | with_reducible assumption | exact Is.const rfl); (first | with_reducible assumption | exact rfl); exact rfl; (go_simp; first | done | exact rfl)) | ((with_reducible apply Loose.step_fa); rfl; rfl; rfl; rfl; (first | with_reducible assumption | exact Is.const rfl); (first | with_reducible assumption | exact Is.const rfl); exact rfl; (intro r; go_simp; first | done | exact rfl); intro r hr) | ((with_reducible apply Loose.step_wid); rfl; rfl; (first | with_reducible assumption | exact Is.const rfl); exact U32; exact U64; exact rfl; (intro r; go_simp; first | done | exact rfl); intro r hr) | ((with_reducible apply Loose.step_nar); rfl; rfl; (first | with_reducible assumption | exact Is.const rfl); exact U64; exact U32; (with_reducible assumption); exact rfl; (intro r; go_simp; first | done | exact rfl); intro r hr) | ((with_reducible apply Loose.step_assign); rfl; rfl; (with_reducible assumption); exact rfl; (intro r; go_simp; first | done | exact rfl); intro r hr) | ((with_reducible apply Loose.step_move); rfl; rfl; (with_reducible assumption); exact rfl; (intro r; go_simp; first | done | exact rfl); intro r hr) | ((with_reducible apply Loose.step_same); rfl; rfl; exact U32; exact U32; (first | with_reducible assumption | exact Is.const rfl); exact rfl; (intro r; go_simp; first | done | exact rfl); intro r hr) | ((with_reducible apply Loose.step_same); rfl; rfl; exact U64; exact U64; (first | with_reducible assumption | exact Is.const rfl); exact rfl; (intro r; go_simp; first | done | exact rfl); intro r hr) | ((with_reducible apply Loose.step_eq); rfl; (intro n; go_simp; first | done | exact rfl); exact rfl; (go_simp; first | done | exact rfl)))
  have HR := Lib.hid (show Is .f32 r (ringF ri) by rw [HF.out]; exact hr)
  have HPO3 : Hid ((w10.drewN n).ownsRow w.heap.size 37 1 (.slice (some ⟨gp, 0, none⟩) ri.length cp) ri.length (ps.map (Value.float .f32))) := Lib.hid HPO2.out
  have HQO3 : Hid ((w10.drewN n).ownsRow w.heap.size 37 1 (.slice (some ⟨gq, 0, none⟩) ri.length cq) ri.length (qs.map (Value.float .f32))) := Lib.hid HQO.out
  have HD11 := Lib.hid (below_drewN HD10.out n)
  clear p0 p1 q0 q1 ip0 ip1 iq0 iq1 hr HPO2 HQO HD10 hw hw2 iM0 iM1 iN0
  generalize w10.drewN n = w11 at HPO3 HQO3 HD11 ⊢
  go_wp2_with fail
  go_loopw [68] (fun i wr => ∃ (k : Nat) (es : List Nat), i = .int .i64 (k : Int) ∧ k ≤ ri.length ∧ Hid (es.length = ri.length) ∧ Hid (EqOn es (ringV ri) 0 k) ∧ Hid (EqOn es (ringP ri) k ri.length) ∧ Hid (wr.ownsRow w.heap.size 37 1 (.slice (some ⟨gp, 0, none⟩) ri.length cp) ri.length (es.map (Value.float .f32))) ∧ Hid (wr.ownsRow w.heap.size 37 1 (.slice (some ⟨gq, 0, none⟩) ri.length cq) ri.length (qs.map (Value.float .f32))) ∧ Hid (Below w.heap.size w wr)) (fun i _ => ri.length - (intOf i).toNat)
  case atStart => exact ⟨0, ps, rfl, Nat.zero_le _, HPL, Lib.hid (EqOn.none _ _ _), HPE, HPO3, HQO3, HD11⟩
  case round =>
    clear HPL HPE HPO3 HQO3 HD11
    obtain ⟨k, es, rfl, hk, HEL, HE1, HE2, HO, HM, HD⟩ := hrel
    have hel := HEL.out
    by_cases hlt : k < ri.length
    · have xk := row_at' HO.out hel hlt
      have xm := row_at' HM.out HQL.out hlt
      have hf := HO.out.frozenAt k
      have ixk := HE2.out k (Nat.le_refl _) hlt
      have ixm := HQE.out k (Nat.zero_le _) hlt
      have ixr := HR.out
      have HV := Lib.hid (show ringV ri k = fop .sub .f32 (ringP ri k) (fop .mul .f32 (ringF ri) (ringQ ri.length k)) from rfl)
      generalize ringP ri k = X at ixk HV
      generalize ringQ ri.length k = Y at ixm HV
      generalize ringF ri = F at ixr HV
      generalize es.getD k 0 = y at xk ixk
      generalize hmk : qs.getD k 0 = mm at xm ixm
      have HMK := Lib.hid hmk
      have iK0 : (0 : Int) ≤ (k : Int) := Int.natCast_nonneg _
      have iK1 : (k : Int) < (ri.length : Int) := by omega
      clear hmk
      go_wp2_with fail
      refine wp_region_noPanic ?_
      refine wp_region_held_drew (S := fun w' => w'.cell? ⟨gq, k, none⟩ = some (.float .f32 mm)) (by kernel_rfl) xm (fun hHeld => ?_)
      ((refine wpAnyH_take (i := 0) (v := ?_) rfl (by kernel_rfl) (by kernel_rfl) (by kernel_rfl) (fun _ _ _ h => h) (Or.inl ⟨by rfl, ?_⟩) (by assumption) ?_; rotate_left; (· intro w hSw; (try dsimp only at hSw); go_simp; first | done | with_reducible rfl); (try simp only [List.getElem_toArray, List.getElem_cons_zero, List.getElem_cons_succ, Act.put, List.setIfInBounds_toArray, List.set_cons_zero, List.set_cons_succ])); (refine wpAnyH_take (i := 1) (v := ?_) rfl (by kernel_rfl) (by kernel_rfl) (by kernel_rfl) (fun _ _ _ h => h) (Or.inl ⟨by rfl, ?_⟩) (by assumption) ?_; rotate_left; (· intro w hSw; (try dsimp only at hSw); go_simp; first | done | with_reducible rfl); (try simp only [List.getElem_toArray, List.getElem_cons_zero, List.getElem_cons_succ, Act.put, List.setIfInBounds_toArray, List.set_cons_zero, List.set_cons_succ])); (refine wpAnyH_take (i := 2) (v := ?_) rfl (by kernel_rfl) (by kernel_rfl) (by kernel_rfl) (fun _ _ _ h => h) (Or.inl ⟨by rfl, ?_⟩) (by assumption) ?_; rotate_left; (· intro w hSw; (try dsimp only at hSw); go_simp; first | done | with_reducible rfl); (try simp only [List.getElem_toArray, List.getElem_cons_zero, List.getElem_cons_succ, Act.put, List.setIfInBounds_toArray, List.set_cons_zero, List.set_cons_succ])); (refine wpAnyH_take (i := 4) (v := ?_) rfl (by kernel_rfl) (by kernel_rfl) (by kernel_rfl) (fun _ _ _ h => h) (Or.inl ⟨by rfl, ?_⟩) (by assumption) ?_; rotate_left; (· intro w hSw; (try dsimp only at hSw); go_simp; first | done | with_reducible rfl); (try simp only [List.getElem_toArray, List.getElem_cons_zero, List.getElem_cons_succ, Act.put, List.setIfInBounds_toArray, List.set_cons_zero, List.set_cons_succ])); (refine wpAnyH_take (i := 5) (v := ?_) rfl (by kernel_rfl) (by kernel_rfl) (by kernel_rfl) (fun _ _ _ h => h) (Or.inl ⟨by rfl, ?_⟩) (by assumption) ?_; rotate_left; (· intro w hSw; (try dsimp only at hSw); go_simp; first | done | with_reducible rfl); (try simp only [List.getElem_toArray, List.getElem_cons_zero, List.getElem_cons_succ, Act.put, List.setIfInBounds_toArray, List.set_cons_zero, List.set_cons_succ])); (refine wpAnyH_take (i := 6) (v := ?_) rfl (by kernel_rfl) (by kernel_rfl) (by kernel_rfl) (fun _ _ _ h => h) (Or.inl ⟨by rfl, ?_⟩) (by assumption) ?_; rotate_left; (· intro w hSw; (try dsimp only at hSw); go_simp; first | done | with_reducible rfl); (try simp only [List.getElem_toArray, List.getElem_cons_zero, List.getElem_cons_succ, Act.put, List.setIfInBounds_toArray, List.set_cons_zero, List.set_cons_succ])); (refine wpAnyH_take (i := 7) (v := ?_) rfl (by kernel_rfl) (by kernel_rfl) (by kernel_rfl) (fun _ _ _ h => h) (Or.inl ⟨by rfl, ?_⟩) (by assumption) ?_; rotate_left; (· intro w hSw; (try dsimp only at hSw); go_simp; first | done | with_reducible rfl); (try simp only [List.getElem_toArray, List.getElem_cons_zero, List.getElem_cons_succ, Act.put, List.setIfInBounds_toArray, List.set_cons_zero, List.set_cons_succ])); (refine wpAnyH_take (i := 8) (v := ?_) rfl (by kernel_rfl) (by kernel_rfl) (by kernel_rfl) (fun _ _ _ h => h) (Or.inl ⟨by rfl, ?_⟩) (by assumption) ?_; rotate_left; (· intro w hSw; (try dsimp only at hSw); go_simp; first | done | with_reducible rfl); (try simp only [List.getElem_toArray, List.getElem_cons_zero, List.getElem_cons_succ, Act.put, List.setIfInBounds_toArray, List.set_cons_zero, List.set_cons_succ])))
      refine wpAnyH_ready (rs := [3, 9]) (by kernel_rfl) (by simp) ?_
      refine AllReadyH.cons (i := 3) rfl (fun K hK => ?_) (AllReadyH.cons (i := 9) rfl (fun K hK => ?_) AllReadyH.nil)
      · go_simp
        (refine hK.out _ _ (by go_keep) (fun hHeld => ?_); clear hK K; (try simp only [List.getElem_toArray, List.getElem_cons_zero, List.getElem_cons_succ, Act.put, List.setIfInBounds_toArray, List.set_cons_zero, List.set_cons_succ]))
        (refine wpAnyH_ready (rs := [9]) (by kernel_rfl) (by simp) ?_; refine AllReadyH.cons (i := 9) rfl (fun K hK => ?_) AllReadyH.nil)
        refine hstep_fa rfl .mul 37 37 _ _ rfl rfl .f32 r mm rfl rfl ixr ixm ?_
        intro r1 n1 hr1
        (refine hK.out _ _ (by go_keep) (fun hHeld => ?_); clear hK K; (try simp only [List.getElem_toArray, List.getElem_cons_zero, List.getElem_cons_succ, Act.put, List.setIfInBounds_toArray, List.set_cons_zero, List.set_cons_succ]))
        (refine wpAnyH_ready (rs := [10]) (by kernel_rfl) (by simp) ?_; refine AllReadyH.cons (i := 10) rfl (fun K hK => ?_) AllReadyH.nil)
        refine hstep_fa rfl .sub 37 37 _ _ rfl rfl .f32 y r1 rfl rfl ixk hr1 ?_
        intro r2 n2 hr2
        (refine hK.out _ _ (by go_keep) (fun hHeld => ?_); clear hK K; (try simp only [List.getElem_toArray, List.getElem_cons_zero, List.getElem_cons_succ, Act.put, List.setIfInBounds_toArray, List.set_cons_zero, List.set_cons_succ]))
        have HX5 : Hid ((wr.drewN (1 + n1 + n2)).ownsRow w.heap.size 37 1 (.slice (some ⟨gp, 0, none⟩) ri.length cp) ri.length (es.map (Value.float .f32))) := Lib.hid HO.out
        have ST := HX5.out.stored k (.float .f32 r2)
        rw [map_set] at ST
        have HS := Lib.hid ST.1
        have HM2 := Lib.hid (World.ownsRow.kept (show (wr.drewN (1 + n1 + n2)).ownsRow w.heap.size 37 1 (.slice (some ⟨gq, 0, none⟩) ri.length cq) ri.length (qs.map (Value.float .f32)) from HM.out) ST.2 (.inr (fun e => HPQ.out (by simpa [Value.ownBlock] using e.symm))))
        have HB := Lib.hid ((below_drewN HD.out (1 + n1 + n2)).setCell (p := ⟨gp, k, none⟩) (HX5.out.lt gp rfl).1 (.float .f32 r2))
        have HRV := Lib.hid (show Is .f32 r2 (ringV ri k) by rw [HV.out]; exact hr2)
        have cm := row_at' HM2.out HQL.out hlt
        rw [HMK.out] at cm
        clear ST
        ((refine wpAnyH_take (i := 11) (v := ?_) rfl (by kernel_rfl) (by kernel_rfl) (by kernel_rfl) (fun _ _ _ h => h) (Or.inl ⟨by rfl, ?_⟩) (by assumption) ?_; rotate_left; (· intro w hSw; (try dsimp only at hSw); go_simp; first | done | with_reducible rfl); (try simp only [List.getElem_toArray, List.getElem_cons_zero, List.getElem_cons_succ, Act.put, List.setIfInBounds_toArray, List.set_cons_zero, List.set_cons_succ])))
        (refine wpAnyH_ready (rs := [12]) (by kernel_rfl) (by simp) ?_; refine AllReadyH.cons (i := 12) rfl (fun K hK => ?_) AllReadyH.nil)
        go_simp
        (refine hK.out _ _ (cm) (fun hHeld => ?_); clear hK K; (try simp only [List.getElem_toArray, List.getElem_cons_zero, List.getElem_cons_succ, Act.put, List.setIfInBounds_toArray, List.set_cons_zero, List.set_cons_succ]))
        (refine wpAnyH_done (by kernel_rfl) ?_ _; refine NoPanic.normal ?_)
        clear hHeld xk xm hf cm HX5
        go_wp2_with fail
        go_roundw
        case rel => exact ⟨k + 1, es.set k r2, by go_num, by omega, Lib.hid (by rw [List.length_set]; exact hel), Lib.hid (EqOn.set_up HE1.out (by omega) HRV.out), Lib.hid (EqOn.set_out (fun q h1 h2 => HE2.out q (by omega) h2) (by omega) (.inl (Nat.lt_succ_self k))), HS, HM2, HB⟩
        case measure => simp [intOf]; omega
      · refine hstep_fa rfl .mul 37 37 _ _ rfl rfl .f32 r mm rfl rfl ixr ixm ?_
        intro r1 n1 hr1
        (refine hK.out _ _ (by go_keep) (fun hHeld => ?_); clear hK K; (try simp only [List.getElem_toArray, List.getElem_cons_zero, List.getElem_cons_succ, Act.put, List.setIfInBounds_toArray, List.set_cons_zero, List.set_cons_succ]))
        (refine wpAnyH_ready (rs := [3]) (by kernel_rfl) (by simp) ?_; refine AllReadyH.cons (i := 3) rfl (fun K hK => ?_) AllReadyH.nil)
        go_simp
        (refine hK.out _ _ (by go_keep) (fun hHeld => ?_); clear hK K; (try simp only [List.getElem_toArray, List.getElem_cons_zero, List.getElem_cons_succ, Act.put, List.setIfInBounds_toArray, List.set_cons_zero, List.set_cons_succ]))
        (refine wpAnyH_ready (rs := [10]) (by kernel_rfl) (by simp) ?_; refine AllReadyH.cons (i := 10) rfl (fun K hK => ?_) AllReadyH.nil)
        refine hstep_fa rfl .sub 37 37 _ _ rfl rfl .f32 y r1 rfl rfl ixk hr1 ?_
        intro r2 n2 hr2
        (refine hK.out _ _ (by go_keep) (fun hHeld => ?_); clear hK K; (try simp only [List.getElem_toArray, List.getElem_cons_zero, List.getElem_cons_succ, Act.put, List.setIfInBounds_toArray, List.set_cons_zero, List.set_cons_succ]))
        have HX5 : Hid ((wr.drewN (1 + n1 + n2)).ownsRow w.heap.size 37 1 (.slice (some ⟨gp, 0, none⟩) ri.length cp) ri.length (es.map (Value.float .f32))) := Lib.hid HO.out
        have ST := HX5.out.stored k (.float .f32 r2)
        rw [map_set] at ST
        have HS := Lib.hid ST.1
        have HM2 := Lib.hid (World.ownsRow.kept (show (wr.drewN (1 + n1 + n2)).ownsRow w.heap.size 37 1 (.slice (some ⟨gq, 0, none⟩) ri.length cq) ri.length (qs.map (Value.float .f32)) from HM.out) ST.2 (.inr (fun e => HPQ.out (by simpa [Value.ownBlock] using e.symm))))
        have HB := Lib.hid ((below_drewN HD.out (1 + n1 + n2)).setCell (p := ⟨gp, k, none⟩) (HX5.out.lt gp rfl).1 (.float .f32 r2))
        have HRV := Lib.hid (show Is .f32 r2 (ringV ri k) by rw [HV.out]; exact hr2)
        have cm := row_at' HM2.out HQL.out hlt
        rw [HMK.out] at cm
        clear ST
        ((refine wpAnyH_take (i := 11) (v := ?_) rfl (by kernel_rfl) (by kernel_rfl) (by kernel_rfl) (fun _ _ _ h => h) (Or.inl ⟨by rfl, ?_⟩) (by assumption) ?_; rotate_left; (· intro w hSw; (try dsimp only at hSw); go_simp; first | done | with_reducible rfl); (try simp only [List.getElem_toArray, List.getElem_cons_zero, List.getElem_cons_succ, Act.put, List.setIfInBounds_toArray, List.set_cons_zero, List.set_cons_succ])))
        (refine wpAnyH_ready (rs := [12]) (by kernel_rfl) (by simp) ?_; refine AllReadyH.cons (i := 12) rfl (fun K hK => ?_) AllReadyH.nil)
        go_simp
        (refine hK.out _ _ (cm) (fun hHeld => ?_); clear hK K; (try simp only [List.getElem_toArray, List.getElem_cons_zero, List.getElem_cons_succ, Act.put, List.setIfInBounds_toArray, List.set_cons_zero, List.set_cons_succ]))
        (refine wpAnyH_done (by kernel_rfl) ?_ _; refine NoPanic.normal ?_)
        clear hHeld xk xm hf cm HX5
        go_wp2_with fail
        go_roundw
        case rel => exact ⟨k + 1, es.set k r2, by go_num, by omega, Lib.hid (by rw [List.length_set]; exact hel), Lib.hid (EqOn.set_up HE1.out (by omega) HRV.out), Lib.hid (EqOn.set_out (fun q h1 h2 => HE2.out q (by omega) h2) (by omega) (.inl (Nat.lt_succ_self k))), HS, HM2, HB⟩
        case measure => simp [intOf]; omega
    · have hk2 : k = ri.length := by omega
      have HK2 := Lib.hid hk2
      clear hk2
      go_wp2_with fail
      go_ret2
      exact ⟨⟨_, rfl, es, hel, EqOn.eqs (by have := HE1.out; rw [HK2.out] at this; exact this) hel, by unfold FOwn; rw [hel]; exact HO.out⟩, HD.out⟩

def okSolveRing (ri : List Nat) : Bool := decide (3 ≤ ri.length ∧ ri.length ≤ 256)
def lenSolveRing (ri : List Nat) : Nat := if okSolveRing ri then ri.length else 0
theorem lenSolveRing_le (ri : List Nat) (h : ri.length ≤ 1048576) : lenSolveRing ri ≤ 1048576 := by unfold lenSolveRing; split <;> omega

theorem iSolveRing_no (u : Value) (ri : List Nat) (w : World) (h : FS .f32 w u ri) (hno : okSolveRing ri = false) :
    Calls Try.prog 82 #[u] w fun e w' => e = .returned (.tuple #[.slice none 0 0, .bool false]) ∧ w' = w := by
  obtain ⟨a1, c1, rfl, _, _, _, _⟩ := h
  have hno := of_decide_eq_false hno
  by_cases q1 : ri.length < 3
  · have q1' : (ri.length : Int) < 3 := by omega
    clear hno
    go_enter Try.func82, Try.ntmps82
    go_wp2_with fail
    go_ret2
    exact ⟨rfl, rfl⟩
  · have q1' : ¬ (ri.length : Int) < 3 := by omega
    have q2' : (256 : Int) < (ri.length : Int) := by omega
    clear hno
    go_enter Try.func82, Try.ntmps82
    go_wp2_with fail
    go_ret2
    exact ⟨rfl, rfl⟩

theorem iSolveRing_any (u : Value) (ri : List Nat) (w : World) (h : FS .f32 w u ri) (_ : ri.length ≤ 1048576) :
    Calls Try.prog 82 #[u] w fun e w' => (∃ v, e = .returned (.tuple #[v, .bool (okSolveRing ri)]) ∧ FRes w.heap.size w' v (lenSolveRing ri) (ringV ri)) ∧ Below w.heap.size w w' := by
  cases hk : okSolveRing ri with
  | true =>
    obtain ⟨n1, n2⟩ := of_decide_eq_true hk
    rw [show lenSolveRing ri = ri.length by unfold lenSolveRing; rw [hk]; rfl]
    exact iRing_yes u ri w h n1 n2
  | false =>
    rw [show lenSolveRing ri = 0 by unfold lenSolveRing; rw [hk]; rfl]
    refine (iSolveRing_no u ri w h hk).mono ?_
    rintro e w' ⟨rfl, rfl⟩
    exact ⟨⟨_, rfl, fres_none _ _ _⟩, Below.refl _ _⟩




end Go.Proofs.Ytjfnecmnofcjbaa
