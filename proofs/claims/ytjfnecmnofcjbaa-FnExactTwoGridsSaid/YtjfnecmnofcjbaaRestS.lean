/-
  What a potential leaves of the charges, of the model.
-/
import Derived.Test.YtjfnecmnofcjbaaRest
namespace Go.Proofs.Ytjfnecmnofcjbaa
open Go.Fl Go.RowKit
open Go.Joins (ownsRow_le)
set_option linter.unusedSimpArgs false
set_option linter.unusedVariables false

set_option maxHeartbeats 4000000 in
set_option maxRecDepth 100000 in
theorem sRest_any (p : Value) (a b : Int) (u v : Value) (xs zs : List Nat) (w : World) (hp : GP w p a b) (hu : FS .f32 w u xs) (hv : FS .f32 w v zs) (h1 : fieldOk a b xs.length = true) (hl : zs.length = xs.length) :
    Calls Try.prog 102 #[p, u, v] w fun e w' => (∃ r, e = .returned r ∧ FRes w.heap.size w' r xs.length (restV a b xs (lvlF zs))) ∧ Below w.heap.size w w' := by
  have HU := Lib.hid hu; have HV := Lib.hid hv
  have H1 := Lib.hid h1
  have HP := Lib.hid hp
  have HA := Lib.hid (fieldOk_true h1)
  have HL := Lib.hid hl
  have hn256 : xs.length ≤ 256 := HA.out.2.2.2.2.2
  have HZ := Lib.hid (show zs.length ≤ 1048576 by omega)
  have hpos : 0 < xs.length := by
    have := HA.out; have h4 : 4 * 4 ≤ a * b := Int.mul_le_mul this.1 this.2.2.1 (by omega) (by omega); omega
  clear h1 hl hp hu hv
  go_enter Try.func102, Try.ntmps102
  go_wp2_with fail
  refine (sLevel_any _ zs _ HV.out HZ.out).mono ?_; rintro e w1 ⟨⟨r, rfl, hr⟩, hb1⟩
  rw [HL.out] at hr
  obtain ⟨g, cap, rs, rfl, hrl, hre, hro⟩ := fres_row hr hpos
  have HRL := Lib.hid hrl; have HRE := Lib.hid hre; have HRO := Lib.hid hro; have HB1 := Lib.hid hb1
  clear hr hrl hre hro hb1
  go_wp2_with fail
  refine (sLaplace_any _ a b _ xs _ (HP.out.below HB1.out) (HU.out.below HB1.out) H1.out).mono ?_; rintro e w2 ⟨⟨q, rfl, hr⟩, hb2⟩
  obtain ⟨g', cap', ms, rfl, hml, hme, hmo⟩ := fres_row hr hpos
  have HML := Lib.hid hml; have HME := Lib.hid hme
  have HMO := Lib.hid (ownsRow_le hmo HB1.out.size)
  have HR2 := Lib.hid (World.ownsRow.kept HRO.out (grown_below (row := none) hb2) (.inr (by simp [Value.ownBlock])))
  have HGG := Lib.hid (show g ≠ g' by have h1 := (HRO.out.lt g rfl).2; have h2 := (hmo.lt g' rfl).1; omega)
  have HD0 := Lib.hid (HB1.out.trans (hb2.mono HB1.out.size))
  clear hr hml hme hmo hb2 HRO
  go_wp2_with fail
  go_loopw [17] (fun i wr => ∃ (k : Nat) (es : List Nat), i = .int .i64 (k : Int) ∧ k ≤ xs.length ∧ Hid (es.length = xs.length) ∧ Hid (EqOn es (restV a b xs (lvlF zs)) 0 k) ∧ Hid (EqOn es (lvlF zs) k xs.length) ∧ Hid (wr.ownsRow w.heap.size 37 1 (.slice (some ⟨g, 0, none⟩) xs.length cap) xs.length (es.map (Value.float .f32))) ∧ Hid (wr.ownsRow w.heap.size 37 1 (.slice (some ⟨g', 0, none⟩) xs.length cap') xs.length (ms.map (Value.float .f32))) ∧ Hid (Below w.heap.size w wr)) (fun i _ => xs.length - (intOf i).toNat)
  case atStart => exact ⟨0, rs, rfl, Nat.zero_le _, HRL, Lib.hid (EqOn.none _ _ _), HRE, HR2, HMO, HD0⟩
  case round =>
    clear HRL HRE HR2 HMO HD0
    obtain ⟨k, es, rfl, hk, HEL, HE1, HE2, HO, HM, HD⟩ := hrel
    have hel := HEL.out
    by_cases hlt : k < xs.length
    · have xk := row_at' HO.out hel hlt
      have xm := row_at' HM.out HML.out hlt
      have hf := HO.out.frozenAt k
      have ixk := HE2.out k (Nat.le_refl _) hlt
      have ixm := HME.out k (Nat.zero_le _) hlt
      have HF := Lib.hid (show restV a b xs (lvlF zs) k = fop .sub .f32 (lvlF zs k) (lapV a b xs k) from rfl)
      generalize lvlF zs k = X at ixk HF
      generalize lapV a b xs k = Y at ixm HF
      generalize es.getD k 0 = y at xk ixk
      generalize hmk : ms.getD k 0 = m at xm ixm
      have HMK := Lib.hid hmk
      have iK0 : (0 : Int) ≤ (k : Int) := Int.natCast_nonneg _
      have iK1 : (k : Int) < (xs.length : Int) := by omega
      clear hmk
      go_wp2_with fail
      refine wp_region_noPanic ?_
      refine wp_region_held_drew (S := fun w' => w'.cell? ⟨g', k, none⟩ = some (.float .f32 m)) (by kernel_rfl) xm (fun hHeld => ?_)
      ((refine wpAnyH_take (i := 0) (v := ?_) rfl (by kernel_rfl) (by kernel_rfl) (by kernel_rfl) (fun _ _ _ h => h) (Or.inl ⟨by rfl, ?_⟩) (by assumption) ?_; rotate_left; (· intro w hSw; (try dsimp only at hSw); go_simp; first | done | with_reducible rfl); (try simp only [List.getElem_toArray, List.getElem_cons_zero, List.getElem_cons_succ, Act.put, List.setIfInBounds_toArray, List.set_cons_zero, List.set_cons_succ])); (refine wpAnyH_take (i := 1) (v := ?_) rfl (by kernel_rfl) (by kernel_rfl) (by kernel_rfl) (fun _ _ _ h => h) (Or.inl ⟨by rfl, ?_⟩) (by assumption) ?_; rotate_left; (· intro w hSw; (try dsimp only at hSw); go_simp; first | done | with_reducible rfl); (try simp only [List.getElem_toArray, List.getElem_cons_zero, List.getElem_cons_succ, Act.put, List.setIfInBounds_toArray, List.set_cons_zero, List.set_cons_succ])); (refine wpAnyH_take (i := 2) (v := ?_) rfl (by kernel_rfl) (by kernel_rfl) (by kernel_rfl) (fun _ _ _ h => h) (Or.inl ⟨by rfl, ?_⟩) (by assumption) ?_; rotate_left; (· intro w hSw; (try dsimp only at hSw); go_simp; first | done | with_reducible rfl); (try simp only [List.getElem_toArray, List.getElem_cons_zero, List.getElem_cons_succ, Act.put, List.setIfInBounds_toArray, List.set_cons_zero, List.set_cons_succ])); (refine wpAnyH_take (i := 3) (v := ?_) rfl (by kernel_rfl) (by kernel_rfl) (by kernel_rfl) (fun _ _ _ h => h) (Or.inl ⟨by rfl, ?_⟩) (by assumption) ?_; rotate_left; (· intro w hSw; (try dsimp only at hSw); go_simp; first | done | with_reducible rfl); (try simp only [List.getElem_toArray, List.getElem_cons_zero, List.getElem_cons_succ, Act.put, List.setIfInBounds_toArray, List.set_cons_zero, List.set_cons_succ])); (refine wpAnyH_take (i := 4) (v := ?_) rfl (by kernel_rfl) (by kernel_rfl) (by kernel_rfl) (fun _ _ _ h => h) (Or.inl ⟨by rfl, ?_⟩) (by assumption) ?_; rotate_left; (· intro w hSw; (try dsimp only at hSw); go_simp; first | done | with_reducible rfl); (try simp only [List.getElem_toArray, List.getElem_cons_zero, List.getElem_cons_succ, Act.put, List.setIfInBounds_toArray, List.set_cons_zero, List.set_cons_succ])); (refine wpAnyH_take (i := 6) (v := ?_) rfl (by kernel_rfl) (by kernel_rfl) (by kernel_rfl) (fun _ _ _ h => h) (Or.inl ⟨by rfl, ?_⟩) (by assumption) ?_; rotate_left; (· intro w hSw; (try dsimp only at hSw); go_simp; first | done | with_reducible rfl); (try simp only [List.getElem_toArray, List.getElem_cons_zero, List.getElem_cons_succ, Act.put, List.setIfInBounds_toArray, List.set_cons_zero, List.set_cons_succ])); (refine wpAnyH_take (i := 7) (v := ?_) rfl (by kernel_rfl) (by kernel_rfl) (by kernel_rfl) (fun _ _ _ h => h) (Or.inl ⟨by rfl, ?_⟩) (by assumption) ?_; rotate_left; (· intro w hSw; (try dsimp only at hSw); go_simp; first | done | with_reducible rfl); (try simp only [List.getElem_toArray, List.getElem_cons_zero, List.getElem_cons_succ, Act.put, List.setIfInBounds_toArray, List.set_cons_zero, List.set_cons_succ])); (refine wpAnyH_take (i := 8) (v := ?_) rfl (by kernel_rfl) (by kernel_rfl) (by kernel_rfl) (fun _ _ _ h => h) (Or.inl ⟨by rfl, ?_⟩) (by assumption) ?_; rotate_left; (· intro w hSw; (try dsimp only at hSw); go_simp; first | done | with_reducible rfl); (try simp only [List.getElem_toArray, List.getElem_cons_zero, List.getElem_cons_succ, Act.put, List.setIfInBounds_toArray, List.set_cons_zero, List.set_cons_succ])); (refine wpAnyH_take (i := 9) (v := ?_) rfl (by kernel_rfl) (by kernel_rfl) (by kernel_rfl) (fun _ _ _ h => h) (Or.inl ⟨by rfl, ?_⟩) (by assumption) ?_; rotate_left; (· intro w hSw; (try dsimp only at hSw); go_simp; first | done | with_reducible rfl); (try simp only [List.getElem_toArray, List.getElem_cons_zero, List.getElem_cons_succ, Act.put, List.setIfInBounds_toArray, List.set_cons_zero, List.set_cons_succ])))
      (refine wpAnyH_ready (rs := [5]) (by kernel_rfl) (by simp) ?_; refine AllReadyH.cons (i := 5) rfl (fun K hK => ?_) AllReadyH.nil)
      go_simp
      (refine hK.out _ _ (by go_keep) (fun hHeld => ?_); clear hK K; (try simp only [List.getElem_toArray, List.getElem_cons_zero, List.getElem_cons_succ, Act.put, List.setIfInBounds_toArray, List.set_cons_zero, List.set_cons_succ]))
      (refine wpAnyH_ready (rs := [10]) (by kernel_rfl) (by simp) ?_; refine AllReadyH.cons (i := 10) rfl (fun K hK => ?_) AllReadyH.nil)
      refine hstep_fa rfl .sub 37 37 _ _ rfl rfl .f32 y m rfl rfl ixk ixm ?_
      intro r1 n1 hr1
      (refine hK.out _ _ (by go_keep) (fun hHeld => ?_); clear hK K; (try simp only [List.getElem_toArray, List.getElem_cons_zero, List.getElem_cons_succ, Act.put, List.setIfInBounds_toArray, List.set_cons_zero, List.set_cons_succ]))
      have HX5 : Hid ((wr.drewN (1 + n1)).ownsRow w.heap.size 37 1 (.slice (some ⟨g, 0, none⟩) xs.length cap) xs.length (es.map (Value.float .f32))) := Lib.hid HO.out
      have ST := HX5.out.stored k (.float .f32 r1)
      rw [map_set] at ST
      have HS := Lib.hid ST.1
      have HM2 := Lib.hid (World.ownsRow.kept (show (wr.drewN (1 + n1)).ownsRow w.heap.size 37 1 (.slice (some ⟨g', 0, none⟩) xs.length cap') xs.length (ms.map (Value.float .f32)) from HM.out) ST.2 (.inr (fun e => HGG.out (by simpa [Value.ownBlock] using e.symm))))
      have HB := Lib.hid ((below_drewN HD.out (1 + n1)).setCell (p := ⟨g, k, none⟩) (HX5.out.lt g rfl).1 (.float .f32 r1))
      have HR := Lib.hid (show Is .f32 r1 (restV a b xs (lvlF zs) k) by rw [HF.out]; exact hr1)
      have cm := row_at' HM2.out HML.out hlt
      rw [HMK.out] at cm
      clear ST
      ((refine wpAnyH_take (i := 11) (v := ?_) rfl (by kernel_rfl) (by kernel_rfl) (by kernel_rfl) (fun _ _ _ h => h) (Or.inl ⟨by rfl, ?_⟩) (by assumption) ?_; rotate_left; (· intro w hSw; (try dsimp only at hSw); go_simp; first | done | with_reducible rfl); (try simp only [List.getElem_toArray, List.getElem_cons_zero, List.getElem_cons_succ, Act.put, List.setIfInBounds_toArray, List.set_cons_zero, List.set_cons_succ])))
      (refine wpAnyH_ready (rs := [12]) (by kernel_rfl) (by simp) ?_; refine AllReadyH.cons (i := 12) rfl (fun K hK => ?_) AllReadyH.nil)
      go_simp
      (refine hK.out _ _ (cm) (fun hHeld => ?_); clear hK K; (try simp only [List.getElem_toArray, List.getElem_cons_zero, List.getElem_cons_succ, Act.put, List.setIfInBounds_toArray, List.set_cons_zero, List.set_cons_succ]))
      (refine wpAnyH_done (by kernel_rfl) ?_ _; refine NoPanic.normal ?_)
      clear hHeld xk xm hf cm HX5
      go_wp2_with fail
      go_roundw
      case rel => exact ⟨k + 1, es.set k r1, by go_num, by omega, Lib.hid (by rw [List.length_set]; exact hel), Lib.hid (EqOn.set_up HE1.out (by omega) HR.out), Lib.hid (EqOn.set_out (fun q h1 h2 => HE2.out q (by omega) h2) (by omega) (.inl (Nat.lt_succ_self k))), HS, HM2, HB⟩
      case measure => simp [intOf]; omega
    · have hk2 : k = xs.length := by omega
      have HK2 := Lib.hid hk2
      clear hk2
      go_wp2_with fail
      go_ret
      exact ⟨⟨_, rfl, es, hel, EqOn.eqs (by have := HE1.out; rw [HK2.out] at this; exact this) hel, by unfold FOwn; rw [hel]; exact HO.out⟩, HD.out⟩
end Go.Proofs.Ytjfnecmnofcjbaa
