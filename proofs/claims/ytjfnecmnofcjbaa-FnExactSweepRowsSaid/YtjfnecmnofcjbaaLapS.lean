/-
  What potentials are the potential of, of the model.
-/
import Derived.Test.YtjfnecmnofcjbaaLapC
namespace Go.Proofs.Ytjfnecmnofcjbaa
open Go.Fl Go.RowKit
open Go.Joins (ownsRow_le)
set_option linter.unusedSimpArgs false
set_option linter.unusedVariables false

theorem cellsFour {w : World} {k : Nat} {v0 v1 v2 v3 : Value} {t : TypeId} (h : w.heap[k]? = some (.cells #[v0, v1, v2, v3] t)) : w.cell? ⟨k, 0, none⟩ = some v0 ∧ w.cell? ⟨k, 1, none⟩ = some v1 ∧ w.cell? ⟨k, 2, none⟩ = some v2 ∧ w.cell? ⟨k, 3, none⟩ = some v3 :=
  ⟨by rw [Go.Joins.cell_of_block h]; rfl, by rw [Go.Joins.cell_of_block h]; rfl, by rw [Go.Joins.cell_of_block h]; rfl, by rw [Go.Joins.cell_of_block h]; rfl⟩

set_option maxHeartbeats 4000000 in
set_option maxRecDepth 100000 in
theorem sLaplace_any (p : Value) (a b : Int) (t : Value) (xs : List Nat) (w : World) (hp : GP w p a b) (hu : FS .f32 w t xs) (h1 : fieldOk a b xs.length = true) :
    Calls Try.prog 174 #[p, t] w fun e w' => (∃ r, e = .returned r ∧ FRes w.heap.size w' r xs.length (lapV a b xs)) ∧ Below w.heap.size w w' := by
  obtain ⟨i0, hi, hz0, hz1, hz2⟩ := info_parts F32info
  have HU := Lib.hid hu
  obtain ⟨a1, c1, rfl, hlc, hcm, hwf, hmem⟩ := hu
  have HW := Lib.hid hwf
  have HA := Lib.hid (fieldOk_true h1)
  have hn256 : xs.length ≤ 256 := HA.out.2.2.2.2.2
  have HP := Lib.hid hp
  have HGO := Lib.hid (show gridOk a b = true from decide_eq_true ⟨HA.out.1, HA.out.2.1, HA.out.2.2.1, HA.out.2.2.2.1⟩)
  clear h1 hmem hlc hcm hp hwf
  go_enter Try.func174, Try.ntmps174
  go_wp2_with fail
  have hown0 := own_start w.heap.size w (Nat.le_refl _)
  have hbel0 := (Below.refl w.heap.size w).alloc (Nat.le_refl _) (.cells #[] 37)
  generalize w.alloc (.cells #[] 37) = w2 at hown0 hbel0 ⊢
  have HO0 := Lib.hid hown0
  have HD0 := Lib.hid hbel0
  clear hown0 hbel0
  go_loopw [5, 13] (fun v i wr => ∃ rs : List Nat, i = .int .i64 (rs.length : Int) ∧ rs.length ≤ xs.length ∧ Hid (Eqs rs (lapV a b xs)) ∧ (∃ g cap, v = .slice (some ⟨g, 0, none⟩) rs.length cap ∧ Hid (wr.ownsRow w.heap.size 37 1 v rs.length (rs.map (Value.float .f32)))) ∧ Hid (Below w.heap.size w wr)) (fun _ i _ => xs.length - (intOf i).toNat)
  case atStart => exact ⟨[], rfl, Nat.zero_le _, Lib.hid (Eqs.nil _), ⟨_, _, rfl, HO0⟩, HD0⟩
  case round =>
    clear HO0 HD0
    obtain ⟨rs, rfl, hk, HE, ⟨g, cap, rfl, HO⟩, HD⟩ := hrel
    by_cases hlt : rs.length < xs.length
    · have hjn : (rs.length : Int) < a * b := by have := HA.out.2.2.2.2.1; omega
      obtain ⟨b1, o1, e1, hcx⟩ := FS.at HU.out HD.out hlt
      obtain rfl := e1
      have ix := FS.is HW.out rs.length hlt
      have HLT := Lib.hid hlt
      have HJN := Lib.hid hjn
      have F0 := nbI_facts (a := a) (b := b) (-1) 0 (rs.length % a.toNat) (rs.length / a.toNat) HA.out.1 HA.out.2.2.1
      have F1 := nbI_facts (a := a) (b := b) 1 0 (rs.length % a.toNat) (rs.length / a.toNat) HA.out.1 HA.out.2.2.1
      have F2 := nbI_facts (a := a) (b := b) 0 (-1) (rs.length % a.toNat) (rs.length / a.toNat) HA.out.1 HA.out.2.2.1
      have F3 := nbI_facts (a := a) (b := b) 0 1 (rs.length % a.toNat) (rs.length / a.toNat) HA.out.1 HA.out.2.2.1
      have HNE := fun w0 h0 => sNear_any p a b rs.length w0 h0 HGO.out hjn
      have hF : lapV a b xs rs.length = fop .sub .f32 (fop .sub .f32 (fop .sub .f32 (fop .sub .f32 (fop .mul .f32 1082130432 (cn .f32 (xs.getD rs.length 0))) (cn .f32 (xs.getD (nbI a b (-1) 0 (rs.length % a.toNat) (rs.length / a.toNat)) 0))) (cn .f32 (xs.getD (nbI a b 1 0 (rs.length % a.toNat) (rs.length / a.toNat)) 0))) (cn .f32 (xs.getD (nbI a b 0 (-1) (rs.length % a.toNat) (rs.length / a.toNat)) 0))) (cn .f32 (xs.getD (nbI a b 0 1 (rs.length % a.toNat) (rs.length / a.toNat)) 0)) := rfl
      generalize nbI a b (-1) 0 (rs.length % a.toNat) (rs.length / a.toNat) = n0 at F0 HNE hF
      generalize nbI a b 1 0 (rs.length % a.toNat) (rs.length / a.toNat) = n1 at F1 HNE hF
      generalize nbI a b 0 (-1) (rs.length % a.toNat) (rs.length / a.toNat) = n2 at F2 HNE hF
      generalize nbI a b 0 1 (rs.length % a.toNat) (rs.length / a.toNat) = n3 at F3 HNE hF
      have l0 : n0 < xs.length := by have := HA.out.2.2.2.2.1; omega
      have l1 : n1 < xs.length := by have := HA.out.2.2.2.2.1; omega
      have l2 : n2 < xs.length := by have := HA.out.2.2.2.2.1; omega
      have l3 : n3 < xs.length := by have := HA.out.2.2.2.2.1; omega
      clear hjn F0 F1 F2 F3
      have L0 := Lib.hid l0; have L1 := Lib.hid l1; have L2 := Lib.hid l2; have L3 := Lib.hid l3
      have I0 := FS.is HW.out n0 l0
      have I1 := FS.is HW.out n1 l1
      have I2 := FS.is HW.out n2 l2
      have I3 := FS.is HW.out n3 l3
      have C0 := Lib.hid (FS.ever HU.out l0)
      have C1 := Lib.hid (FS.ever HU.out l1)
      have C2 := Lib.hid (FS.ever HU.out l2)
      have C3 := Lib.hid (FS.ever HU.out l3)
      clear l0 l1 l2 l3
      generalize cn .f32 (xs.getD rs.length 0) = X at ix hF
      generalize xs.getD rs.length 0 = x at hcx ix
      generalize cn .f32 (xs.getD n0 0) = Y0 at I0 hF
      generalize cn .f32 (xs.getD n1 0) = Y1 at I1 hF
      generalize cn .f32 (xs.getD n2 0) = Y2 at I2 hF
      generalize cn .f32 (xs.getD n3 0) = Y3 at I3 hF
      generalize xs.getD n0 0 = y0 at C0 I0
      generalize xs.getD n1 0 = y1 at C1 I1
      generalize xs.getD n2 0 = y2 at C2 I2
      generalize xs.getD n3 0 = y3 at C3 I3
      have HF := Lib.hid hF
      clear hF
      go_wp2_with (first | (apply wpList_farith; rfl; rfl; rfl; rfl; (first | with_reducible assumption | exact Is.const rfl); (first | with_reducible assumption | exact Is.const rfl); intro r n hr))
      have HR := Lib.hid hr
      clear hr
      refine (HNE _ (HP.out.below (below_drewN HD.out n))).mono ?_; rintro e w3 ⟨kk, rfl, hkk, hnear, hb3⟩
      have DD3 := Lib.hid ((below_drewN HD.out n).trans (hb3.mono HD.out.size))
      have O3 := Lib.hid (fown_below (show FOwn w.heap.size (wr.drewN n) _ rs from HO.out) hb3)
      have HNR := Lib.hid (cellsFour hnear)
      clear hnear hb3 hkk hcx ix
      go_wp2_with fail
      go_loopw [7, 26] (fun v i wx => ∃ (k r m : Nat), v = .float .f32 r ∧ i = .int .i64 (k : Int) ∧ k ≤ 4 ∧ wx = w3.drewN m ∧ Hid (Is .f32 r ([fop .mul .f32 1082130432 X, fop .sub .f32 (fop .mul .f32 1082130432 X) Y0, fop .sub .f32 (fop .sub .f32 (fop .mul .f32 1082130432 X) Y0) Y1, fop .sub .f32 (fop .sub .f32 (fop .sub .f32 (fop .mul .f32 1082130432 X) Y0) Y1) Y2, fop .sub .f32 (fop .sub .f32 (fop .sub .f32 (fop .sub .f32 (fop .mul .f32 1082130432 X) Y0) Y1) Y2) Y3].getD k 0))) (fun _ i _ => 4 - (intOf i).toNat)
      case atStart => exact ⟨0, r, 0, rfl, rfl, Nat.zero_le _, rfl, HR⟩
      case round =>
        obtain ⟨k, r1, m, rfl, rfl, hk4, rfl, HR1⟩ := hrel
        have x0 := C0.out w3 DD3.out
        have x1 := C1.out w3 DD3.out
        have x2 := C2.out w3 DD3.out
        have x3 := C3.out w3 DD3.out
        have q0 := HNR.out.1
        have q1 := HNR.out.2.1
        have q2 := HNR.out.2.2.1
        have q3 := HNR.out.2.2.2
        have j0 : (n0 : Int) < (xs.length : Int) := by have := L0.out; omega
        have j1 : (n1 : Int) < (xs.length : Int) := by have := L1.out; omega
        have j2 : (n2 : Int) < (xs.length : Int) := by have := L2.out; omega
        have j3 : (n3 : Int) < (xs.length : Int) := by have := L3.out; omega
        obtain rfl | rfl | rfl | rfl | rfl : k = 0 ∨ k = 1 ∨ k = 2 ∨ k = 3 ∨ k = 4 := by omega
        · have hr1 : Is .f32 r1 (fop .mul .f32 1082130432 X) := HR1.out
          go_wp2_with (first | (apply wpList_farith; rfl; rfl; rfl; rfl; (first | with_reducible assumption | exact Is.const rfl); (first | with_reducible assumption | exact Is.const rfl); intro r n hr))
          go_roundw
          case rel => exact ⟨1, r, m + n, rfl, rfl, by omega, rfl, Lib.hid hr⟩
          case measure => simp [intOf]
        · have hr1 : Is .f32 r1 (fop .sub .f32 (fop .mul .f32 1082130432 X) Y0) := HR1.out
          go_wp2_with (first | (apply wpList_farith; rfl; rfl; rfl; rfl; (first | with_reducible assumption | exact Is.const rfl); (first | with_reducible assumption | exact Is.const rfl); intro r n hr))
          go_roundw
          case rel => exact ⟨2, r, m + n, rfl, rfl, by omega, rfl, Lib.hid hr⟩
          case measure => simp [intOf]
        · have hr1 : Is .f32 r1 (fop .sub .f32 (fop .sub .f32 (fop .mul .f32 1082130432 X) Y0) Y1) := HR1.out
          go_wp2_with (first | (apply wpList_farith; rfl; rfl; rfl; rfl; (first | with_reducible assumption | exact Is.const rfl); (first | with_reducible assumption | exact Is.const rfl); intro r n hr))
          go_roundw
          case rel => exact ⟨3, r, m + n, rfl, rfl, by omega, rfl, Lib.hid hr⟩
          case measure => simp [intOf]
        · have hr1 : Is .f32 r1 (fop .sub .f32 (fop .sub .f32 (fop .sub .f32 (fop .mul .f32 1082130432 X) Y0) Y1) Y2) := HR1.out
          go_wp2_with (first | (apply wpList_farith; rfl; rfl; rfl; rfl; (first | with_reducible assumption | exact Is.const rfl); (first | with_reducible assumption | exact Is.const rfl); intro r n hr))
          go_roundw
          case rel => exact ⟨4, r, m + n, rfl, rfl, by omega, rfl, Lib.hid hr⟩
          case measure => simp [intOf]
        · have hr1 : Is .f32 r1 (lapV a b xs rs.length) := by rw [HF.out]; exact HR1.out
          have HRR := Lib.hid hr1
          clear hr1 x0 x1 x2 x3 q0 q1 q2 q3 j0 j1 j2 j3
          go_wp2_with (at_builtin; refine wpList_append_lies _ rfl _ _ _ rfl w.heap.size 37 i0 _ 1 4 Try.underlying24 hi hz0 hz1 hz2 rfl (by omega) (.slice (some ⟨g, 0, none⟩) rs.length cap) rs.length (rs.map (Value.float .f32)) rfl (own_next O3.out m r1) ⟨w3.heap.size, 0, none⟩ 1 1 [.float .f32 r1] rfl rfl (World.news_of_block (cs := #[.float .f32 r1]) (t := 37) (fr := (0, 0)) (heap_alloc_new _ _)) (by simp [Value.oneCell']) (by omega) (by unfold maxLen; omega) (by omega) (below_next DD3.out m r1).size (w3.heap.size + 1) (by simp) ?_; intro g2 cap2 w4 hown4 hgrow hat hltg)
          have hb5 := Lib.hid ((below_next DD3.out m r1).grown hgrow (below_next DD3.out m r1).size (fun k hk => (O3.out.lt k hk).1))
          have HO4 := Lib.hid (show w4.ownsRow w.heap.size 37 1 (.slice (some ⟨g2, 0, none⟩) (rs ++ [r1]).length cap2) (rs ++ [r1]).length ((rs ++ [r1]).map (Value.float .f32)) by simpa using hown4)
          have HE4 := Lib.hid (HE.out.snoc HRR.out)
          have HL4 := Lib.hid (show (rs ++ [r1]).length = rs.length + 1 by simp)
          clear hown4 hgrow hat
          go_wp2
          go_roundw
          case rel => exact ⟨rs ++ [r1], by rw [HL4.out]; go_num, by rw [HL4.out]; have := HLT.out; omega, HE4, ⟨g2, cap2, by rw [HL4.out], by rw [HL4.out] at HO4 ⊢; exact HO4⟩, hb5⟩
          case measure => have := HLT.out; simp [intOf]; omega
    · have hk2 : rs.length = xs.length := by omega
      have HK2 := Lib.hid hk2
      clear hk2
      go_wp2
      go_ret
      exact ⟨⟨_, rfl, rs, HK2.out, HE.out, HO.out⟩, HD.out⟩
end Go.Proofs.Ytjfnecmnofcjbaa
