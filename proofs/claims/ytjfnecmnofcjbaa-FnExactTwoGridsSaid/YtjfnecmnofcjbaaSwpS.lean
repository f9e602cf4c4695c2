/-
  Sweeps: the points of a colour, of the model.
-/
import Derived.Test.YtjfnecmnofcjbaaSwpM
import Derived.Test.YtjfnecmnofcjbaaLapS
namespace Go.Proofs.Ytjfnecmnofcjbaa
open Go.Fl Go.RowKit
open Go.Joins (ownsRow_le)
set_option linter.unusedSimpArgs false
set_option linter.unusedVariables false

set_option maxHeartbeats 8000000 in
set_option maxRecDepth 100000 in
theorem sSweep_any (a b c : Int) (kp gv capv gl capl : Nat) (xs ls : List Nat) (B : Nat) (w : World) (hp : w.heap[kp]? = some (.cells #[.int .i64 a, .int .i64 b] 27)) (hpv : kp ≠ gv) (hv : RW B w gv capv xs) (hl : RW B w gl capl ls) (hne : gl ≠ gv) (h1 : fieldOk a b xs.length = true) (hll : ls.length = xs.length) (hwx : ∀ x ∈ xs, x < 2 ^ FloatKind.f32.format.width) (hwl : ∀ x ∈ ls, x < 2 ^ FloatKind.f32.format.width) :
    Calls Try.prog 90 #[.pointer (some ⟨kp, 0, none⟩), .slice (some ⟨gv, 0, none⟩) xs.length capv, .slice (some ⟨gl, 0, none⟩) ls.length capl, .int .i64 c] w fun e w' => (∃ es, e = .returned (.tuple #[]) ∧ es.length = xs.length ∧ (∀ x ∈ es, x < 2 ^ FloatKind.f32.format.width) ∧ EqOn es (sweepF a b c (fun j => cn .f32 (ls.getD j 0)) (fun j => cn .f32 (xs.getD j 0)) xs.length) 0 xs.length ∧ RW B w' gv capv es ∧ RW B w' gl capl ls) ∧ w.grownBy w' (some gv) := by
  have HA := Lib.hid (fieldOk_true h1)
  have hn256 : xs.length ≤ 256 := HA.out.2.2.2.2.2
  have HGO := Lib.hid (show gridOk a b = true from decide_eq_true ⟨HA.out.1, HA.out.2.1, HA.out.2.2.1, HA.out.2.2.2.1⟩)
  have HPV := Lib.hid hpv; have HNE := Lib.hid hne; have HWL := Lib.hid hwl; have HWX := Lib.hid hwx
  have HE0 := Lib.hid (show EqOn xs (sweepF a b c (fun j => cn .f32 (ls.getD j 0)) (fun j => cn .f32 (xs.getD j 0)) 0) 0 xs.length from fun q _ hq => FS.is hwx q hq)
  have HV0 := Lib.hid hv; have HL0 := Lib.hid hl; have HP0 := Lib.hid hp; have HD0 := Lib.hid (grown_refl w (some gv))
  rw [hll]
  have HLL := Lib.hid hll
  clear h1 hpv hv hl hne hll hwx hwl hp
  go_enter Try.func90, Try.ntmps90
  go_wp2_with fail
  go_loopw [14] (fun i wr => ∃ (k : Nat) (es : List Nat), i = .int .i64 (k : Int) ∧ k ≤ xs.length ∧ Hid (es.length = xs.length) ∧ Hid (∀ x ∈ es, x < 2 ^ FloatKind.f32.format.width) ∧ Hid (EqOn es (sweepF a b c (fun j => cn .f32 (ls.getD j 0)) (fun j => cn .f32 (xs.getD j 0)) k) 0 xs.length) ∧ Hid (RW B wr gv capv es) ∧ Hid (RW B wr gl capl ls) ∧ Hid (wr.heap[kp]? = some (.cells #[.int .i64 a, .int .i64 b] 27)) ∧ Hid (w.grownBy wr (some gv))) (fun i _ => xs.length - (intOf i).toNat)
  case atStart => exact ⟨0, xs, rfl, Nat.zero_le _, Lib.hid rfl, HWX, HE0, HV0, HL0, HP0, HD0⟩
  case round =>
    clear HV0 HL0 HP0 HD0 HE0
    obtain ⟨k, es, rfl, hk, HEL, HEW, HE, HV, HL, HP, HD⟩ := hrel
    have hel := HEL.out
    by_cases hlt : k < xs.length
    · obtain ⟨u, v, t, hu, hv, ht, hu1, hv0, hult, hvb, hiu, ha0, hm1, hd1, hw1, hw2, hw3, hs2, hs3, hwk, iK0, iK1⟩ := point_facts (And.intro HA.out.1 (And.intro HA.out.2.1 (And.intro HA.out.2.2.1 HA.out.2.2.2.1))) HA.out.2.2.2.2.1 HA.out.2.2.2.2.2 hlt
      have hH : isHit a c k = decide ((t : Int) = c) := by unfold isHit; rw [hu, hv, ht]
      have HUV := Lib.hid (And.intro hu hv)
      have HLT := Lib.hid hlt
      have k0 := (pair_cells HP.out).1
      have HWK := Lib.hid hwk
      clear hu hv hiu hvb hult ht hwk
      go_wp2_with fail
      refine wp_region_noPanic ?_
      refine wp_region_held_drew (S := fun w' => w'.cell? ⟨kp, 0, none⟩ = some (.int .i64 a)) (by kernel_rfl) k0 (fun hHeld => ?_)
      have HV1 : Hid (RW B wr.drew gv capv es) := Lib.hid HV.out
      have HL1 : Hid (RW B wr.drew gl capl ls) := Lib.hid HL.out
      have HP1 : Hid (wr.drew.heap[kp]? = some (.cells #[.int .i64 a, .int .i64 b] 27)) := Lib.hid HP.out
      have HD1 := Lib.hid (grown_drew HD.out)
      clear HV HL HP HD k0
      generalize wr.drew = W1 at HV1 HL1 HP1 HD1 hHeld ⊢
      ((refine wpAnyH_take (i := 0) (v := ?_) rfl (by kernel_rfl) (by kernel_rfl) (by kernel_rfl) (fun _ _ _ h => h) (Or.inl ⟨by rfl, ?_⟩) (by assumption) ?_; rotate_left; (· intro w hSw; (try dsimp only at hSw); go_simp; first | done | with_reducible rfl); (try simp only [List.getElem_toArray, List.getElem_cons_zero, List.getElem_cons_succ, Act.put, List.setIfInBounds_toArray, List.set_cons_zero, List.set_cons_succ])); (refine wpAnyH_take (i := 1) (v := ?_) rfl (by kernel_rfl) (by kernel_rfl) (by kernel_rfl) (fun _ _ _ h => h) (Or.inl ⟨by rfl, ?_⟩) (by assumption) ?_; rotate_left; (· intro w hSw; (try dsimp only at hSw); go_simp; first | done | with_reducible rfl); (try simp only [List.getElem_toArray, List.getElem_cons_zero, List.getElem_cons_succ, Act.put, List.setIfInBounds_toArray, List.set_cons_zero, List.set_cons_succ])); (refine wpAnyH_take (i := 2) (v := ?_) rfl (by kernel_rfl) (by kernel_rfl) (by kernel_rfl) (fun _ _ _ h => h) (Or.inl ⟨by rfl, ?_⟩) (by assumption) ?_; rotate_left; (· intro w hSw; (try dsimp only at hSw); go_simp; first | done | with_reducible rfl); (try simp only [List.getElem_toArray, List.getElem_cons_zero, List.getElem_cons_succ, Act.put, List.setIfInBounds_toArray, List.set_cons_zero, List.set_cons_succ])); (refine wpAnyH_take (i := 3) (v := ?_) rfl (by kernel_rfl) (by kernel_rfl) (by kernel_rfl) (fun _ _ _ h => h) (Or.inl ⟨by rfl, ?_⟩) (by assumption) ?_; rotate_left; (· intro w hSw; (try dsimp only at hSw); go_simp; first | done | with_reducible rfl); (try simp only [List.getElem_toArray, List.getElem_cons_zero, List.getElem_cons_succ, Act.put, List.setIfInBounds_toArray, List.set_cons_zero, List.set_cons_succ])); (refine wpAnyH_take (i := 4) (v := ?_) rfl (by kernel_rfl) (by kernel_rfl) (by kernel_rfl) (fun _ _ _ h => h) (Or.inl ⟨by rfl, ?_⟩) (by assumption) ?_; rotate_left; (· intro w hSw; (try dsimp only at hSw); go_simp; first | done | with_reducible rfl); (try simp only [List.getElem_toArray, List.getElem_cons_zero, List.getElem_cons_succ, Act.put, List.setIfInBounds_toArray, List.set_cons_zero, List.set_cons_succ])); (refine wpAnyH_take (i := 5) (v := ?_) rfl (by kernel_rfl) (by kernel_rfl) (by kernel_rfl) (fun _ _ _ h => h) (Or.inl ⟨by rfl, ?_⟩) (by assumption) ?_; rotate_left; (· intro w hSw; (try dsimp only at hSw); go_simp; first | done | with_reducible rfl); (try simp only [List.getElem_toArray, List.getElem_cons_zero, List.getElem_cons_succ, Act.put, List.setIfInBounds_toArray, List.set_cons_zero, List.set_cons_succ])); (refine wpAnyH_take (i := 6) (v := ?_) rfl (by kernel_rfl) (by kernel_rfl) (by kernel_rfl) (fun _ _ _ h => h) (Or.inl ⟨by rfl, ?_⟩) (by assumption) ?_; rotate_left; (· intro w hSw; (try dsimp only at hSw); go_simp; first | done | with_reducible rfl); (try simp only [List.getElem_toArray, List.getElem_cons_zero, List.getElem_cons_succ, Act.put, List.setIfInBounds_toArray, List.set_cons_zero, List.set_cons_succ])); (refine wpAnyH_take (i := 7) (v := ?_) rfl (by kernel_rfl) (by kernel_rfl) (by kernel_rfl) (fun _ _ _ h => h) (Or.inl ⟨by rfl, ?_⟩) (by assumption) ?_; rotate_left; (· intro w hSw; (try dsimp only at hSw); go_simp; first | done | with_reducible rfl); (try simp only [List.getElem_toArray, List.getElem_cons_zero, List.getElem_cons_succ, Act.put, List.setIfInBounds_toArray, List.set_cons_zero, List.set_cons_succ])); (refine wpAnyH_take (i := 8) (v := ?_) rfl (by kernel_rfl) (by kernel_rfl) (by kernel_rfl) (fun _ _ _ h => h) (Or.inl ⟨by rfl, ?_⟩) (by assumption) ?_; rotate_left; (· intro w hSw; (try dsimp only at hSw); go_simp; first | done | with_reducible rfl); (try simp only [List.getElem_toArray, List.getElem_cons_zero, List.getElem_cons_succ, Act.put, List.setIfInBounds_toArray, List.set_cons_zero, List.set_cons_succ])); (refine wpAnyH_take (i := 9) (v := ?_) rfl (by kernel_rfl) (by kernel_rfl) (by kernel_rfl) (fun _ _ _ h => h) (Or.inl ⟨by rfl, ?_⟩) (by assumption) ?_; rotate_left; (· intro w hSw; (try dsimp only at hSw); go_simp; first | done | with_reducible rfl); (try simp only [List.getElem_toArray, List.getElem_cons_zero, List.getElem_cons_succ, Act.put, List.setIfInBounds_toArray, List.set_cons_zero, List.set_cons_succ])); (refine wpAnyH_take (i := 10) (v := ?_) rfl (by kernel_rfl) (by kernel_rfl) (by kernel_rfl) (fun _ _ _ h => h) (Or.inl ⟨by rfl, ?_⟩) (by assumption) ?_; rotate_left; (· intro w hSw; (try dsimp only at hSw); go_simp; first | done | with_reducible rfl); (try simp only [List.getElem_toArray, List.getElem_cons_zero, List.getElem_cons_succ, Act.put, List.setIfInBounds_toArray, List.set_cons_zero, List.set_cons_succ])); (refine wpAnyH_take (i := 11) (v := ?_) rfl (by kernel_rfl) (by kernel_rfl) (by kernel_rfl) (fun _ _ _ h => h) (Or.inl ⟨by rfl, ?_⟩) (by assumption) ?_; rotate_left; (· intro w hSw; (try dsimp only at hSw); go_simp; first | done | with_reducible rfl); (try simp only [List.getElem_toArray, List.getElem_cons_zero, List.getElem_cons_succ, Act.put, List.setIfInBounds_toArray, List.set_cons_zero, List.set_cons_succ])); (refine wpAnyH_take (i := 12) (v := ?_) rfl (by kernel_rfl) (by kernel_rfl) (by kernel_rfl) (fun _ _ _ h => h) (Or.inl ⟨by rfl, ?_⟩) (by assumption) ?_; rotate_left; (· intro w hSw; (try dsimp only at hSw); go_simp; first | done | with_reducible rfl); (try simp only [List.getElem_toArray, List.getElem_cons_zero, List.getElem_cons_succ, Act.put, List.setIfInBounds_toArray, List.set_cons_zero, List.set_cons_succ])); (refine wpAnyH_take (i := 13) (v := ?_) rfl (by kernel_rfl) (by kernel_rfl) (by kernel_rfl) (fun _ _ _ h => h) (Or.inl ⟨by rfl, ?_⟩) (by assumption) ?_; rotate_left; (· intro w hSw; (try dsimp only at hSw); go_simp; first | done | with_reducible rfl); (try simp only [List.getElem_toArray, List.getElem_cons_zero, List.getElem_cons_succ, Act.put, List.setIfInBounds_toArray, List.set_cons_zero, List.set_cons_succ])); (refine wpAnyH_take (i := 14) (v := ?_) rfl (by kernel_rfl) (by kernel_rfl) (by kernel_rfl) (fun _ _ _ h => h) (Or.inl ⟨by rfl, ?_⟩) (by assumption) ?_; rotate_left; (· intro w hSw; (try dsimp only at hSw); go_simp; first | done | with_reducible rfl); (try simp only [List.getElem_toArray, List.getElem_cons_zero, List.getElem_cons_succ, Act.put, List.setIfInBounds_toArray, List.set_cons_zero, List.set_cons_succ])); (refine wpAnyH_take (i := 15) (v := ?_) rfl (by kernel_rfl) (by kernel_rfl) (by kernel_rfl) (fun _ _ _ h => h) (Or.inl ⟨by rfl, ?_⟩) (by assumption) ?_; rotate_left; (· intro w hSw; (try dsimp only at hSw); go_simp; first | done | with_reducible rfl); (try simp only [List.getElem_toArray, List.getElem_cons_zero, List.getElem_cons_succ, Act.put, List.setIfInBounds_toArray, List.set_cons_zero, List.set_cons_succ])))
      (refine wpAnyH_done (by kernel_rfl) ?_ _; refine NoPanic.normal ?_)
      clear hHeld
      have hw4 : IntKind.i64.wrap ((u : Int) + (v : Int)) = (u : Int) + (v : Int) := by rw [wrap_i64]; exact hw3
      simp only [hw4, hs3, Exit.then]
      clear hw4
      clear hu1 hv0 hm1 hd1 hw1 hw2 hw3 hs2 hs3 ha0
      by_cases hc : (t : Int) = c
      · have hc1 : ((t : Int) != c) = false := by simpa using hc
        have hFN : isHit a c k = true := by rw [hH]; exact decide_eq_true hc
        have HFN := Lib.hid hFN
        have lk : k < ls.length := by rw [HLL.out]; exact hlt
        have xl := HL1.out.at lk
        have ixl := FS.is HWL.out k lk
        have hjn : (k : Int) < a * b := by have := HA.out.2.2.2.2.1; omega
        have F0 := nbI_facts (a := a) (b := b) (-1) 0 u v HA.out.1 HA.out.2.2.1
        have F1 := nbI_facts (a := a) (b := b) 1 0 u v HA.out.1 HA.out.2.2.1
        have F2 := nbI_facts (a := a) (b := b) 0 (-1) u v HA.out.1 HA.out.2.2.1
        have F3 := nbI_facts (a := a) (b := b) 0 1 u v HA.out.1 HA.out.2.2.1
        have HNB := fun w0 p0 h0 => sNear_any p0 a b k w0 h0 HGO.out hjn
        rw [HUV.out.1, HUV.out.2] at HNB
        have hF : sweepAt a b (fun j => cn .f32 (ls.getD j 0)) (sweepF a b c (fun j => cn .f32 (ls.getD j 0)) (fun j => cn .f32 (xs.getD j 0)) k) k = fop .mul .f32 1048576000 (fop .add .f32 (fop .add .f32 (fop .add .f32 (fop .add .f32 (cn .f32 (ls.getD k 0)) (sweepF a b c (fun j => cn .f32 (ls.getD j 0)) (fun j => cn .f32 (xs.getD j 0)) k (nbI a b (-1) 0 u v))) (sweepF a b c (fun j => cn .f32 (ls.getD j 0)) (fun j => cn .f32 (xs.getD j 0)) k (nbI a b 1 0 u v))) (sweepF a b c (fun j => cn .f32 (ls.getD j 0)) (fun j => cn .f32 (xs.getD j 0)) k (nbI a b 0 (-1) u v))) (sweepF a b c (fun j => cn .f32 (ls.getD j 0)) (fun j => cn .f32 (xs.getD j 0)) k (nbI a b 0 1 u v))) := by
          unfold sweepAt; rw [HUV.out.1, HUV.out.2]
        generalize nbI a b (-1) 0 u v = n0 at F0 HNB hF
        generalize nbI a b 1 0 u v = n1 at F1 HNB hF
        generalize nbI a b 0 (-1) u v = n2 at F2 HNB hF
        generalize nbI a b 0 1 u v = n3 at F3 HNB hF
        have l0 : n0 < xs.length := lt_of_area HA.out.2.2.2.2.1 F0.2
        have l1 : n1 < xs.length := lt_of_area HA.out.2.2.2.2.1 F1.2
        have l2 : n2 < xs.length := lt_of_area HA.out.2.2.2.2.1 F2.2
        have l3 : n3 < xs.length := lt_of_area HA.out.2.2.2.2.1 F3.2
        have I0 := HE.out n0 (Nat.zero_le _) l0
        have I1 := HE.out n1 (Nat.zero_le _) l1
        have I2 := HE.out n2 (Nat.zero_le _) l2
        have I3 := HE.out n3 (Nat.zero_le _) l3
        have C0 := Lib.hid (fun (w' : World) (h : RW B w' gv capv es) => h.at (show n0 < es.length by rw [HEL.out]; exact l0))
        have C1 := Lib.hid (fun (w' : World) (h : RW B w' gv capv es) => h.at (show n1 < es.length by rw [HEL.out]; exact l1))
        have C2 := Lib.hid (fun (w' : World) (h : RW B w' gv capv es) => h.at (show n2 < es.length by rw [HEL.out]; exact l2))
        have C3 := Lib.hid (fun (w' : World) (h : RW B w' gv capv es) => h.at (show n3 < es.length by rw [HEL.out]; exact l3))
        have CK := Lib.hid (fun (w' : World) (h : RW B w' gv capv es) => h.at (show k < es.length by rw [HEL.out]; exact hlt))
        have L0 := Lib.hid l0; have L1 := Lib.hid l1; have L2 := Lib.hid l2; have L3 := Lib.hid l3
        have HF := Lib.hid hF
        clear hjn F0 F1 F2 F3 l0 l1 l2 l3 hF hc hFN hH
        generalize cn .f32 (ls.getD k 0) = X at ixl HF
        generalize ls.getD k 0 = x at xl ixl
        generalize sweepF a b c (fun j => cn .f32 (ls.getD j 0)) (fun j => cn .f32 (xs.getD j 0)) k n0 = Y0 at I0 HF
        generalize sweepF a b c (fun j => cn .f32 (ls.getD j 0)) (fun j => cn .f32 (xs.getD j 0)) k n1 = Y1 at I1 HF
        generalize sweepF a b c (fun j => cn .f32 (ls.getD j 0)) (fun j => cn .f32 (xs.getD j 0)) k n2 = Y2 at I2 HF
        generalize sweepF a b c (fun j => cn .f32 (ls.getD j 0)) (fun j => cn .f32 (xs.getD j 0)) k n3 = Y3 at I3 HF
        generalize es.getD n0 0 = y0 at C0 I0
        generalize es.getD n1 0 = y1 at C1 I1
        generalize es.getD n2 0 = y2 at C2 I2
        generalize es.getD n3 0 = y3 at C3 I3
        go_wp2_with fail
        clear hc1 xl
        refine (HNB _ _ (gp_of HP1.out)).mono ?_; rintro e w3 ⟨kk, rfl, hkk, hnear, hb3⟩
        have HV3 := Lib.hid (HV1.out.still hb3)
        have HL3 := Lib.hid (HL1.out.still hb3)
        have HP3 := Lib.hid ((hb3.block kp (Array.getElem?_eq_some_iff.1 HP1.out).1).trans HP1.out)
        have HD3 := Lib.hid (grown_trans HD1.out (grown_below (row := some gv) hb3))
        have HNR := Lib.hid (cellsFour hnear)
        clear hnear hb3 hkk HV1 HL1 HP1 HD1 HNB
        go_wp2_with fail
        go_loopw [9, 42] (fun v i wx => ∃ (q r m : Nat), v = .float .f32 r ∧ i = .int .i64 (q : Int) ∧ q ≤ 4 ∧ wx = w3.drewN m ∧ Hid (Is .f32 r ([X, fop .add .f32 X Y0, fop .add .f32 (fop .add .f32 X Y0) Y1, fop .add .f32 (fop .add .f32 (fop .add .f32 X Y0) Y1) Y2, fop .add .f32 (fop .add .f32 (fop .add .f32 (fop .add .f32 X Y0) Y1) Y2) Y3].getD q 0))) (fun _ i _ => 4 - (intOf i).toNat)
        case atStart => exact ⟨0, x, 0, rfl, rfl, Nat.zero_le _, rfl, Lib.hid ixl⟩
        case round =>
          obtain ⟨q, r1, m, rfl, rfl, hq4, rfl, HR1⟩ := hrel
          have x0 := C0.out w3 HV3.out
          have x1 := C1.out w3 HV3.out
          have x2 := C2.out w3 HV3.out
          have x3 := C3.out w3 HV3.out
          have q0 := HNR.out.1
          have q1 := HNR.out.2.1
          have q2 := HNR.out.2.2.1
          have q3 := HNR.out.2.2.2
          have j0 : (n0 : Int) < (xs.length : Int) := by have := L0.out; omega
          have j1 : (n1 : Int) < (xs.length : Int) := by have := L1.out; omega
          have j2 : (n2 : Int) < (xs.length : Int) := by have := L2.out; omega
          have j3 : (n3 : Int) < (xs.length : Int) := by have := L3.out; omega
          obtain rfl | rfl | rfl | rfl | rfl : q = 0 ∨ q = 1 ∨ q = 2 ∨ q = 3 ∨ q = 4 := by omega
          · have hr1 : Is .f32 r1 X := HR1.out
            go_wp2_with (first | (apply wpList_farith; rfl; rfl; rfl; rfl; (first | with_reducible assumption | exact Is.const rfl); (first | with_reducible assumption | exact Is.const rfl); intro r n hr))
            go_roundw
            case rel => exact ⟨1, r, m + n, rfl, rfl, by omega, rfl, Lib.hid hr⟩
            case measure => simp [intOf]
          · have hr1 : Is .f32 r1 (fop .add .f32 X Y0) := HR1.out
            go_wp2_with (first | (apply wpList_farith; rfl; rfl; rfl; rfl; (first | with_reducible assumption | exact Is.const rfl); (first | with_reducible assumption | exact Is.const rfl); intro r n hr))
            go_roundw
            case rel => exact ⟨2, r, m + n, rfl, rfl, by omega, rfl, Lib.hid hr⟩
            case measure => simp [intOf]
          · have hr1 : Is .f32 r1 (fop .add .f32 (fop .add .f32 X Y0) Y1) := HR1.out
            go_wp2_with (first | (apply wpList_farith; rfl; rfl; rfl; rfl; (first | with_reducible assumption | exact Is.const rfl); (first | with_reducible assumption | exact Is.const rfl); intro r n hr))
            go_roundw
            case rel => exact ⟨3, r, m + n, rfl, rfl, by omega, rfl, Lib.hid hr⟩
            case measure => simp [intOf]
          · have hr1 : Is .f32 r1 (fop .add .f32 (fop .add .f32 (fop .add .f32 X Y0) Y1) Y2) := HR1.out
            go_wp2_with (first | (apply wpList_farith; rfl; rfl; rfl; rfl; (first | with_reducible assumption | exact Is.const rfl); (first | with_reducible assumption | exact Is.const rfl); intro r n hr))
            go_roundw
            case rel => exact ⟨4, r, m + n, rfl, rfl, by omega, rfl, Lib.hid hr⟩
            case measure => simp [intOf]
          · have hr1 : Is .f32 r1 (fop .add .f32 (fop .add .f32 (fop .add .f32 (fop .add .f32 X Y0) Y1) Y2) Y3) := HR1.out
            clear x0 x1 x2 x3 q0 q1 q2 q3 j0 j1 j2 j3
            have xk := CK.out w3 HV3.out
            have hf := HV3.out.frozenAt k
            go_wp2_with (first | (apply wpList_farith; rfl; rfl; rfl; rfl; (first | with_reducible assumption | exact Is.const rfl); (first | with_reducible assumption | exact Is.const rfl); intro r n hr))
            have PT := RW.put (show RW B (w3.drewN (m + n)) gv capv es from HV3.out) k r
            have HV5 := Lib.hid PT.1
            have HL5 := Lib.hid (RW.other (show RW B (w3.drewN (m + n)) gl capl ls from HL3.out) PT.2 HNE.out)
            have HP5 := Lib.hid ((PT.2.block kp (Array.getElem?_eq_some_iff.1 HP3.out).1 (fun e => HPV.out (Option.some.inj e))).trans (show (w3.drewN (m + n)).heap[kp]? = _ from HP3.out))
            have HD5 := Lib.hid (grown_trans (grown_drewN HD3.out (m + n)) PT.2)
            have HE5 := Lib.hid (sweepF_hit (r := r) HFN.out HE.out HEL.out HLT.out (by rw [HF.out]; exact hr))
            have HW5 := Lib.hid (show ∀ x ∈ es.set k r, x < 2 ^ FloatKind.f32.format.width from fun x hx => by
              rcases List.mem_or_eq_of_mem_set hx with h | h
              · exact HEW.out x h
              · subst h; exact hr.lt)
            have HEL5 := Lib.hid (show (es.set k r).length = xs.length by rw [List.length_set]; exact HEL.out)
            clear PT xk hf hr hr1
            go_wp2
            go_roundw
            case rel => exact ⟨k + 1, es.set k r, by go_num, by have := HLT.out; omega, HEL5, HW5, HE5, HV5, HL5, HP5, HD5⟩
            case measure => simp [intOf]; have := HLT.out; omega
      · have hc1 : ((t : Int) != c) = true := by simpa using hc
        have hFN : isHit a c k = false := by rw [hH]; exact decide_eq_false hc
        have HEN := Lib.hid (sweepF_miss hFN HE.out)
        clear hFN hH hc
        go_wp2
        go_roundw
        case rel => exact ⟨k + 1, es, by go_num, by omega, HEL, HEW, HEN, HV1, HL1, HP1, HD1⟩
        case measure => simp [intOf]; omega
    · have hk2 : k = xs.length := by omega
      have HK2 := Lib.hid hk2
      clear hk2
      go_wp2_with fail
      go_end0
      exact ⟨⟨es, rfl, hel, HEW.out, by have := HE.out; rw [HK2.out] at this; exact this, HV.out, HL.out⟩, HD.out⟩
end Go.Proofs.Ytjfnecmnofcjbaa
