/- FnSorted: for all two lists of bytes the law returns true: what they draw is a cloud; its order has the particles in ascending order of cells, and as they were in each of these; counts and starts are told of all cells; and the fullest cell is the first one with the most particles. No condition. -/
import Derived.Test.YtnknhfhllifnhaaRows
import Derived.WalkKit
import Derived.ProofKit
import Derived.OpenShut
import Derived.ShutString
import Derived.ChangeOld
import Derived.Below
import Derived.Laws.Cover2
import Derived.Test.YtnknhfhllifnhaaB10C
import Derived.Test.YtnknhfhllifnhaaSrC
import Derived.Test.YtnknhfhllifnhaaSmC
import Derived.Test.YtnknhfhllifnhaaBAt
import Derived.Deep.QuietTactic
import Derived.BigQuiet
namespace Go.Proofs.Ytnknhfhllifnhaa.fnSorted
open Go.ChangeShapes Go.WideShapes Go.ChangeAt Go.RowKit Go.Fl
open Go.ChangeMaps (open_string shut_string)
set_option linter.unusedVariables false
open Go.Nl (NS)
open Go.Ordr
set_option linter.unusedSimpArgs false
set_option linter.unusedVariables false

theorem box_kept {W W' : World} {b : Nat} {o : Obj} (h : W.heap[b]? = some o) (hb : Below W.heap.size W W') : W'.heap[b]? = some o := (hb.block b (Array.getElem?_eq_some_iff.1 h).1).trans h
theorem asc_at {cs : List Int} {os : List Nat} (h : Ordd cs os) {p : Nat} (hp : p + 1 < os.length) : keyA cs (os.getD p 0) < keyA cs (os.getD (p + 1) 0) ∨ (keyA cs (os.getD p 0) = keyA cs (os.getD (p + 1) 0) ∧ os.getD p 0 < os.getD (p + 1) 0) := by
  have h1 := (List.pairwise_iff_getElem.1 h.asc) p (p + 1) (by omega) hp (by omega)
  simp only [List.getD_eq_getElem?_getD, List.getElem?_eq_getElem hp, List.getElem?_eq_getElem (show p < os.length by omega), Option.getD_some]
  exact h1
theorem keys_at (f : Nat → Int) (os : List Nat) {p : Nat} (h : p < os.length) : (os.map f).getD p 0 = f (os.getD p 0) := by simp [List.getD, h]
theorem num_e8 {n : Int} (h0 : -112 ≤ n) (h1 : n < 248) : Num (E8 n) := e8_num h0 h1

set_option maxHeartbeats 4000000 in
set_option maxRecDepth 100000 in
theorem walk (a0 : Option Addr) (len0 cap0 : Nat) (z0 : List Int) (a1 : Option Addr) (len1 cap1 : Nat) (z1 : List Int) (w : World) (w0 : NS .u8 w (.slice a0 len0 cap0) z0) (w1 : NS .u8 w (.slice a1 len1 cap1) z1) :
    Calls Try.prog 5 #[.slice a0 len0 cap0, .slice a1 len1 cap1] w fun e w' => e = .returned (.bool true) ∧ Below w.heap.size w w' := by
  have HC := Lib.hid w0
  clear w0 w1
  by_cases hl : (1048576 < len0 ∨ 1048576 < len1)
  · have HL := Lib.hid (show decide (1048576 < len0 ∨ 1048576 < len1) = true from decide_eq_true hl)
    clear hl
    go_enter Try.func5, Try.ntmps5
    go_wp2_with fail
    refine (bLong_any _ _ _ _ _ _ _).mono ?_; rw [HL.out]; rintro e w' ⟨rfl, rfl⟩
    go_wp2_with fail
    go_ret
    exact ⟨rfl, Below.refl _ _⟩
  have HL := Lib.hid (show decide (1048576 < len0 ∨ 1048576 < len1) = false from decide_eq_false hl)
  clear hl
  go_enter Try.func5, Try.ntmps5
  go_wp2_with fail
  refine (bLong_any _ _ _ _ _ _ _).mono ?_; rw [HL.out]; rintro e w' ⟨rfl, rfl⟩
  go_wp2_with fail
  refine (sB10Cloud_any _ z0 _ HC.out).mono ?_
  rintro e v1 ⟨a, b, V, ts, M, C, ha, ha', hb, hb', hts, hat, hm0, hm1, hc0, hc1, rfl, O1, hbl⟩
  obtain ⟨av, cap, rfl, hfv⟩ := p_form O1
  have HOK := Lib.hid (show oks ts from fun t ht => (hat t ht).ok)
  have IM := Lib.hid (num_e8 (n := M) (by omega) (by omega)); have IK := Lib.hid (num_e8 (n := C) (by omega) (by omega))
  have hal := (Below.refl v1.heap.size v1).alloc (Nat.le_refl _) (.cells (CGc a b (.slice av ts.length cap) (E8 M) (E8 C)) 48)
  have HX := Lib.hid (heap_alloc_new v1 (.cells (CGc a b (.slice av ts.length cap) (E8 M) (E8 C)) 48))
  have HO := Lib.hid (r4_below O1 hal)
  have HB := Lib.hid (hbl.trans (hal.mono hbl.size))
  clear hat O1 hbl hal hm0 hm1 hc0 hc1
  generalize hMM : E8 M = mg at *
  generalize hCC : E8 C = bk at *
  clear hMM hCC
  obtain ⟨N, hN⟩ : ∃ N, N = ts.length := ⟨_, rfl⟩
  have HN := Lib.hid hN
  rw [← hN] at HO HX HB hts ⊢
  clear hN
  obtain ⟨e0, e1, e2, e3, e4⟩ := five_cells HX.out
  go_wp2_with fail
  clear e0 e1 e2 e3 e4
  generalize v1.alloc (.cells (CGc a b (.slice av N cap) mg bk) 48) = v2 at HX HO HB ⊢
  generalize v1.heap.size = cb at HX ⊢
  -- the order
  refine (iOrderOf_pt a b ha ha' hb (by omega) _ _ ts mg bk IM.out IK.out _ HO.out HOK.out (by rw [← HN.out]; omega)).mono ?_
  rintro e v3 ⟨⟨go, n3, rfl, os, hr, ho⟩, hb3⟩
  obtain rfl : n3 = N := by rw [← hr.1, natI_len, ho.len, keysP_len]; exact HN.out.symm
  have HR := Lib.hid hr; have HOS := Lib.hid ho
  have HB := Lib.hid (HB.out.trans (hb3.mono HB.out.size)); have HX := Lib.hid (box_kept HX.out hb3); have HO := Lib.hid (r4_below HO.out hb3)
  clear hr ho hb3
  obtain ⟨e0, e1, e2, e3, e4⟩ := five_cells HX.out
  go_wp2_with fail
  clear e0 e1 e2 e3 e4
  -- the sorted cloud
  refine (iSortCloud_pt a b ha ha' hb (by omega) _ _ ts mg bk IM.out IK.out _ HO.out HOK.out (by rw [← HN.out]; omega)).mono ?_
  rintro e v4 ⟨⟨r, rfl, gs, ns, cs, os', rfl, hso, ho'⟩, hb4⟩
  have HKA := Lib.hid (keys_nn ha hb ts)
  obtain ⟨K, hK⟩ := Int.eq_ofNat_of_zero_le (show 0 ≤ a * b from Int.mul_nonneg (by omega) (by omega))
  have HKK := Lib.hid hK
  have HBL := Lib.hid (show os = upTo (keysP a b ts) K from HOS.out.blocks K (fun i hi => by have := HKA.out i hi; omega))
  obtain rfl : os' = os := by rw [HBL.out]; exact ho'.blocks K (fun i hi => by have := HKA.out i hi; omega)
  obtain rfl : ns = n3 := by
    obtain ⟨x1, x2, x3, _⟩ := p_form hso
    simp only [Value.slice.injEq] at x3
    rw [x3.2.1, permP_len, HOS.out.len, keysP_len]; exact HN.out.symm
  have HSO := Lib.hid hso
  have HB := Lib.hid (HB.out.trans (hb4.mono HB.out.size)); have HX := Lib.hid (box_kept HX.out hb4); have HO := Lib.hid (r4_below HO.out hb4); have HR := Lib.hid (HR.out.kept hb4)
  clear hso ho' hb4 hK
  have hal := (Below.refl v4.heap.size v4).alloc (Nat.le_refl _) (.cells (CGc a b (.slice (some ⟨gs, 0, none⟩) ns cs) mg bk) 48)
  have HY := Lib.hid (heap_alloc_new v4 (.cells (CGc a b (.slice (some ⟨gs, 0, none⟩) ns cs) mg bk) 48))
  have HSO := Lib.hid (r4_below HSO.out hal)
  have HB := Lib.hid (HB.out.trans (hal.mono HB.out.size)); have HX := Lib.hid (box_kept HX.out hal); have HO := Lib.hid (r4_below HO.out hal); have HR := Lib.hid (HR.out.kept hal)
  clear hal
  obtain ⟨e0, e1, e2, e3, e4⟩ := five_cells HY.out
  go_wp2_with fail
  clear e0 e1 e2 e3 e4
  generalize v4.alloc (.cells (CGc a b (.slice (some ⟨gs, 0, none⟩) ns cs) mg bk) 48) = v5 at HX HO HB HY HSO HR ⊢
  generalize v4.heap.size = sb at HY ⊢
  -- its cells
  have HLT := Lib.hid (show ∀ x ∈ os', x < ts.length from fun x hx => by have := HOS.out.lt x hx; rwa [keysP_len] at this)
  refine (iCellsOf_pt a b ha ha' hb (by omega) _ _ (permP ts os') mg bk IM.out IK.out _ HSO.out (oks_perm HOK.out HLT.out) (by rw [permP_len, HOS.out.len, keysP_len, ← HN.out]; omega)).mono ?_
  rintro e v6 ⟨⟨gc, nc, rfl, hc⟩, hb6⟩
  obtain rfl : nc = ns := by rw [← hc.1, keysP_len, permP_len, HOS.out.len, keysP_len]; exact HN.out.symm
  have HCL := Lib.hid hc
  have HB := Lib.hid (HB.out.trans (hb6.mono HB.out.size)); have HX := Lib.hid (box_kept HX.out hb6); have HO := Lib.hid (r4_below HO.out hb6); have HR := Lib.hid (HR.out.kept hb6); have HY := Lib.hid (box_kept HY.out hb6); have HSO := Lib.hid (r4_below HSO.out hb6)
  clear hc hb6
  obtain ⟨e0, e1, e2, e3, e4⟩ := five_cells HX.out
  go_wp2_with fail
  clear e0 e1 e2 e3 e4
  -- counts
  refine (iCountsOf_pt a b ha ha' hb (by omega) _ _ ts mg bk IM.out IK.out _ HO.out HOK.out (by rw [← HN.out]; omega)).mono ?_
  rintro e v7 ⟨⟨gk, nk, rfl, hc, hnk⟩, hb7⟩
  obtain rfl : nk = K := by have := HKK.out; omega
  have HCN := Lib.hid hc
  have HB := Lib.hid (HB.out.trans (hb7.mono HB.out.size)); have HX := Lib.hid (box_kept HX.out hb7); have HO := Lib.hid (r4_below HO.out hb7); have HR := Lib.hid (HR.out.kept hb7); have HY := Lib.hid (box_kept HY.out hb7); have HSO := Lib.hid (r4_below HSO.out hb7); have HCL := Lib.hid (HCL.out.kept hb7)
  clear hc hb7 hnk
  obtain ⟨e0, e1, e2, e3, e4⟩ := five_cells HX.out
  go_wp2_with fail
  clear e0 e1 e2 e3 e4
  -- starts
  refine (iStartsOf_pt a b ha ha' hb (by omega) _ _ ts mg bk IM.out IK.out _ HO.out HOK.out (by rw [← HN.out]; omega)).mono ?_
  rintro e v8 ⟨⟨gt, nt, rfl, hc, hnt⟩, hb8⟩
  obtain rfl : nt = nk := by have := HKK.out; omega
  have HSN := Lib.hid hc
  have HB := Lib.hid (HB.out.trans (hb8.mono HB.out.size)); have HX := Lib.hid (box_kept HX.out hb8); have HO := Lib.hid (r4_below HO.out hb8); have HR := Lib.hid (HR.out.kept hb8); have HY := Lib.hid (box_kept HY.out hb8); have HSO := Lib.hid (r4_below HSO.out hb8); have HCL := Lib.hid (HCL.out.kept hb8); have HCN := Lib.hid (HCN.out.kept hb8)
  clear hc hb8 hnt
  obtain ⟨e0, e1, e2, e3, e4⟩ := five_cells HX.out
  go_wp2_with fail
  clear e0 e1 e2 e3 e4
  -- the cloud in this order
  refine (iPermCloud_pt a b ha ha' hb (by omega) _ _ _ ts mg bk IM.out IK.out os' go nc _ HO.out HOK.out (by rw [← HN.out]; omega) HR.out (by have := HOS.out.perm; rwa [keysP_len] at this)).mono ?_
  rintro e v9 ⟨⟨gp, cp, rfl, hpo⟩, hb9⟩
  have HPO := Lib.hid hpo
  have HB := Lib.hid (HB.out.trans (hb9.mono HB.out.size)); have HX := Lib.hid (box_kept HX.out hb9); have HO := Lib.hid (r4_below HO.out hb9); have HR := Lib.hid (HR.out.kept hb9); have HY := Lib.hid (box_kept HY.out hb9); have HSO := Lib.hid (r4_below HSO.out hb9); have HCL := Lib.hid (HCL.out.kept hb9); have HCN := Lib.hid (HCN.out.kept hb9); have HSN := Lib.hid (HSN.out.kept hb9)
  clear hpo hb9
  have hal := (Below.refl v9.heap.size v9).alloc (Nat.le_refl _) (.cells (CGc a b (.slice (some ⟨gp, 0, none⟩) nc cp) mg bk) 48)
  have HZ := Lib.hid (heap_alloc_new v9 (.cells (CGc a b (.slice (some ⟨gp, 0, none⟩) nc cp) mg bk) 48))
  have HB := Lib.hid (HB.out.trans (hal.mono HB.out.size)); have HX := Lib.hid (box_kept HX.out hal); have HO := Lib.hid (r4_below HO.out hal); have HR := Lib.hid (HR.out.kept hal); have HY := Lib.hid (box_kept HY.out hal); have HSO := Lib.hid (r4_below HSO.out hal); have HCL := Lib.hid (HCL.out.kept hal); have HCN := Lib.hid (HCN.out.kept hal); have HSN := Lib.hid (HSN.out.kept hal); have HPO := Lib.hid (r4_below HPO.out hal)
  clear hal
  obtain ⟨e0, e1, e2, e3, e4⟩ := five_cells HX.out
  go_wp2_with fail
  clear e0 e1 e2 e3 e4
  generalize v9.alloc (.cells (CGc a b (.slice (some ⟨gp, 0, none⟩) nc cp) mg bk) 48) = v10 at HX HO HB HY HSO HR HCL HCN HSN HPO HZ ⊢
  generalize v9.heap.size = pb at HZ ⊢
  -- the fullest cell
  refine (iFullest_pt a b ha ha' hb (by omega) _ _ ts mg bk IM.out IK.out _ HO.out HOK.out (by rw [← HN.out]; omega)).mono ?_
  rintro e v11 ⟨⟨nf, f, z, rfl, hnf, hf⟩, hb11⟩
  obtain rfl : nf = nt := by have := HKK.out; omega
  have HF := Lib.hid hf
  have HB := Lib.hid (HB.out.trans (hb11.mono HB.out.size)); have HX := Lib.hid (box_kept HX.out hb11); have HO := Lib.hid (r4_below HO.out hb11); have HR := Lib.hid (HR.out.kept hb11); have HY := Lib.hid (box_kept HY.out hb11); have HSO := Lib.hid (r4_below HSO.out hb11); have HCL := Lib.hid (HCL.out.kept hb11); have HCN := Lib.hid (HCN.out.kept hb11); have HSN := Lib.hid (HSN.out.kept hb11); have HPO := Lib.hid (r4_below HPO.out hb11); have HZ := Lib.hid (box_kept HZ.out hb11)
  clear hf hb11 hnf
  obtain ⟨e0, e1, e2, e3, e4⟩ := five_cells HX.out
  obtain ⟨h0, h1, h2, h3, h4⟩ := five_cells HY.out
  obtain ⟨k0, k1, k2, k3, k4⟩ := five_cells HZ.out
  go_wp2_with fail
  clear e0 e1 e2 e3 e4 h0 h1 h2 h3 h4 k0 k1 k2 k3 k4
  refine (iSameCloud_pt a b _ _ _ _ (permP ts os') mg bk IM.out IK.out _ HPO.out HSO.out (oks_perm HOK.out HLT.out) (by rw [permP_len, HOS.out.len, keysP_len, ← HN.out]; omega)).mono ?_
  rintro e v12 ⟨rfl, hb12⟩
  have HB := Lib.hid (HB.out.trans (hb12.mono HB.out.size)); have HX := Lib.hid (box_kept HX.out hb12); have HO := Lib.hid (r4_below HO.out hb12); have HR := Lib.hid (HR.out.kept hb12); have HCL := Lib.hid (HCL.out.kept hb12); have HCN := Lib.hid (HCN.out.kept hb12); have HSN := Lib.hid (HSN.out.kept hb12)
  clear hb12 HPO HSO HY HZ
  obtain ⟨e0, e1, e2, e3, e4⟩ := five_cells HX.out
  have hm1 : a * b ≤ 7 * 6 := Int.mul_le_mul ha' hb' (by omega) (by omega)
  have hm0 : 4 * 4 ≤ a * b := Int.mul_le_mul ha hb (by omega) (by omega)
  have hwk : wrap64 (a * b) = (nf : Int) := by rw [wrap64_of (by omega) (by omega)]; exact HKK.out
  have hwk' : IntKind.i64.wrap (a * b) = (nf : Int) := by rw [wrap_i64]; exact hwk
  have hnf : nf ≤ 42 := by have := HKK.out; omega
  clear hm1 hm0
  go_wp2_with fail
  clear e0 e1 e2 e3 e4 hwk hwk'
  have HD0 := Lib.hid (Below.refl v12.heap.size v12)
  have hn6 : nc ≤ 6 := hts
  go_loopw [130] (fun i wr => ∃ q : Nat, q ≤ nc ∧ i = .int .i64 (q : Int) ∧ Hid (Below v12.heap.size v12 wr)) (fun i _ => nc - (intOf i).toNat)
  case atStart => exact ⟨0, Nat.zero_le _, rfl, HD0⟩
  case round =>
    clear HD0
    obtain ⟨q, hq, rfl, HD⟩ := hrel
    by_cases hlt : q < nc
    · have hz : (q : Int) < (nc : Int) := by omega
      by_cases h0 : q = 0
      · subst h0
        go_wp2_with fail
        go_quiet (fail)
        go_wp2_with fail
        go_roundw
        case rel => exact ⟨0 + 1, by omega, rfl, Lib.hid (below_drewN HD.out _)⟩
        case measure => simp [intOf]; omega
      · obtain ⟨p, rfl⟩ : ∃ p, q = p + 1 := ⟨q - 1, by omega⟩
        have c1 := (HCL.out.kept HD.out).at (show p < nc by omega)
        have c2 := (HCL.out.kept HD.out).at hlt
        have o1 := (HR.out.kept HD.out).at (show p < nc by omega)
        have o2 := (HR.out.kept HD.out).at hlt
        have hol : os'.length = nc := by rw [HOS.out.len, keysP_len]; exact HN.out.symm
        have ha1 := asc_at HOS.out (p := p) (by omega)
        rw [keys_perm a b ts os' HLT.out, keys_at _ _ (by omega)] at c1 c2
        rw [natI_at (by omega)] at o1 o2
        generalize keyA (keysP a b ts) (os'.getD p 0) = X at c1 ha1
        generalize keyA (keysP a b ts) (os'.getD (p + 1) 0) = Y at c2 ha1
        generalize os'.getD p 0 = u at o1 ha1
        generalize os'.getD (p + 1) 0 = t at o2 ha1
        have hp0 : (0 : Int) ≤ (p : Int) := Int.natCast_nonneg _
        have hp1 : (p : Int) < (nc : Int) := by omega
        have hp2 : (p : Int) + 1 < (nc : Int) := by omega
        have hp3 : (0 : Int) ≤ (p : Int) + 1 := by omega
        have hp4 : (0 : Int) < (p : Int) + 1 := by omega
        have hpn : ((p : Int) + 1).toNat = p + 1 := by omega
        have hwp : IntKind.i64.wrap (p : Int) = (p : Int) := by rw [IntKind.wrap_i64]; omega
        have hwp1 : IntKind.i64.wrap ((p : Int) + 1) = (p : Int) + 1 := by rw [IntKind.wrap_i64]; omega
        clear hol
        rcases ha1 with hXY | ⟨hXY, hut⟩
        · have g1 : ¬ (Y < X) := by omega
          have g2 : ¬ (X = Y) := by omega
          clear hXY
          go_wp2_with fail
          go_quiet (fail)
          go_wp2_with fail
          go_roundw
          case rel => exact ⟨p + 1 + 1, by omega, by go_num, Lib.hid (below_drewN HD.out _)⟩
          case measure => simp [intOf]; omega
        · subst hXY
          have g1 : ¬ (X < X) := by omega
          have g2 : ¬ ((t : Int) ≤ (u : Int)) := by omega
          clear hut
          go_wp2_with fail
          go_quiet (fail)
          go_wp2_with fail
          go_roundw
          case rel => exact ⟨p + 1 + 1, by omega, by go_num, Lib.hid (below_drewN HD.out _)⟩
          case measure => simp [intOf]; omega
    · obtain rfl : nc = q := by omega
      clear hlt
      go_wp2_with fail
      go_loopw [22, 174] (fun s i wr => ∃ k : Nat, k ≤ nf ∧ i = .int .i64 (k : Int) ∧ (∃ u : Nat, s = .int .i64 (u : Int) ∧ Hid (u = (upTo (keysP a b ts) k).length)) ∧ Hid (Below v12.heap.size v12 wr)) (fun _ i _ => nf - (intOf i).toNat)
      case atStart => exact ⟨0, Nat.zero_le _, rfl, ⟨0, rfl, Lib.hid rfl⟩, HD⟩
      case round =>
        clear HD
        obtain ⟨k, hk, rfl, ⟨u, rfl, HU⟩, HD⟩ := hrel
        by_cases hlt : k < nf
        · have hz : (k : Int) < (nf : Int) := by omega
          have hz0 : (0 : Int) ≤ (k : Int) := Int.natCast_nonneg _
          obtain ⟨e0, e1, e2, e3, e4⟩ := five_cells (box_kept HX.out HD.out)
          go_wp2_with fail
          clear e0 e1 e2 e3 e4
          refine (iInCell_pt a b ha ha' hb (by omega) _ _ ts mg bk IM.out IK.out k (by rw [HKK.out]; exact hz) _ (r4_below HO.out HD.out) HOK.out (by rw [← HN.out]; omega)).mono ?_
          rintro e x1 ⟨⟨r, rfl, hio⟩, hbx⟩
          obtain ⟨la, lc, rfl, hlf⟩ := hio.form
          rw [natI_len]
          have HIO := Lib.hid hio
          have HLF := Lib.hid hlf
          have HD := Lib.hid (HD.out.trans (hbx.mono HD.out.size))
          have ck := (HCN.out.kept HD.out).at hlt
          have sk := (HSN.out.kept HD.out).at hlt
          rw [CN_at hlt] at ck
          rw [SN_at hlt, ← HU.out] at sk
          have hfz := HF.out.2.2.1 k hlt
          have hff : k = f → (CN (keysP a b ts) nf).getD k 0 = z := fun e => by rw [e]; exact HF.out.2.1
          have hfl : k < f → (CN (keysP a b ts) nf).getD k 0 ≠ z := fun e => HF.out.2.2.2 k e
          rw [CN_at hlt] at hfz hff hfl
          have HUS := Lib.hid (upTo_len (keysP a b ts) k)
          have HUL := Lib.hid (upTo_le (keysP a b ts) (k + 1) (fun i hi => (HKA.out i hi).1))
          have HAT := Lib.hid (fun j (hj : j < (inCell (keysP a b ts) k).length) => show os'.getD (u + j) 0 = (inCell (keysP a b ts) k).getD j 0 from by
            rw [HBL.out, HU.out]; exact upTo_at hlt hj)
          have HLN := Lib.hid (show (inCell (keysP a b ts) k).length = (inCell (keysP a b ts) k).length from rfl)
          clear hio hlf hbx
          have HCK := Lib.hid (show ∀ W, Below v12.heap.size v12 W → W.cell? ⟨gk, k, none⟩ = some (.int .i64 ((inCell (keysP a b ts) k).length : Int)) from fun W hW => by
            have := (HCN.out.kept hW).at hlt
            rwa [CN_at hlt] at this)
          generalize hL : (inCell (keysP a b ts) k).length = L at ck hfz hff hfl HUS HAT HLN HIO HLF HCK ⊢
          have HL := Lib.hid hL
          clear hL
          have g0 : ¬ (z < (L : Int)) := by omega
          have hul := HUS.out
          have huu := HU.out
          have hule : u + L ≤ nc := by have h1 := HUL.out; rw [keysP_len, ← HN.out] at h1; omega
          have HNX := Lib.hid (show u + L = (upTo (keysP a b ts) (k + 1)).length by omega)
          clear hul huu
          rcases Nat.lt_trichotomy k f with hkf | hkf | hkf
          · have g1 : ¬ ((k : Int) = (f : Int)) := by omega
            have g2 : (k : Int) < (f : Int) := by omega
            have g3 : ((L : Int) == z) = false := by have g4 : ¬ ((L : Int) = z) := hfl hkf; simpa using g4
            clear hfz hff hfl hkf
            go_wp2_with fail
            clear ck sk
            have HE0 := Lib.hid (Below.refl x1.heap.size x1)
            go_loopw [238] (fun i wr => ∃ j : Nat, j ≤ L ∧ i = .int .i64 (j : Int) ∧ Hid (Below x1.heap.size x1 wr)) (fun i _ => L - (intOf i).toNat)
            case atStart => exact ⟨0, Nat.zero_le _, rfl, HE0⟩
            case round =>
              clear HE0
              obtain ⟨j, hj, rfl, HE⟩ := hrel
              by_cases hjt : j < L
              · have hjz : (j : Int) < (L : Int) := by omega
                have hjz0 : (0 : Int) ≤ (j : Int) := Int.natCast_nonneg _
                have hol : os'.length = nc := by rw [HOS.out.len, keysP_len]; exact HN.out.symm
                have o1 := (HR.out.kept (HD.out.trans (HE.out.mono HD.out.size))).at (show u + j < nc by omega)
                rw [natI_at (by omega), HAT.out j hjt] at o1
                rcases HLF.out with hlf | ⟨g, rfl, _, _⟩
                · have : (natI (inCell (keysP a b ts) k)).length = 0 := by rw [hlf]; rfl
                  rw [natI_len, HL.out] at this; omega
                have hio := HIO.out.kept HE.out
                rw [natI_len, HL.out] at hio
                have l1 := hio.at (j := j) (by rw [natI_len, HL.out]; exact hjt)
                rw [natI_at (by rw [HL.out]; exact hjt)] at l1
                have hw1 : IntKind.i64.wrap ((u : Int) + (j : Int)) = (u : Int) + (j : Int) := by rw [IntKind.wrap_i64]; omega
                have hw2 : (u : Int) + (j : Int) < (nc : Int) := by omega
                have hw3 : (0 : Int) ≤ (u : Int) + (j : Int) := by omega
                have hw4 : ((u : Int) + (j : Int)).toNat = u + j := by omega
                clear hol hio
                generalize (inCell (keysP a b ts) k).getD j 0 = y at o1 l1
                go_wp2_with fail
                go_quiet (fail)
                go_wp2_with fail
                go_roundw
                case rel => exact ⟨j + 1, by omega, by go_num, Lib.hid (below_drewN HE.out _)⟩
                case measure => simp [intOf]; omega
              · obtain rfl : j = L := by omega
                clear hjt
                have ck := HCK.out _ (HD.out.trans (HE.out.mono HD.out.size))
                have hwu : wrap64 ((u : Int) + (j : Int)) = (u : Int) + (j : Int) := wrap64_of (by omega) (by omega)
                go_wp2_with fail
                go_roundw
                case rel => exact ⟨k + 1, by omega, by go_num, ⟨u + j, by go_num, HNX⟩, Lib.hid (HD.out.trans (HE.out.mono HD.out.size))⟩
                case measure => simp [intOf]; omega
          · subst hkf
            obtain rfl : (L : Int) = z := hff rfl
            clear hfz hff hfl
            go_wp2_with fail
            clear ck sk
            have HE0 := Lib.hid (Below.refl x1.heap.size x1)
            go_loopw [238] (fun i wr => ∃ j : Nat, j ≤ L ∧ i = .int .i64 (j : Int) ∧ Hid (Below x1.heap.size x1 wr)) (fun i _ => L - (intOf i).toNat)
            case atStart => exact ⟨0, Nat.zero_le _, rfl, HE0⟩
            case round =>
              clear HE0
              obtain ⟨j, hj, rfl, HE⟩ := hrel
              by_cases hjt : j < L
              · have hjz : (j : Int) < (L : Int) := by omega
                have hjz0 : (0 : Int) ≤ (j : Int) := Int.natCast_nonneg _
                have hol : os'.length = nc := by rw [HOS.out.len, keysP_len]; exact HN.out.symm
                have o1 := (HR.out.kept (HD.out.trans (HE.out.mono HD.out.size))).at (show u + j < nc by omega)
                rw [natI_at (by omega), HAT.out j hjt] at o1
                rcases HLF.out with hlf | ⟨g, rfl, _, _⟩
                · have : (natI (inCell (keysP a b ts) k)).length = 0 := by rw [hlf]; rfl
                  rw [natI_len, HL.out] at this; omega
                have hio := HIO.out.kept HE.out
                rw [natI_len, HL.out] at hio
                have l1 := hio.at (j := j) (by rw [natI_len, HL.out]; exact hjt)
                rw [natI_at (by rw [HL.out]; exact hjt)] at l1
                have hw1 : IntKind.i64.wrap ((u : Int) + (j : Int)) = (u : Int) + (j : Int) := by rw [IntKind.wrap_i64]; omega
                have hw2 : (u : Int) + (j : Int) < (nc : Int) := by omega
                have hw3 : (0 : Int) ≤ (u : Int) + (j : Int) := by omega
                have hw4 : ((u : Int) + (j : Int)).toNat = u + j := by omega
                clear hol hio
                generalize (inCell (keysP a b ts) k).getD j 0 = y at o1 l1
                go_wp2_with fail
                go_quiet (fail)
                go_wp2_with fail
                go_roundw
                case rel => exact ⟨j + 1, by omega, by go_num, Lib.hid (below_drewN HE.out _)⟩
                case measure => simp [intOf]; omega
              · obtain rfl : j = L := by omega
                clear hjt
                have ck := HCK.out _ (HD.out.trans (HE.out.mono HD.out.size))
                have hwu : wrap64 ((u : Int) + (j : Int)) = (u : Int) + (j : Int) := wrap64_of (by omega) (by omega)
                go_wp2_with fail
                go_roundw
                case rel => exact ⟨k + 1, by omega, by go_num, ⟨u + j, by go_num, HNX⟩, Lib.hid (HD.out.trans (HE.out.mono HD.out.size))⟩
                case measure => simp [intOf]; omega
          · have g1 : ¬ ((k : Int) = (f : Int)) := by omega
            have g2 : ¬ ((k : Int) < (f : Int)) := by omega
            clear hfz hff hfl hkf
            go_wp2_with fail
            clear ck sk
            have HE0 := Lib.hid (Below.refl x1.heap.size x1)
            go_loopw [238] (fun i wr => ∃ j : Nat, j ≤ L ∧ i = .int .i64 (j : Int) ∧ Hid (Below x1.heap.size x1 wr)) (fun i _ => L - (intOf i).toNat)
            case atStart => exact ⟨0, Nat.zero_le _, rfl, HE0⟩
            case round =>
              clear HE0
              obtain ⟨j, hj, rfl, HE⟩ := hrel
              by_cases hjt : j < L
              · have hjz : (j : Int) < (L : Int) := by omega
                have hjz0 : (0 : Int) ≤ (j : Int) := Int.natCast_nonneg _
                have hol : os'.length = nc := by rw [HOS.out.len, keysP_len]; exact HN.out.symm
                have o1 := (HR.out.kept (HD.out.trans (HE.out.mono HD.out.size))).at (show u + j < nc by omega)
                rw [natI_at (by omega), HAT.out j hjt] at o1
                rcases HLF.out with hlf | ⟨g, rfl, _, _⟩
                · have : (natI (inCell (keysP a b ts) k)).length = 0 := by rw [hlf]; rfl
                  rw [natI_len, HL.out] at this; omega
                have hio := HIO.out.kept HE.out
                rw [natI_len, HL.out] at hio
                have l1 := hio.at (j := j) (by rw [natI_len, HL.out]; exact hjt)
                rw [natI_at (by rw [HL.out]; exact hjt)] at l1
                have hw1 : IntKind.i64.wrap ((u : Int) + (j : Int)) = (u : Int) + (j : Int) := by rw [IntKind.wrap_i64]; omega
                have hw2 : (u : Int) + (j : Int) < (nc : Int) := by omega
                have hw3 : (0 : Int) ≤ (u : Int) + (j : Int) := by omega
                have hw4 : ((u : Int) + (j : Int)).toNat = u + j := by omega
                clear hol hio
                generalize (inCell (keysP a b ts) k).getD j 0 = y at o1 l1
                go_wp2_with fail
                go_quiet (fail)
                go_wp2_with fail
                go_roundw
                case rel => exact ⟨j + 1, by omega, by go_num, Lib.hid (below_drewN HE.out _)⟩
                case measure => simp [intOf]; omega
              · obtain rfl : j = L := by omega
                clear hjt
                have ck := HCK.out _ (HD.out.trans (HE.out.mono HD.out.size))
                have hwu : wrap64 ((u : Int) + (j : Int)) = (u : Int) + (j : Int) := wrap64_of (by omega) (by omega)
                go_wp2_with fail
                go_roundw
                case rel => exact ⟨k + 1, by omega, by go_num, ⟨u + j, by go_num, HNX⟩, Lib.hid (HD.out.trans (HE.out.mono HD.out.size))⟩
                case measure => simp [intOf]; omega
        · obtain rfl : k = nf := by omega
          clear hlt
          obtain ⟨e0, e1, e2, e3, e4⟩ := five_cells (box_kept HX.out HD.out)
          have hu : u = nc := by
            rw [HU.out, ← HBL.out, HOS.out.len, keysP_len]; exact HN.out.symm
          subst hu
          go_wp2_with fail
          go_ret
          exact ⟨rfl, HB.out.trans (HD.out.mono HB.out.size)⟩
/-! ### from the walk to the statement -/
theorem own : ownKnob Try.prog.godebug = none := by kernel_rfl
theorem laidOut : laidOutB Try.prog = true := by kernel_rfl
set_option maxRecDepth 100000 in
theorem lifted (os : Os) (started : os.Started) (H : Type) (enc : TypeId × Value → H) :
    ReturnsInHanded {} Try.checked os 5 .any (Rows.fnSortedSpec.pre6 enc Try.prog Try.f5 Rows.fnSortedRow.domain false) (Rows.fnSortedSpec.post enc Try.prog Try.f5 false true false false) := by
  refine returnsInHanded_of_change (C := Try.checked) own started (by kernel_rfl) Try.func5
    (ChangeSpec.witness6 (enc := enc) (C := Try.checked) false ⟨#[], #[.slice none 0 0, .slice none 0 0], []⟩ 8 (by kernel_rfl) (by kernel_rfl) (by kernel_rfl) (by kernel_rfl)) ?_
  intro W base args ds gs before hval0 hW hcnd _
  have hval : ∀ (j : Nat) t v, Try.f5.params[j]? = some t → args[j]? = some v → Value.okWide Try.prog W .any base t v := hval0
  have hW' := hW
  obtain ⟨p, q, hA0, hV, rfl, hfz, hnd⟩ := hW
  have hA : DataW.TrodAll enc Try.prog W 0 (fun _ => true) true Try.f5.params.toList args.toList ds p := hA0
  rw [Try.params5] at hA hval
  obtain ⟨v0, vs0, d0, ds0, p0, q0, hargs, rfl, rfl, h0, r0⟩ := trodAll_cons hA
  obtain ⟨v1, vs1, d1, ds1, p1, q1, rfl, rfl, rfl, h1, r1⟩ := trodAll_cons r0
  obtain ⟨rfl, rfl, rfl⟩ := trodAll_nil r1
  obtain rfl : args = #[v0, v1] := by cases args; simp_all
  obtain ⟨rfl, rfl⟩ := trodVars_none hV
  obtain ⟨a0, len0, cap0, rfl⟩ := okWide_slice Try.underlying22 (hval 0 22 v0 rfl rfl)
  have k0 := h0
  have lt0 : ∀ x ∈ p0, x.block < W.heap.size := by obtain ⟨m, hm⟩ := k0; exact DataW.trod_lt m _ _ _ hm
  obtain ⟨z0, w0⟩ : ∃ zs, Nl.NS .u8 W (.slice a0 len0 cap0) zs := Nl.open_nums Try.underlying22 Try.underlying5 (by kernel_rfl) h0
  obtain ⟨a1, len1, cap1, rfl⟩ := okWide_slice Try.underlying22 (hval 1 22 v1 rfl rfl)
  have k1 := h1
  have lt1 : ∀ x ∈ p1, x.block < W.heap.size := by obtain ⟨m, hm⟩ := k1; exact DataW.trod_lt m _ _ _ hm
  obtain ⟨z1, w1⟩ : ∃ zs, Nl.NS .u8 W (.slice a1 len1 cap1) zs := Nl.open_nums Try.underlying22 Try.underlying5 (by kernel_rfl) h1
  clear hA0 hval0
  refine (walk a0 len0 cap0 z0 a1 len1 cap1 z1 W w0 w1).mono fun e W' ⟨he, bel⟩ => ?_
  subst he
  exact ⟨_, rfl, _, _, _, [], _, [], hW', trodAll_mk1 (shut_bool Try.underlying4 _), (trodAll_cons_mk (Below.trod laidOut (by kernel_rfl) (of_decide_eq_true (by kernel_rfl)) k0 bel lt0) (trodAll_cons_mk (Below.trod laidOut (by kernel_rfl) (of_decide_eq_true (by kernel_rfl)) k1 bel lt1) trodAll_mk0)), rfl, bel.frame _, fun h => by cases h⟩

theorem over : Rows.fnSortedRow.holds Try.pinned (OpenSpec.ofChange Rows.fnSortedSpec) :=
  OpenClaim.holds_of_wide 5 Try.f5 rfl rfl rfl rfl rfl rfl rfl ⟨rfl, rfl, rfl, rfl, rfl⟩ rfl rfl rfl rfl rfl (by kernel_rfl) Try.func5 (by kernel_rfl)
    (of_decide_eq_true (by kernel_rfl)) (by unfold Func.isWrapper; first | (rw [if_pos (by decide +kernel)]; kernel_rfl) | (rw [if_neg (by decide +kernel)]; exact ⟨rfl, rfl⟩))
    (fun os started H enc _ => lifted os started H enc)

/-- The statement. -/
theorem proved : Rows.FnSortedSaid := over
#print axioms proved
end Go.Proofs.Ytnknhfhllifnhaa.fnSorted
