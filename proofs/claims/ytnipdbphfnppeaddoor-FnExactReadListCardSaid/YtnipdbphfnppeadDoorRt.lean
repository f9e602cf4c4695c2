/-
  ReadList: the program's function.
-/
import Derived.Test.YtnipdbphfnppeadDoorNums
import Derived.Test.YtnipdbphfnppeadDoorDecL
namespace Go.Proofs.YtnipdbphfnppeadDoor
open Go.RowKit Go.Dec

theorem lays_on {w w' : World} (h : Lays w) (hb : Below w.heap.size w w') : Lays w' := by
  have hlt : ∀ (n : String) (g : Nat) (cs : Array Value), Tryd.prog.globalNamed n = some g → w.var? Tryd.prog n = some cs → w'.var? Tryd.prog n = some cs := by
    intro n g cs hg hv
    have hlt : g < w.heap.size := by
      rcases Nat.lt_or_ge g w.heap.size with h' | h'
      · exact h'
      · unfold World.var? at hv
        simp [hg, Array.getElem?_eq_none h'] at hv
    unfold World.var? at hv ⊢
    rw [hg] at hv ⊢
    simpa [hb.block g hlt] using hv
  obtain ⟨t1, p1, v1⟩ := h.syn
  obtain ⟨t2, p2, v2⟩ := h.rng
  exact ⟨pow_tab h.tab hb, ⟨t1, p1, hlt _ _ _ gSyn v1⟩, ⟨t2, p2, hlt _ _ _ gRng v2⟩⟩

theorem part_le : ∀ (l : List UInt8) (p : List UInt8), p ∈ cutL l → p.length ≤ l.length
  | [], p, h => by simp [cutL] at h; simp [h]
  | c :: l, p, h => by
    have ih := part_le l
    unfold cutL at h
    by_cases hc : c = 44
    · rw [if_pos hc] at h
      rcases List.mem_cons.1 h with h | h
      · simp [h]
      · have := ih p h; simp; omega
    · rw [if_neg hc] at h
      cases hl : cutL l with
      | nil => exact absurd hl (cutL_ne l)
      | cons q qs =>
        rw [hl] at h ih
        rcases List.mem_cons.1 h with h | h
        · have := ih q (List.mem_cons_self ..); simp [h]; omega
        · have := ih p (List.mem_cons_of_mem _ h); simp; omega

theorem countB_cut (s : ByteArray) : Lib.countB s ⟨#[44]⟩ + 1 = (cutL s.data.toList).length := by
  rw [cut_length, ← Lib.count_one]

theorem row_kept {w w' : World} {B e n g : Nat} {v : Value} {xs : List Value} (h : w.ownsRow B e g v n xs) (hb : Below w.heap.size w w') : w'.ownsRow B e g v n xs :=
  h.kept (grown_none hb) (by cases v.ownBlock with | none => exact .inl rfl | some k => exact .inr (by simp))

theorem row_mono {w : World} {B B' e n g : Nat} {v : Value} {xs : List Value} (h : w.ownsRow B e g v n xs) (hb : B' ≤ B) : w.ownsRow B' e g v n xs :=
  ⟨h.1, h.2.imp_right fun ⟨b, cap, cur, hv, hB, rest⟩ => ⟨b, cap, cur, hv, Nat.le_trans hb hB, rest⟩⟩

theorem iSplit_any (s : ByteArray) (w : World) (hs : s.size ≤ 1048576) (m : Int) (hm : w.cell? ⟨0, 0, none⟩ = some (.int .i64 m)) : Calls Tryd.prog 28 #[.string s, .string ⟨#[44]⟩] w fun e w' =>
    (∃ ps : List ByteArray, e = .returned (.slice (some ⟨w.heap.size, 0, none⟩) ps.length ps.length) ∧ ps.map (·.data.toList) = cutL s.data.toList ∧ w.heap.size < w'.heap.size ∧ ∀ k p, ps[k]? = some p → w'.cell? ⟨w.heap.size, k, none⟩ = some (.string p)) ∧ Below w.heap.size w w' := by
  refine (Tryd.strings_Split s ⟨#[44]⟩ m w (by omega) hm (Nat.le_refl _)).mono ?_
  rintro e w' ⟨rfl, rfl⟩
  have hcut := splitB_cut s
  have hl : (Lib.splitB ⟨#[44]⟩ 0 (Lib.countB s ⟨#[44]⟩) s).length = Lib.countB s ⟨#[44]⟩ + 1 := by
    rw [countB_cut, ← hcut, List.length_map]
  refine ⟨⟨_, by rw [hl], hcut, by simp, ?_⟩, (Below.refl _ _).alloc (Nat.le_refl _) _⟩
  intro k p hk
  generalize Lib.splitB ⟨#[44]⟩ 0 (Lib.countB s ⟨#[44]⟩) s = ps at hk
  have h := heap_alloc_new w (.cells (ps.map Value.string).toArray 9)
  simp only [World.cell?, h]
  simp [hk]

set_option maxHeartbeats 2000000 in
set_option maxRecDepth 100000 in
theorem iTexts_any (s : ByteArray) (w : World) (hs : s.size ≤ 1048576) (hv : Lays w) (m : Int) (hm : w.cell? ⟨0, 0, none⟩ = some (.int .i64 m)) :
    Calls Tryd.prog 19 #[.string s, .int .i64 64, .func (.func 20) #[] #[]] w fun e w' => RdOut w.heap.size s.data.toList e w' ∧ Below w.heap.size w w' := by
  obtain ⟨i0, hi, hz0, hz1, hz2⟩ := info_parts Iinfo
  by_cases h0 : s.data.toList = [110, 111, 110, 101]
  · have hb : (s.toList == [110, 111, 110, 101]) = true := by rw [none_eq]; exact decide_eq_true h0
    have H0 := Lib.hid h0
    clear h0 hm
    go_enter Tryd.func19, Tryd.ntmps19
    go_wp2_with fail
    go_ret2
    exact ⟨.inl ⟨[], _, by rw [H0.out]; exact readL_empty, rfl, ⟨by simp, .inl ⟨rfl, rfl⟩⟩⟩, Below.refl _ _⟩
  · have hb : (s.toList == [110, 111, 110, 101]) = false := by rw [none_eq]; exact decide_eq_false h0
    have H0 := Lib.hid h0
    have hcl := cut_length s.data.toList
    obtain ⟨c, hc⟩ : ∃ c, Lib.countByte s.data.toList 44 = c := ⟨_, rfl⟩
    have hcc : s.data.toList.count 44 = c := hc
    rw [hcc] at hcl
    clear h0 hcc
    by_cases hlong : 64 ≤ c
    · have HN := Lib.hid (show readL s.data.toList = none by unfold readL; rw [if_neg H0.out, if_pos (by omega)])
      have hd : decide ((64 : Int) ≤ (c : Int)) = true := decide_eq_true (by omega)
      clear hcl hlong hm
      go_enter Tryd.func19, Tryd.ntmps19
      go_wp2_with (go_at_call 27; refine (Tryd.strings_Count_one s 44 _).mono ?_; rw [hc]; rintro e w1 ⟨rfl, rfl⟩)
      go_ret2
      exact ⟨.inr ⟨HN.out, rfl⟩, Below.refl _ _⟩
    · have hd : decide ((64 : Int) ≤ (c : Int)) = false := decide_eq_false (by omega)
      have h64 : (cutL s.data.toList).length ≤ 64 := by omega
      clear hcl hlong
      have HM := Lib.hid hm
      have HC := Lib.hid hc
      have HV := Lib.hid hv
      clear hm hc hv
      go_enter Tryd.func19, Tryd.ntmps19
      go_wp2_with (first | (go_at_call 27; refine (Tryd.strings_Count_one s 44 _).mono ?_; rw [HC.out]; rintro e w1 ⟨rfl, rfl⟩) | (go_at_call 28; refine (iSplit_any s _ hs m HM.out).mono ?_; rintro e w2 ⟨⟨ps, rfl, hcut, hsz, hcells⟩, b1⟩; refine Hid.out ?_))
      refine Lib.hid ?_
      have hpl := cut_len ps hcut
      have hn64 : ps.length ≤ 64 := by omega
      have HCUT := Lib.hid hcut
      have HCE := Lib.hid hcells
      have hv0 : ROwn w2.heap.size w2 (.slice none 0 0) [] := ⟨by simp, .inl ⟨rfl, rfl⟩⟩
      have HB1 := Lib.hid b1
      have hwb : w1.heap.size < w2.heap.size := hsz
      clear hcut hcells b1 h64 hd hpl hsz
      go_wp2_with fail
      go_loopw [8, 22] (fun v i wr => ∃ (k : Nat) (xs : List Int), i = .int .i64 (k : Int) ∧ k ≤ ps.length ∧ Hid (xs = (ps.take k).map valP) ∧ Hid ((ps.take k).all okP = true) ∧ Hid (xs.length = k ∧ wr.ownsRow w2.heap.size 2 1 v k (xs.map (Value.int .i64))) ∧ Below w2.heap.size w2 wr) (fun _ i _ => ps.length - (intOf i).toNat)
      case atStart => exact ⟨0, [], rfl, Nat.zero_le _, Lib.hid rfl, Lib.hid rfl, Lib.hid ⟨rfl, hv0⟩, Below.refl _ _⟩
      case round =>
        obtain ⟨k, xs, rfl, hk, HX, HA, HO, hbw⟩ := hrel
        have hBs := hbw.size
        have HBW := Lib.hid (HB1.out.trans (hbw.mono (Nat.le_of_lt hwb)))
        by_cases hlt : k < ps.length
        · obtain ⟨p, hp⟩ : ∃ p, ps[k]? = some p := ⟨ps[k], List.getElem?_eq_getElem hlt⟩
          have hcell : wr.cell? ⟨w1.heap.size, k, none⟩ = some (.string p) := by
            rw [hbw.cell (p := ⟨w1.heap.size, k, none⟩) hwb]; exact HCE.out k p hp
          have HK := Lib.hid hp
          have hps : p.size ≤ 1048576 := by
            have h1 : p.data.toList ∈ cutL s.data.toList := by rw [← HCUT.out]; exact List.mem_map_of_mem (List.mem_of_getElem? hp)
            have h2 := part_le _ _ h1
            simp at h2; omega
          clear hp
          have HVW := Lib.hid (lays_on HV.out HBW.out)
          have HBB := Lib.hid hbw
          by_cases hok : okP p = true
          · have HOK := Lib.hid hok
            clear hok hbw
            go_wp2_with (go_at_call 20; refine (iRead_yes p hps HOK.out _ HVW.out).mono ?_; rintro e w3 ⟨rfl, b2⟩; refine Hid.out ?_)
            refine Lib.hid ?_
            have HO2 := Lib.hid (row_kept HO.out.2 b2)
            have HB2 := Lib.hid (HBB.out.trans (b2.mono hBs))
            have hB2s := HB2.out.size
            clear hcell b2
            have hvb : -9223372036854775808 ≤ valP p ∧ valP p ≤ 9223372036854775807 := by
              obtain ⟨_, _, h3, h4, _⟩ := readB_true HOK.out
              unfold valP; omega
            have HV2 := Lib.hid (val_take ps k p HK.out)
            have HA2 := Lib.hid (okP_take ps k p HK.out HA.out HOK.out)
            rw [show valD p.data.toList = valP p from rfl]
            generalize valP p = y at hvb HV2 ⊢
            go_wp2_with (at_builtin; refine wpList_append_own _ rfl _ _ 22 rfl w2.heap.size 2 i0 (.int .i64 0) 1 8 Tryd.underlying22 hi hz0 hz1 hz2 rfl (by decide) _ _ _ rfl (World.ownsRow.alloc HO2.out _) ⟨w3.heap.size, 0, none⟩ 1 1 [Value.int .i64 y] rfl rfl (by intro j u' hj; match j, hj with | 0, hj => simp at hj; subst hj; simp [Addr.add]) (by intro u' hu'; simp at hu'; subst hu'; rfl) (by unfold maxLen; omega) (by omega) (by simp; omega) ?_)
            intro v' w' hown' hgrow hnil
            have hB' := Lib.hid ((HB2.out.alloc hB2s _).grown hgrow (by simp; omega) (fun k' hk' => (HO2.out.lt k' hk').1))
            have HO3 := Lib.hid hown'
            clear hown' hgrow hnil HO2
            go_wp2
            go_roundw
            case rel => exact ⟨k + 1, xs ++ [y], by go_num, by omega, Lib.hid (by rw [HV2.out, ← HX.out]), HA2, Lib.hid ⟨by have := HO.out.1; simp; omega, by simpa using HO3.out⟩, hB'.out⟩
            case measure => simp [intOf]; omega
          · have hok' : okP p = false := by simpa using hok
            have HOK := Lib.hid hok'
            have HN := Lib.hid (readL_none H0.out HCUT.out (.inr (okP_not ps k p HK.out hok')))
            clear hok hok' hbw
            go_wp2_with (go_at_call 20; refine (iRead_no p hps HOK.out _ HVW.out).mono ?_; rintro e w3 ⟨rfl, b2⟩; refine Hid.out ?_)
            refine Lib.hid ?_
            have HB2 := Lib.hid (HBW.out.trans (b2.mono HBW.out.size))
            go_wp2_with fail
            go_ret2
            exact ⟨.inr ⟨HN.out, rfl⟩, HB2.out⟩
        · obtain rfl : k = ps.length := by omega
          have HR := Lib.hid (readL_some H0.out HCUT.out hn64 (by have := HA.out; rwa [List.take_of_length_le (Nat.le_refl _)] at this))
          have HX2 := Lib.hid (show xs = ps.map valP by rw [HX.out, List.take_of_length_le (Nat.le_refl _)])
          have HO2 := Lib.hid (row_mono HO.out.2 (Nat.le_of_lt hwb))
          clear hbw
          go_wp2_with fail
          go_ret2
          exact ⟨.inl ⟨xs, _, by rw [HX2.out]; exact HR.out, rfl, by unfold ROwn; rw [HO.out.1]; exact HO2.out⟩, HBW.out⟩

theorem iReadList_any (s : ByteArray) (w : World) (hs : s.size ≤ 1048576) (hv : Lays w) (m : Int) (hm : w.cell? ⟨0, 0, none⟩ = some (.int .i64 m)) :
    Calls Tryd.prog 10 #[.string s] w fun e w' => RdOut w.heap.size s.data.toList e w' ∧ Below w.heap.size w w' := by
  go_enter Tryd.func10, Tryd.ntmps10
  go_wp2_with (go_at_call 19; refine (iTexts_any s _ hs hv m hm).mono ?_; rintro e w1 ⟨⟨xs, v, hx, rfl, ho⟩ | ⟨hx, rfl⟩, b1⟩)
  · go_wp2
    go_ret2
    exact ⟨.inl ⟨xs, v, hx, rfl, ho⟩, b1⟩
  · go_wp2
    go_ret2
    exact ⟨.inr ⟨hx, rfl⟩, b1⟩

theorem sReadList_any (s : ByteArray) (w : World) (hs : s.size ≤ 1048576) : Calls Tryd.prog 9 #[.string s] w fun e w' => RdOut w.heap.size s.data.toList e w' ∧ Below w.heap.size w w' := by
  go_enter Tryd.func9, Tryd.ntmps9
  go_wp2_with (go_at_call 18; refine (sNums_any s _ hs).mono ?_; rintro e w1 ⟨⟨xs, v, hx, rfl, ho⟩ | ⟨hx, rfl⟩, b1⟩)
  · go_wp2
    go_ret2
    exact ⟨.inl ⟨xs, v, hx, rfl, ho⟩, b1⟩
  · go_wp2
    go_ret2
    exact ⟨.inr ⟨hx, rfl⟩, b1⟩
end Go.Proofs.YtnipdbphfnppeadDoor
