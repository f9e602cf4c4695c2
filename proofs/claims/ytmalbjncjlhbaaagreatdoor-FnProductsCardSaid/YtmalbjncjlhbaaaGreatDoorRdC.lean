/-
  ReadComplex: contracts of the program's functions.
-/
import Derived.Test.YtmalbjncjlhbaaaGreatDoorRdCM
import Derived.Test.YtmalbjncjlhbaaaGreatDoorRdF
namespace Go.Proofs.YtmalbjncjlhbaaaGreatDoor
open Go.Fl Go.RowKit Go.Pu16 Go.Dec

def RdC (B : Nat) (l : List UInt8) (e : Ending) (w' : World) : Prop :=
  (∃ xs v, readC l = some xs ∧ e = .returned (.tuple #[v, .bool true]) ∧ COwn B w' v xs) ∨ (readC l = none ∧ e = .returned (.tuple #[.slice none 0 0, .bool false]))

theorem half_a (p : ByteArray) : okQ (p.extract 0 8) = okW (p.data.toList.take 8) ∧ valQ (p.extract 0 8) = valW (p.data.toList.take 8) := by
  unfold okQ valQ
  rw [ext_list]; exact ⟨rfl, rfl⟩
theorem half_b (p : ByteArray) (h : p.size = 16) : okQ (p.extract 8 16) = okW (p.data.toList.drop 8) ∧ valQ (p.extract 8 16) = valW (p.data.toList.drop 8) := by
  unfold okQ valQ
  rw [ext_list, List.take_of_length_le (by simp; omega)]; exact ⟨rfl, rfl⟩
theorem half_size (p : ByteArray) (a b : Nat) (h : p.size ≤ 1048576) : (p.extract a b).size ≤ 1048576 := by rw [ByteArray.size_extract]; omega

theorem iC_yes (p : ByteArray) (hs : p.size ≤ 1048576) (h : okR p = true) (w : World) (hv : LaysF w) :
    Calls Tryz.prog 68 #[.string p] w fun e w' => e = .returned (.tuple #[.complex .f32 (valR p).1 (valR p).2, .bool true]) ∧ Below w.heap.size w w' := by
  obtain ⟨h1, h2, h3⟩ := okV_facts h
  have h16 : p.size = 16 := by rw [Lib.size_eq]; exact h1
  have ha := half_a p
  have hb := half_b p h16
  have HA := Lib.hid (iNum_yes (p.extract 0 8) (half_size p 0 8 hs) (by rw [ha.1]; exact h2))
  have HB := Lib.hid (iNum_yes (p.extract 8 16) (half_size p 8 16 hs) (by rw [hb.1]; exact h3))
  have HV := Lib.hid hv
  have HE := Lib.hid (show valQ (p.extract 0 8) = (valR p).1 ∧ valQ (p.extract 8 16) = (valR p).2 from ⟨ha.2, hb.2⟩)
  have hde : ((p.size : Int) == 16) = true := by rw [h16]; rfl
  clear h h1 h2 h3 ha hb hv
  go_enter Tryz.func68, Tryz.ntmps68
  go_wp2_with fail
  refine (HA.out _ HV.out).mono ?_; rintro e w1 ⟨rfl, b1⟩
  have HV1 := Lib.hid (HV.out.on b1)
  go_wp2_with fail
  refine (HB.out _ HV1.out).mono ?_; rintro e w2 ⟨rfl, b2⟩
  go_wp2_with fail
  go_ret2
  exact ⟨by rw [← HE.out.1, ← HE.out.2]; rfl, b1.trans (b2.mono b1.size)⟩

theorem iC_no (p : ByteArray) (hs : p.size ≤ 1048576) (h : okR p = false) (w : World) (hv : LaysF w) :
    Calls Tryz.prog 68 #[.string p] w fun e w' => (∃ u v, e = .returned (.tuple #[.complex .f32 u v, .bool false])) ∧ Below w.heap.size w w' := by
  by_cases h16 : p.size = 16
  · have ha := half_a p
    have hb := half_b p h16
    have hl : p.data.toList.length = 16 := by rw [← Lib.size_eq]; exact h16
    have hde : ((p.size : Int) == 16) = true := by rw [h16]; rfl
    have HV := Lib.hid hv
    by_cases h2 : okW (p.data.toList.take 8) = true
    · have h3 : okW (p.data.toList.drop 8) = false := by
        unfold okR okV at h
        rw [h2, decide_eq_true hl] at h
        simpa using h
      have HA := Lib.hid (iNum_yes (p.extract 0 8) (half_size p 0 8 hs) (by rw [ha.1]; exact h2))
      have HB := Lib.hid (iNum_no (p.extract 8 16) (half_size p 8 16 hs) (by rw [hb.1]; exact h3))
      clear h h2 h3 ha hb hl hv
      go_enter Tryz.func68, Tryz.ntmps68
      go_wp2_with fail
      refine (HA.out _ HV.out).mono ?_; rintro e w1 ⟨rfl, b1⟩
      have HV1 := Lib.hid (HV.out.on b1)
      go_wp2_with fail
      refine (HB.out _ HV1.out).mono ?_; rintro e w2 ⟨⟨u, rfl⟩, b2⟩
      go_wp2_with fail
      go_ret2
      exact ⟨⟨_, _, rfl⟩, b1.trans (b2.mono b1.size)⟩
    · have h2' : okW (p.data.toList.take 8) = false := by simpa using h2
      have HA := Lib.hid (iNum_no (p.extract 0 8) (half_size p 0 8 hs) (by rw [ha.1]; exact h2'))
      have HB := Lib.hid (fun w (hw : LaysF w) => (show Calls Tryz.prog 51 #[.string (p.extract 8 16)] w fun e w' => (∃ u b, e = .returned (.tuple #[.float .f32 u, .bool b])) ∧ Below w.heap.size w w' from by
        by_cases h4 : okQ (p.extract 8 16) = true
        · exact (iNum_yes _ (half_size p 8 16 hs) h4 w hw).mono fun e w' ⟨he, hb⟩ => ⟨⟨_, _, he⟩, hb⟩
        · exact (iNum_no _ (half_size p 8 16 hs) (by simpa using h4) w hw).mono fun e w' ⟨⟨u, he⟩, hb⟩ => ⟨⟨u, _, he⟩, hb⟩))
      clear h h2 h2' ha hb hl hv
      go_enter Tryz.func68, Tryz.ntmps68
      go_wp2_with fail
      refine (HA.out _ HV.out).mono ?_; rintro e w1 ⟨⟨u, rfl⟩, b1⟩
      have HV1 := Lib.hid (HV.out.on b1)
      go_wp2_with fail
      refine (HB.out _ HV1.out).mono ?_; rintro e w2 ⟨⟨u2, bb, rfl⟩, b2⟩
      go_wp2_with fail
      go_ret2
      exact ⟨⟨_, _, rfl⟩, b1.trans (b2.mono b1.size)⟩
  · have hde : ((p.size : Int) == 16) = false := by simp; omega
    clear h h16 hv
    go_enter Tryz.func68, Tryz.ntmps68
    go_wp2_with fail
    go_ret2
    exact ⟨⟨_, _, rfl⟩, Below.refl _ _⟩

set_option maxHeartbeats 2000000 in
set_option maxRecDepth 100000 in
theorem iTextsC_any (s : ByteArray) (w : World) (hs : s.size ≤ 1048576) (hv : LaysF w) (m : Int) (hm : w.cell? ⟨1, 0, none⟩ = some (.int .i64 m)) :
    Calls Tryz.prog 67 #[.string s, .int .i64 256, .func (.func 68) #[] #[]] w fun e w' => RdC w.heap.size s.data.toList e w' ∧ Below w.heap.size w w' := by
  obtain ⟨i0, hi, hz0, hz1, hz2⟩ := info_parts C32info
  by_cases h0 : s.data.toList = [110, 111, 110, 101]
  · have hb : (s.toList == [110, 111, 110, 101]) = true := by rw [none_eq]; exact decide_eq_true h0
    have H0 := Lib.hid h0
    clear h0 hm
    go_enter Tryz.func67, Tryz.ntmps67
    go_wp2_with fail
    go_ret2
    exact ⟨.inl ⟨[], _, by rw [H0.out]; exact readC_empty, rfl, ⟨by simp, .inl ⟨rfl, rfl⟩⟩⟩, Below.refl _ _⟩
  · have hb : (s.toList == [110, 111, 110, 101]) = false := by rw [none_eq]; exact decide_eq_false h0
    have H0 := Lib.hid h0
    have hcl := cut_length s.data.toList
    obtain ⟨c, hc⟩ : ∃ c, Lib.countByte s.data.toList 44 = c := ⟨_, rfl⟩
    have hcc : s.data.toList.count 44 = c := hc
    rw [hcc] at hcl
    clear h0 hcc
    by_cases hlong : 256 ≤ c
    · have HN := Lib.hid (show readC s.data.toList = none by unfold readC; rw [if_neg H0.out, if_pos (by omega)])
      have hd : decide ((256 : Int) ≤ (c : Int)) = true := decide_eq_true (by omega)
      clear hcl hlong hm
      go_enter Tryz.func67, Tryz.ntmps67
      go_wp2_with (go_at_call 82; refine (Tryz.strings_Count_one s 44 _).mono ?_; rw [hc]; rintro e w1 ⟨rfl, rfl⟩)
      go_ret2
      exact ⟨.inr ⟨HN.out, rfl⟩, Below.refl _ _⟩
    · have hd : decide ((256 : Int) ≤ (c : Int)) = false := decide_eq_false (by omega)
      have h64 : (cutL s.data.toList).length ≤ 256 := by omega
      clear hcl hlong
      have HM := Lib.hid hm
      have HC := Lib.hid hc
      have HV := Lib.hid hv
      clear hm hc hv
      go_enter Tryz.func67, Tryz.ntmps67
      go_wp2_with (first | (go_at_call 82; refine (Tryz.strings_Count_one s 44 _).mono ?_; rw [HC.out]; rintro e w1 ⟨rfl, rfl⟩) | (go_at_call 83; refine (iSplit_any s _ hs m HM.out).mono ?_; rintro e w2 ⟨⟨ps, rfl, hcut, hsz, hcells⟩, b1⟩; refine Hid.out ?_))
      refine Lib.hid ?_
      have hpl := cut_len ps hcut
      have hn64 : ps.length ≤ 256 := by omega
      have HCUT := Lib.hid hcut
      have HCE := Lib.hid hcells
      have hv0 : COwn w2.heap.size w2 (.slice none 0 0) [] := ⟨by simp, .inl ⟨rfl, rfl⟩⟩
      have HB1 := Lib.hid b1
      have hwb : w1.heap.size < w2.heap.size := hsz
      clear hcut hcells b1 h64 hd hpl hsz
      go_wp2_with fail
      go_loopw [8, 22] (fun v i wr => ∃ (k : Nat) (xs : List (Nat × Nat)), i = .int .i64 (k : Int) ∧ k ≤ ps.length ∧ Hid (xs = (ps.take k).map valR) ∧ Hid ((ps.take k).all okR = true) ∧ Hid (xs.length = k ∧ wr.ownsRow w2.heap.size 42 1 v k (xs.map cV)) ∧ Below w2.heap.size w2 wr) (fun _ i _ => ps.length - (intOf i).toNat)
      case atStart => exact ⟨0, [], rfl, Nat.zero_le _, Lib.hid rfl, Lib.hid rfl, Lib.hid ⟨rfl, hv0⟩, Below.refl _ _⟩
      case round =>
        obtain ⟨k, xs, rfl, hk, HX, HA, HO, hbw⟩ := hrel
        have hBs := hbw.size
        have HBW := Lib.hid (HB1.out.trans (hbw.mono (Nat.le_of_lt hwb)))
        by_cases hlt : k < ps.length
        · obtain ⟨p, hp⟩ : ∃ p, ps[k]? = some p := ⟨ps[k], List.getElem?_eq_getElem hlt⟩
          have hcell : wr.cell? ⟨w1.heap.size, k, none⟩ = some (.string p) := by
            rw [hbw.cell (p := ⟨w1.heap.size, k, none⟩) hwb]; exact HCE.out k p hp
          have HK := Lib.hid hp
          have hps : p.size ≤ 1048576 := by
            have h1 : p.data.toList ∈ cutL s.data.toList := by rw [← HCUT.out]; exact List.mem_map_of_mem (List.mem_of_getElem? hp)
            have h2 := part_le _ _ h1
            simp at h2; omega
          clear hp
          have HVW := Lib.hid (HV.out.on HBW.out)
          have HBB := Lib.hid hbw
          by_cases hok : okR p = true
          · have HOK := Lib.hid hok
            clear hok hbw
            go_wp2_with (go_at_call 68; refine (iC_yes p hps HOK.out _ HVW.out).mono ?_; rintro e w3 ⟨rfl, b2⟩; refine Hid.out ?_)
            refine Lib.hid ?_
            have HO2 := Lib.hid (row_kept HO.out.2 b2)
            have HB2 := Lib.hid (HBB.out.trans (b2.mono hBs))
            have hB2s := HB2.out.size
            clear hcell b2
            have HV2 := Lib.hid (valR_take ps k p HK.out)
            have HA2 := Lib.hid (okR_take ps k p HK.out HA.out HOK.out)
            generalize valR p = y at HV2 ⊢
            go_wp2_with (at_builtin; refine wpList_append_own _ rfl _ _ 45 rfl w2.heap.size 42 i0 (.complex .f32 0 0) 1 8 Tryz.underlying45 hi hz0 hz1 hz2 rfl (by decide) _ _ _ rfl (World.ownsRow.alloc HO2.out _) ⟨w3.heap.size, 0, none⟩ 1 1 [Value.complex .f32 y.1 y.2] rfl rfl (by intro j u' hj; match j, hj with | 0, hj => simp at hj; subst hj; simp [Addr.add]) (by intro u' hu'; simp at hu'; subst hu'; rfl) (by unfold maxLen; omega) (by omega) (by simp; omega) ?_)
            intro v' w' hown' hgrow hnil
            have hB' := Lib.hid ((HB2.out.alloc hB2s _).grown hgrow (by simp; omega) (fun k' hk' => (HO2.out.lt k' hk').1))
            have HO3 := Lib.hid hown'
            clear hown' hgrow hnil HO2
            go_wp2
            go_roundw
            case rel => exact ⟨k + 1, xs ++ [y], by go_num, by omega, Lib.hid (by rw [HV2.out, ← HX.out]), HA2, Lib.hid ⟨by have := HO.out.1; simp; omega, by simpa [cV] using HO3.out⟩, hB'.out⟩
            case measure => simp [intOf]; omega
          · have hok' : okR p = false := by simpa using hok
            have HOK := Lib.hid hok'
            have HN := Lib.hid (readC_none H0.out HCUT.out (.inr (okR_not ps k p HK.out hok')))
            clear hok hok' hbw
            go_wp2_with (go_at_call 68; refine (iC_no p hps HOK.out _ HVW.out).mono ?_; rintro e w3 ⟨⟨uu, ux, rfl⟩, b2⟩; refine Hid.out ?_)
            refine Lib.hid ?_
            have HB2 := Lib.hid (HBW.out.trans (b2.mono HBW.out.size))
            go_wp2_with fail
            go_ret2
            exact ⟨.inr ⟨HN.out, rfl⟩, HB2.out⟩
        · obtain rfl : k = ps.length := by omega
          have HR := Lib.hid (readC_some H0.out HCUT.out hn64 (by have := HA.out; rwa [List.take_of_length_le (Nat.le_refl _)] at this))
          have HX2 := Lib.hid (show xs = ps.map valR by rw [HX.out, List.take_of_length_le (Nat.le_refl _)])
          have HO2 := Lib.hid (row_mono HO.out.2 (Nat.le_of_lt hwb))
          clear hbw
          go_wp2_with fail
          go_ret2
          exact ⟨.inl ⟨xs, _, by rw [HX2.out]; exact HR.out, rfl, by unfold COwn; rw [HO.out.1]; exact HO2.out⟩, HBW.out⟩

theorem iReadComplex_any (s : ByteArray) (w : World) (hs : s.size ≤ 1048576) (hv : LaysF w) (m : Int) (hm : w.cell? ⟨1, 0, none⟩ = some (.int .i64 m)) :
    Calls Tryz.prog 31 #[.string s] w fun e w' => RdC w.heap.size s.data.toList e w' ∧ Below w.heap.size w w' := by
  go_enter Tryz.func31, Tryz.ntmps31
  go_wp2_with (go_at_call 67; refine (iTextsC_any s _ hs hv m hm).mono ?_; rintro e w1 ⟨⟨xs, v, hx, rfl, ho⟩ | ⟨hx, rfl⟩, b1⟩)
  · go_wp2
    go_ret2
    exact ⟨.inl ⟨xs, v, hx, rfl, ho⟩, b1⟩
  · go_wp2
    go_ret2
    exact ⟨.inr ⟨hx, rfl⟩, b1⟩
end Go.Proofs.YtmalbjncjlhbaaaGreatDoor
