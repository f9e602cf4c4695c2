/-
  ReadNumbers: the model's function.
-/
import Derived.Test.YtnimmmcpdicajaaDoorRdF
import Derived.Lib.SmallJoins
namespace Go.Proofs.YtnimmmcpdicajaaDoor
open Go.Fl Go.RowKit Go.Pu16 Go.Dec

theorem take_snoc (s : ByteArray) (k : Nat) (h : k < s.size) : s.data.toList.take (k + 1) = s.data.toList.take k ++ [s[k]] := by
  rw [List.take_succ_eq_append_getElem (by simpa using h)]; rfl
theorem own_ne {w : World} {B B' e1 e2 g g' n n' c c' : Nat} {xs ys : List Value} (he : e1 ≠ e2) (h1 : w.ownsRow B e1 1 (.slice (some ⟨g, 0, none⟩) n c) n xs) (h2 : w.ownsRow B' e2 1 (.slice (some ⟨g', 0, none⟩) n' c') n' ys) : g ≠ g' := by
  intro e
  subst e
  rcases h1.2 with ⟨h, _⟩ | ⟨a, _, cur, ha, _, hh, _⟩
  · cases h
  · rcases h2.2 with ⟨h, _⟩ | ⟨b, _, cur', hb, _, hh', _⟩
    · cases h
    · cases ha; cases hb
      rw [hh] at hh'
      cases hh'
      exact he rfl

theorem low_take {l : List UInt8} {k : Nat} (h : l.all isLow = true) : (l.take k).all isLow = true := by
  rw [List.all_eq_true] at h ⊢
  exact fun x hx => h x (List.mem_of_mem_take hx)
theorem okQ_size {p : ByteArray} (h : p.size ≠ 8) : okQ p = false := by
  unfold okQ okW
  have := Lib.size_eq p
  rw [decide_eq_false (by omega)]
  rfl
theorem okQ_char {p : ByteArray} {k : Nat} (hk : k < p.size) (h : lowN (p[k]).toNat = false) : okQ p = false := by
  rw [Bool.eq_false_iff]
  intro e
  have h2 := (okW_facts e).2.1
  rw [List.all_eq_true] at h2
  have h3 := h2 p[k] (by rw [show p[k] = p.data.toList[k]'(by simpa using hk) from rfl]; exact List.getElem_mem _)
  unfold isLow at h3
  rw [h] at h3
  cases h3

set_option maxHeartbeats 4000000 in
set_option maxRecDepth 100000 in
theorem sNRead_any (s : ByteArray) (w : World) (hs : s.size ≤ 1048576) : Calls Tryd.prog 15 #[.string s] w fun e w' => RdN w.heap.size s.data.toList e w' ∧ Below w.heap.size w w' := by
  obtain ⟨i0, hi, hz0, hz1, hz2⟩ := info_parts F32info
  by_cases h0 : s.data.toList = [110, 111, 110, 101]
  · have hb : (s.toList == [110, 111, 110, 101]) = true := by rw [none_eq]; exact decide_eq_true h0
    have H0 := Lib.hid h0
    clear h0
    go_enter Tryd.func15, Tryd.ntmps15
    go_wp2_with fail
    go_ret2
    exact ⟨.inl ⟨[], _, by rw [H0.out]; exact readN_empty, rfl, own_start _ _ (Nat.le_refl _)⟩, (Below.refl _ _).alloc (Nat.le_refl _) _⟩
  · have hb : (s.toList == [110, 111, 110, 101]) = false := by rw [none_eq]; exact decide_eq_false h0
    have H0 := Lib.hid h0
    clear h0
    have hown0 := own_start w.heap.size w (Nat.le_refl _)
    have hbel0 := (Below.refl w.heap.size w).alloc (Nat.le_refl _) (.cells #[] 34)
    have hsz0 : (w.alloc (.cells #[] 34)).heap.size = w.heap.size + 1 := by simp
    go_enter Tryd.func15, Tryd.ntmps15
    go_wp2_with fail
    generalize w.alloc (.cells #[] 34) = w0 at hown0 hbel0 hsz0 ⊢
    refine (sCut_any s _ hs).mono ?_; rintro e w1 ⟨⟨v, ps, rfl, ⟨gp, cp, rfl, hown⟩, hcut⟩, b1⟩
    have HB1 := Lib.hid (hbel0.trans (b1.mono hbel0.size))
    have HO0 := Lib.hid (row_kept hown0 b1)
    have HC := Lib.hid hcut
    have HO := Lib.hid hown
    clear hcut hown hown0 hbel0 b1
    by_cases hlong : 256 < ps.length
    · have hd : decide ((256 : Int) < (ps.length : Int)) = true := decide_eq_true (by omega)
      have HN := Lib.hid (readN_none H0.out HC.out (.inl hlong))
      clear hlong
      go_wp2_with fail
      go_ret2
      exact ⟨.inr ⟨HN.out, rfl⟩, HB1.out⟩
    · have hd : decide ((256 : Int) < (ps.length : Int)) = false := decide_eq_false (by omega)
      have h64 : ps.length ≤ 256 := by omega
      clear hlong
      go_wp2_with fail
      clear hd
      go_loopw [4, 6] (fun v i wr => ∃ (k : Nat) (xs : List Nat), i = .int .i64 (k : Int) ∧ k ≤ ps.length ∧ xs.length = k ∧ Hid (xs = (ps.take k).map valQ) ∧ Hid ((ps.take k).all okQ = true) ∧ (∃ g cap, v = .slice (some ⟨g, 0, none⟩) k cap ∧ Hid (wr.ownsRow w.heap.size 34 1 v k (xs.map (Value.float .f32)))) ∧ Hid (wr.ownsRow w0.heap.size 9 1 (.slice (some ⟨gp, 0, none⟩) ps.length cp) ps.length (ps.map Value.string)) ∧ Hid (Below w.heap.size w wr)) (fun _ i _ => ps.length - (intOf i).toNat)
      case atStart => exact ⟨0, [], rfl, Nat.zero_le _, rfl, Lib.hid rfl, Lib.hid rfl, ⟨_, _, rfl, HO0⟩, HO, HB1⟩
      case round =>
        clear HO0
        obtain ⟨k, xs, rfl, hk, hxl, HX, HA, ⟨g, cap, rfl, HW⟩, HP, HB⟩ := hrel
        have hBs := HB.out.size
        by_cases hlt : k < ps.length
        · obtain ⟨p, hp⟩ : ∃ p, ps[k]? = some p := ⟨ps[k], List.getElem?_eq_getElem hlt⟩
          have hcell : wr.cell? ⟨gp, k, none⟩ = some (.string p) := by
            rw [HP.out.cellAt k (by omega), List.getElem?_map, hp]; rfl
          have HK := Lib.hid hp
          clear hp
          by_cases h8 : p.size = 8
          · have hde : ((p.size : Int) == 8) = true := by rw [h8]; rfl
            have H8 := Lib.hid h8
            clear h8
            go_wp2_with fail
            clear hde
            go_loopw [7, 8] (fun n j wx => ∃ q : Nat, j = .int .i64 (q : Int) ∧ q ≤ 8 ∧ n = .int .i64 ((foldW 0 (p.data.toList.take q) : Nat) : Int) ∧ Hid ((p.data.toList.take q).all isLow = true) ∧ wx = wr) (fun _ j _ => (8 - intOf j).toNat)
            case atStart => exact ⟨0, rfl, by omega, rfl, Lib.hid rfl, by trivial⟩
            case round =>
              obtain ⟨q, rfl, hq, rfl, HL, rfl⟩ := hrel
              have hfl := foldW_lt _ 0 HL.out
              rw [List.length_take] at hfl
              by_cases hq8 : q < 8
              · have hqs : q < p.size := by rw [H8.out]; exact hq8
                have hm : foldW 0 (p.data.toList.take q) < 16 ^ 7 := Nat.lt_of_lt_of_le hfl (by rw [Nat.zero_add, Nat.one_mul]; exact Nat.pow_le_pow_right (by decide) (by omega))
                have HT := Lib.hid (take_snoc p q hqs)
                have HS := Lib.hid (foldW_snoc 0 (p.data.toList.take q) p[q])
                have hcb : p[q].toNat < 256 := p[q].toNat_lt
                generalize foldW 0 (p.data.toList.take q) = m at hm HS
                clear hfl
                by_cases hlow : lowN (p[q]).toNat = true
                · have hll := of_decide_eq_true hlow
                  have HL2 := Lib.hid (show (p.data.toList.take (q + 1)).all isLow = true by rw [HT.out, List.all_append, HL.out]; simp [isLow, hlow])
                  by_cases hdig : (p[q]).toNat ≤ 57
                  · have a1 : (48 : Int) ≤ (p[q].toNat : Int) := by omega
                    have a2 : (p[q].toNat : Int) ≤ 57 := by omega
                    have a3 : ¬ (97 : Int) ≤ (p[q].toNat : Int) := by omega
                    have HD := Lib.hid (show lowV p[q] = p[q].toNat - 48 by unfold lowV digV; rw [if_pos hdig])
                    clear hll hlow
                    go_wp2_with fail
                    go_roundw
                    case rel => exact ⟨q + 1, by go_num, by omega, congrArg (Value.int .i64) (by rw [HT.out, HS.out, HD.out]; omega), HL2, by trivial⟩
                    case measure => simp [intOf]; omega
                  · have a1 : (97 : Int) ≤ (p[q].toNat : Int) := by omega
                    have a0 : (48 : Int) ≤ (p[q].toNat : Int) := by omega
                    have a2 : (p[q].toNat : Int) ≤ 102 := by omega
                    have a3 : ¬ (p[q].toNat : Int) ≤ 57 := by omega
                    have HD := Lib.hid (show lowV p[q] = p[q].toNat - 87 by unfold lowV digV; rw [if_neg hdig])
                    clear hll hlow
                    go_wp2_with fail
                    go_roundw
                    case rel => exact ⟨q + 1, by go_num, by omega, congrArg (Value.int .i64) (by rw [HT.out, HS.out, HD.out]; omega), HL2, by trivial⟩
                    case measure => simp [intOf]; omega
                · have hlow' : lowN (p[q]).toNat = false := by simpa using hlow
                  have hll := of_decide_eq_false hlow'
                  have HN := Lib.hid (readN_none H0.out HC.out (.inr (okQ_not ps k p HK.out (okQ_char hqs hlow'))))
                  clear hlow hlow'
                  by_cases hd1 : 48 ≤ (p[q]).toNat
                  · have a1 : (48 : Int) ≤ (p[q].toNat : Int) := by omega
                    have a2 : ¬ (p[q].toNat : Int) ≤ 57 := by omega
                    by_cases hd2 : 97 ≤ (p[q]).toNat
                    · have a3 : (97 : Int) ≤ (p[q].toNat : Int) := by omega
                      have a4 : ¬ (p[q].toNat : Int) ≤ 102 := by omega
                      clear hll hd1 hd2
                      go_wp2_with fail
                      go_ret2
                      exact ⟨.inr ⟨HN.out, rfl⟩, HB.out⟩
                    · have a3 : ¬ (97 : Int) ≤ (p[q].toNat : Int) := by omega
                      clear hll hd1 hd2
                      go_wp2_with fail
                      go_ret2
                      exact ⟨.inr ⟨HN.out, rfl⟩, HB.out⟩
                  · have a1 : ¬ (48 : Int) ≤ (p[q].toNat : Int) := by omega
                    have a3 : ¬ (97 : Int) ≤ (p[q].toNat : Int) := by omega
                    clear hll hd1
                    go_wp2_with fail
                    go_ret2
                    exact ⟨.inr ⟨HN.out, rfl⟩, HB.out⟩
              · have hall : p.data.toList.take q = p.data.toList := List.take_of_length_le (by have := H8.out; simp; omega)
                have HL3 := Lib.hid (show p.data.toList.all isLow = true by rw [← hall]; exact HL.out)
                rw [hall]
                have hv8 : foldW 0 p.data.toList < 4294967296 := by
                  have := foldW_lt _ 0 HL3.out
                  have e8 : p.data.toList.length = 8 := by have := H8.out; simpa using this
                  rw [e8] at this
                  simpa using this
                have HQ := Lib.hid (show okQ p = decide (bits32 (cn .f32 (valQ p)) = valQ p) by
                  unfold okQ okW valQ valW
                  rw [HL3.out, decide_eq_true (show p.data.toList.length = 8 by have := H8.out; simpa using this)]
                  rfl)
                have HV := Lib.hid (show foldW 0 p.data.toList = valQ p from rfl)
                generalize foldW 0 p.data.toList = m at hv8 HV
                clear hfl hall
                go_wp2_with fail
                refine (sFrom_any (m : Int) (by omega) (by omega) _).mono ?_; rintro e w5 ⟨rfl, rfl⟩
                rw [Int.toNat_natCast]
                go_wp2_with fail
                refine (sBits_any m (cn .f32 m) (Is.of_lt (by rw [w32]; omega)) _).mono ?_; rintro e w5 ⟨rfl, rfl⟩
                by_cases hok : okQ p = true
                · have hbm : bits32 (cn .f32 m) = m := by
                    rw [HV.out]
                    rw [HQ.out] at hok
                    exact of_decide_eq_true hok
                  rw [hbm]
                  have HA2 := Lib.hid (okQ_take ps k p HK.out HA.out hok)
                  have HV2 := Lib.hid (valQ_take ps k p HK.out)
                  clear hbm hok
                  have hown2 := HW.out
                  have hxk : (xs.map (Value.float .f32)).length = k * 1 := by simp [hxl]
                  go_wp2_with (at_builtin; refine wpList_append_lies _ rfl _ _ _ rfl w.heap.size 34 i0 _ 1 4 Tryd.underlying22 hi hz0 hz1 hz2 rfl (by omega) (.slice (some ⟨g, 0, none⟩) k cap) k (xs.map (Value.float .f32)) rfl (World.ownsRow.alloc HW.out _) ⟨wr.heap.size, 0, none⟩ 1 1 [.float .f32 m] rfl rfl (World.news_of_block (cs := #[.float .f32 m]) (t := 34) (fr := (0, 0)) (heap_alloc_new _ _)) (by simp [Value.oneCell']) (by omega) (by unfold maxLen; omega) (by omega) (HB.out.alloc HB.out.size _).size (wr.heap.size + 1) (by simp) ?_; intro g2 cap2 w3 hown4 hgrow hat hltg)
                  have hgg : g ≠ gp := fun e => own_ne (by decide) HW.out HP.out e
                  have HP3 := Lib.hid (World.ownsRow.kept (World.ownsRow.alloc HP.out _) hgrow (.inr (by simp [Value.ownBlock]; exact hgg.symm)))
                  have HB3 := Lib.hid ((HB.out.alloc HB.out.size _).grown hgrow (HB.out.alloc HB.out.size _).size (fun k' hk' => (HW.out.lt k' hk').1))
                  have HX3 := Lib.hid (show xs ++ [m] = (ps.take (k + 1)).map valQ by rw [HV2.out, ← HX.out, HV.out])
                  go_roundw
                  case rel => exact ⟨k + 1, xs ++ [m], by go_num, by omega, by simp; omega, HX3, HA2, ⟨g2, cap2, rfl, Lib.hid (by simpa using hown4)⟩, HP3, HB3⟩
                  case measure => simp [intOf]; omega
                · have hok' : okQ p = false := by simpa using hok
                  have HN := Lib.hid (readN_none H0.out HC.out (.inr (okQ_not ps k p HK.out hok')))
                  have hne : (((bits32 (cn .f32 m) : Nat) : Int) == (m : Int)) = false := by
                    rw [HQ.out, ← HV.out] at hok'
                    have := of_decide_eq_false hok'
                    simp
                    omega
                  clear hok hok'
                  go_wp2_with fail
                  go_ret2
                  exact ⟨.inr ⟨HN.out, rfl⟩, HB.out⟩
          · have hde : ((p.size : Int) == 8) = false := by simp; omega
            have HN := Lib.hid (readN_none H0.out HC.out (.inr (okQ_not ps k p HK.out (okQ_size h8))))
            clear h8
            go_wp2_with fail
            go_ret2
            exact ⟨.inr ⟨HN.out, rfl⟩, HB.out⟩
        · obtain rfl : k = ps.length := by omega
          have HR := Lib.hid (readN_some H0.out HC.out h64 (by have := HA.out; rwa [List.take_of_length_le (Nat.le_refl _)] at this))
          have HX2 := Lib.hid (show xs = ps.map valQ by rw [HX.out, List.take_of_length_le (Nat.le_refl _)])
          go_wp2_with fail
          go_ret2
          exact ⟨.inl ⟨xs, _, by rw [HX2.out]; exact HR.out, rfl, by unfold FOwn; rw [hxl]; exact HW.out⟩, HB.out⟩

theorem sReadNumbers_any (s : ByteArray) (w : World) (hs : s.size ≤ 1048576) : Calls Tryd.prog 5 #[.string s] w fun e w' => RdN w.heap.size s.data.toList e w' ∧ Below w.heap.size w w' := by
  go_enter Tryd.func5, Tryd.ntmps5
  go_wp2_with (go_at_call 15; refine (sNRead_any s _ hs).mono ?_; rintro e w1 ⟨⟨xs, v, hx, rfl, ho⟩ | ⟨hx, rfl⟩, b1⟩)
  · go_wp2
    go_ret2
    exact ⟨.inl ⟨xs, v, hx, rfl, ho⟩, b1⟩
  · go_wp2
    go_ret2
    exact ⟨.inr ⟨hx, rfl⟩, b1⟩
end Go.Proofs.YtnimmmcpdicajaaDoor
