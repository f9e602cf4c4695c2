/-
  ReadList: the model's function.
-/
import Derived.Test.YtnipdbphfnppeadDoorCut
import Derived.Test.YtnipdbphfnppeadDoorDecI
import Derived.Test.YtnipdbphfnppeadDoorNlC
namespace Go.Proofs.YtnipdbphfnppeadDoor
open Go.RowKit Go.Dec

/-- A slice of the call's own, perhaps nil, with the integers xs. -/
def ROwn (B : Nat) (w : World) (v : Value) (xs : List Int) : Prop := w.ownsRow B 2 1 v xs.length (xs.map (Value.int .i64))
def RdOut (B : Nat) (l : List UInt8) (e : Ending) (w' : World) : Prop :=
  (∃ xs v, readL l = some xs ∧ e = .returned (.tuple #[v, .bool true]) ∧ ROwn B w' v xs) ∨ (readL l = none ∧ e = .returned (.tuple #[.slice none 0 0, .bool false]))

theorem rown_empty {B : Nat} (w : World) (h : B ≤ w.heap.size) : ROwn B (w.alloc (.cells #[] 2)) (.slice (some ⟨w.heap.size, 0, none⟩) 0 0) [] :=
  ⟨by simp, .inr ⟨w.heap.size, 0, #[], rfl, h, heap_alloc_new w _, Nat.le_refl _, by unfold maxLen; decide, by simp, by simp⟩⟩

theorem own_ne {w : World} {B B' e1 e2 g g' n n' c c' : Nat} {xs ys : List Value} (he : e1 ≠ e2) (h1 : w.ownsRow B e1 1 (.slice (some ⟨g, 0, none⟩) n c) n xs) (h2 : w.ownsRow B' e2 1 (.slice (some ⟨g', 0, none⟩) n' c') n' ys) : g ≠ g' := by
  intro e
  subst e
  rcases h1.2 with ⟨h, _⟩ | ⟨a, _, cur, ha, _, hh, _⟩
  · cases h
  · rcases h2.2 with ⟨h, _⟩ | ⟨b, _, cur', hb, _, hh', _⟩
    · cases h
    · cases ha; cases hb
      rw [hh] at hh'
      cases hh'
      exact he rfl

theorem cut_len (ps : List ByteArray) {l : List UInt8} (h : ps.map (·.data.toList) = cutL l) : ps.length = (cutL l).length := by rw [← h, List.length_map]
def okP (p : ByteArray) : Bool := readB p.data.toList
def valP (p : ByteArray) : Int := valD p.data.toList
theorem readL_some {l : List UInt8} {ps : List ByteArray} (h0 : l ≠ [110, 111, 110, 101]) (h : ps.map (·.data.toList) = cutL l) (hn : ps.length ≤ 64) (ha : ps.all okP = true) : readL l = some (ps.map valP) := by
  unfold readL
  rw [if_neg h0, if_neg (by rw [← h, List.length_map]; omega), if_pos (by rw [← h, List.all_map]; exact ha), ← h, List.map_map]
  rfl
theorem readL_none {l : List UInt8} {ps : List ByteArray} (h0 : l ≠ [110, 111, 110, 101]) (h : ps.map (·.data.toList) = cutL l) (hc : 64 < ps.length ∨ ps.all okP = false) : readL l = none := by
  unfold readL
  rw [if_neg h0]
  by_cases h1 : 64 < (cutL l).length
  · rw [if_pos h1]
  · rw [if_neg h1]
    rcases hc with hc | hc
    · rw [← h, List.length_map] at h1; omega
    · rw [if_neg (by rw [← h, List.all_map]; intro e; rw [show (readB ∘ fun x : ByteArray => x.data.toList) = okP from rfl, hc] at e; cases e)]
theorem readL_empty : readL [110, 111, 110, 101] = some [] := by unfold readL; rw [if_pos rfl]

theorem okP_take (ps : List ByteArray) (k : Nat) (p : ByteArray) (hk : ps[k]? = some p) (h1 : (ps.take k).all okP = true) (h2 : okP p = true) : (ps.take (k + 1)).all okP = true := by
  obtain ⟨hlt, rfl⟩ := List.getElem?_eq_some_iff.1 hk
  rw [List.take_succ_eq_append_getElem hlt, List.all_append, h1]; simp [h2]
theorem okP_not (ps : List ByteArray) (k : Nat) (p : ByteArray) (hk : ps[k]? = some p) (h2 : okP p = false) : ps.all okP = false := by
  obtain ⟨hlt, rfl⟩ := List.getElem?_eq_some_iff.1 hk
  rw [List.all_eq_false]; exact ⟨_, List.getElem_mem hlt, by simp [h2]⟩
theorem val_take (ps : List ByteArray) (k : Nat) (p : ByteArray) (hk : ps[k]? = some p) : (ps.take (k + 1)).map valP = (ps.take k).map valP ++ [valP p] := by
  obtain ⟨hlt, rfl⟩ := List.getElem?_eq_some_iff.1 hk
  rw [List.take_succ_eq_append_getElem hlt, List.map_append]; rfl

theorem none_eq (s : ByteArray) : (s.toList == [110, 111, 110, 101]) = decide (s.data.toList = [110, 111, 110, 101]) := by
  rw [ByteArray.toList_eq, Bool.eq_iff_iff]; simp

/-- The model's number of a part. -/
theorem sVal_p (p : ByteArray) (w : World) (h : okP p = true) : Calls Tryd.prog 26 #[.string p] w fun e w' => e = .returned (.tuple #[.int .i64 (valP p), .bool true]) ∧ Below w.heap.size w w' := by
  obtain ⟨h1, h2, _⟩ := readB_true h
  exact sVal_yes p w (by simpa using h1) (by simpa using h2) h

theorem rown_of {B : Nat} {w' : World} {v' : Value} {n : Nat} {zs : List Value} {xs : List Int} (h : w'.ownsRow B 2 1 v' n zs) (hn : v' ≠ .slice none 0 0) (hl : zs = xs.map (Value.int .i64)) : ∃ g cap, v' = .slice (some ⟨g, 0, none⟩) n cap ∧ w'.ownsRow B 2 1 v' n (xs.map (Value.int .i64)) := by
  subst hl
  rcases h.2 with ⟨h1, _⟩ | ⟨g, cap, cur, rfl, _⟩
  · exact absurd h1 hn
  · exact ⟨g, cap, rfl, h⟩

/-- The model's answer on a part that is no number. -/
theorem sVal_pno (p : ByteArray) (w : World) (h : okP p = false) : Calls Tryd.prog 26 #[.string p] w fun e w' => e = .returned (.tuple #[.int .i64 0, .bool false]) ∧ Below w.heap.size w w' := sVal_any_no p h w

theorem Iinfo : (Tryd.prog.info? 2).map (fun i => (i.zero, i.size, i.bytes)) = some (some (.int .i64 0), 1, 8) := by kernel_rfl

set_option maxHeartbeats 2000000 in
set_option maxRecDepth 100000 in
theorem sNums_any (s : ByteArray) (w : World) (hs : s.size ≤ 1048576) : Calls Tryd.prog 18 #[.string s] w fun e w' => RdOut w.heap.size s.data.toList e w' ∧ Below w.heap.size w w' := by
  obtain ⟨i0, hi, hz0, hz1, hz2⟩ := info_parts Iinfo
  by_cases h0 : s.data.toList = [110, 111, 110, 101]
  · have hb : (s.toList == [110, 111, 110, 101]) = true := by rw [none_eq]; exact decide_eq_true h0
    have H0 := Lib.hid h0
    clear h0
    go_enter Tryd.func18, Tryd.ntmps18
    go_wp2_with fail
    go_ret2
    exact ⟨.inl ⟨[], _, by rw [H0.out]; exact readL_empty, rfl, rown_empty _ (Nat.le_refl _)⟩, (Below.refl _ _).alloc (Nat.le_refl _) _⟩
  · have hb : (s.toList == [110, 111, 110, 101]) = false := by rw [none_eq]; exact decide_eq_false h0
    have H0 := Lib.hid h0
    clear h0
    go_enter Tryd.func18, Tryd.ntmps18
    go_wp2_with (go_at_call 25; refine (sCut_any s _ hs).mono ?_; rintro e w1 ⟨⟨v, ps, rfl, ⟨gp, cp, rfl, hown⟩, hcut⟩, b1⟩; refine Hid.out ?_)
    refine Lib.hid ?_
    have b1' := b1
    have hb1 : Below w.heap.size w w1 := ((Below.refl _ _).alloc (Nat.le_refl _) _).trans (b1.mono (by simp))
    have ho0 : ROwn w.heap.size w1 (.slice (some ⟨w.heap.size, 0, none⟩) 0 0) [] := World.ownsRow.kept (rown_empty w (Nat.le_refl _)) (grown_none b1) (.inr (by simp [Value.ownBlock]))
    have HC := Lib.hid hcut
    have HO := Lib.hid hown
    have HB1 := Lib.hid hb1
    have HO0 := Lib.hid ho0
    clear hcut hown hb1 ho0 b1 b1'
    by_cases hlong : 64 < ps.length
    · have hd : decide ((64 : Int) < (ps.length : Int)) = true := decide_eq_true (by omega)
      have HN := Lib.hid (readL_none H0.out HC.out (.inl hlong))
      clear hlong
      go_wp2_with fail
      go_ret2
      exact ⟨.inr ⟨HN.out, rfl⟩, HB1.out⟩
    · have hd : decide ((64 : Int) < (ps.length : Int)) = false := decide_eq_false (by omega)
      have h64 : ps.length ≤ 64 := by omega
      clear hlong
      go_wp2_with fail
      clear hd
      go_loopw [4, 6] (fun v i wr => ∃ (k : Nat) (xs : List Int), i = .int .i64 (k : Int) ∧ k ≤ ps.length ∧ xs.length = k ∧ Hid (xs = (ps.take k).map valP) ∧ Hid ((ps.take k).all okP = true) ∧ (∃ g cap, v = .slice (some ⟨g, 0, none⟩) k cap ∧ wr.ownsRow w.heap.size 2 1 v k (xs.map (Value.int .i64))) ∧ Hid (wr.ownsRow (w.heap.size + 1) 9 1 (.slice (some ⟨gp, 0, none⟩) ps.length cp) ps.length (ps.map Value.string)) ∧ Below w.heap.size w wr) (fun _ i _ => ps.length - (intOf i).toNat)
      case atStart => exact ⟨0, [], rfl, Nat.zero_le _, rfl, Lib.hid rfl, Lib.hid rfl, ⟨_, _, rfl, HO0.out⟩, Lib.hid (by simpa using HO.out), HB1.out⟩
      case round =>
        obtain ⟨k, xs, rfl, hk, hxl, HX, HA, ⟨g, cap, rfl, hown⟩, HP, hbw⟩ := hrel
        have hBs := hbw.size
        by_cases hlt : k < ps.length
        · obtain ⟨p, hp⟩ : ∃ p, ps[k]? = some p := ⟨ps[k], List.getElem?_eq_getElem hlt⟩
          have hcell : wr.cell? ⟨gp, k, none⟩ = some (.string p) := by
            rw [HP.out.cellAt k (by omega), List.getElem?_map, hp]; rfl
          have HO2 := Lib.hid hown
          have HK := Lib.hid hp
          clear hown hp
          by_cases hok : okP p = true
          · have HOK := Lib.hid hok
            clear hok
            go_wp2_with (go_at_call 26; refine (sVal_p p _ HOK.out).mono ?_; rintro e w2 ⟨rfl, b2⟩; refine Hid.out ?_)
            refine Lib.hid ?_
            have hown2 := World.ownsRow.kept HO2.out (grown_none b2) (.inr (by simp [Value.ownBlock]))
            have HP2 := Lib.hid (World.ownsRow.kept HP.out (grown_none b2) (.inr (by simp [Value.ownBlock])))
            have HB2 := Lib.hid (hbw.trans (b2.mono hBs))
            have hB2s := HB2.out.size
            clear hcell b2
            have hvb : -9223372036854775808 ≤ valP p ∧ valP p ≤ 9223372036854775807 := by
              obtain ⟨_, _, h3, h4, _⟩ := readB_true HOK.out
              unfold valP; omega
            have HV := Lib.hid (val_take ps k p HK.out)
            have HA2 := Lib.hid (okP_take ps k p HK.out HA.out HOK.out)
            generalize valP p = y at hvb HV ⊢
            go_wp2_with (at_builtin; refine wpList_append_own _ rfl _ _ 22 rfl w.heap.size 2 i0 (.int .i64 0) 1 8 Tryd.underlying22 hi hz0 hz1 hz2 rfl (by decide) _ _ _ rfl (World.ownsRow.alloc hown2 _) ⟨w2.heap.size, 0, none⟩ 1 1 [Value.int .i64 y] rfl rfl (by intro j u' hj; match j, hj with | 0, hj => simp at hj; subst hj; simp [Addr.add]) (by intro u' hu'; simp at hu'; subst hu'; rfl) (by unfold maxLen; omega) (by omega) (by simp; omega) ?_)
            intro v' w' hown' hgrow hnil
            have hv : v' ≠ .slice none 0 0 := by simpa using hnil
            have hgg : g ≠ gp := fun e => own_ne (by decide) hown2 HP2.out e
            have hB' := Lib.hid ((HB2.out.alloc hB2s _).grown hgrow (by simp; omega) (fun k' hk' => (hown2.lt k' hk').1))
            have HP3 := Lib.hid (World.ownsRow.kept (World.ownsRow.alloc HP2.out _) hgrow (.inr (by simp [Value.ownBlock]; exact hgg.symm)))
            obtain ⟨g', cap', hv', hown3⟩ := rown_of hown' hv (xs := xs ++ [y]) (by simp)
            have HO3 := Lib.hid hown3
            subst hv'
            clear hown2 hown' hgrow hnil hown3 HO2
            go_wp2
            go_roundw
            case rel => exact ⟨k + 1, xs ++ [y], by go_num, by omega, by simp; omega, Lib.hid (by rw [HV.out, ← HX.out]), HA2, ⟨_, _, rfl, by simpa using HO3.out⟩, HP3, hB'.out⟩
            case measure => simp [intOf]; omega
          · have hok' : okP p = false := by simpa using hok
            have HOK := Lib.hid hok'
            have HN := Lib.hid (readL_none H0.out HC.out (.inr (okP_not ps k p HK.out hok')))
            clear hok hok'
            go_wp2_with (go_at_call 26; refine (sVal_pno p _ HOK.out).mono ?_; rintro e w2 ⟨rfl, b2⟩; refine Hid.out ?_)
            refine Lib.hid ?_
            have HB2 := Lib.hid (hbw.trans (b2.mono hBs))
            go_wp2_with fail
            go_ret2
            exact ⟨.inr ⟨HN.out, rfl⟩, HB2.out⟩
        · obtain rfl : k = ps.length := by omega
          have HO2 := Lib.hid hown
          have HR := Lib.hid (readL_some H0.out HC.out h64 (by have := HA.out; rwa [List.take_of_length_le (Nat.le_refl _)] at this))
          have HX2 := Lib.hid (show xs = ps.map valP by rw [HX.out, List.take_of_length_le (Nat.le_refl _)])
          clear hown
          go_wp2_with fail
          go_ret2
          exact ⟨.inl ⟨xs, _, by rw [HX2.out]; exact HR.out, rfl, by unfold ROwn; rw [hxl]; exact HO2.out⟩, hbw⟩
end Go.Proofs.YtnipdbphfnppeadDoor
