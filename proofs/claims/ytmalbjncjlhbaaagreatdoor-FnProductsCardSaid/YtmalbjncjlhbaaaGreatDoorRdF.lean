/-
  ReadNumbers: contracts of the program's function of one word, and of its list.
-/
import Derived.Test.YtmalbjncjlhbaaaGreatDoorRdM
import Derived.Test.YtmalbjncjlhbaaaGreatDoorCut
import Derived.Test.YtmalbjncjlhbaaaGreatDoorOwn
namespace Go.Proofs.YtmalbjncjlhbaaaGreatDoor
open Go.Fl Go.RowKit Go.Pu16 Go.Dec

/-- What the library's variables hold when the call begins. -/
structure LaysF (w : World) : Prop where
  syn : ∃ tp p, w.cell? ⟨Tryz.laysPu14_ren.g 0, 0, none⟩ = some (.iface tp p)
  rng : ∃ tp p, w.cell? ⟨Tryz.laysPu14_ren.g 1, 0, none⟩ = some (.iface tp p)
  tz : TzAt w
theorem LaysF.on {w w' : World} (h : LaysF w) (hb : Below w.heap.size w w') : LaysF w' := by
  obtain ⟨t1, p1, v1⟩ := h.syn
  obtain ⟨t2, p2, v2⟩ := h.rng
  exact ⟨⟨t1, p1, by rw [hb.cell (p := ⟨_, 0, none⟩) (block_lt_of_cell v1)]; exact v1⟩, ⟨t2, p2, by rw [hb.cell (p := ⟨_, 0, none⟩) (block_lt_of_cell v2)]; exact v2⟩, h.tz.on hb⟩

/-- The number of a text, if it is not empty. -/
def puR (l : List UInt8) : Option Nat := if l = [] then none else puH 0 l
/-- The library's parser. -/
theorem parseU (s : ByteArray) (hs : s.size ≤ 1048576) (w : World) (hv : LaysF w) :
    Calls Tryz.prog 84 #[.string s, .int .i64 16, .int .i64 32] w fun e w' => (match puR s.data.toList with
      | some u => e = .returned (.tuple #[.int .u64 (u : Int), .nilIface])
      | none => ∃ (u : Int) (N : Nat), e = .returned (.tuple #[.int .u64 u, .iface 137 (.pointer (some ⟨N, 0, none⟩))])) ∧ Below w.heap.size w w' := by
  obtain ⟨t1, p1, v1⟩ := hv.syn
  obtain ⟨t2, p2, v2⟩ := hv.rng
  have hsz := Lib.size_eq s
  by_cases h0 : s.size = 0
  · obtain rfl : s = ⟨#[]⟩ := by
      apply ByteArray.ext
      apply Array.ext'
      exact List.length_eq_zero_iff.1 (show s.data.toList.length = 0 by omega)
    exact outer_empty Tryz.pu14 w _ v1 (.inr ⟨_, _, rfl⟩)
  · unfold puR
    rw [if_neg (fun e => h0 (hsz.trans (by rw [e]; rfl)))]
    exact outer Tryz.pu14 s h0 hs w _ _ v1 v2 (.inr ⟨_, _, rfl⟩) (.inr ⟨_, _, rfl⟩)

theorem str_eqb (a : List UInt8) (s : ByteArray) : (a == s.toList) = decide (a = s.data.toList) := by
  rw [ByteArray.toList_eq, Bool.eq_iff_iff]; simp

theorem puR_lt {l : List UInt8} {u : Nat} (h : puR l = some u) : u < 4294967296 := by
  unfold puR at h
  split at h
  · cases h
  · have := puH_lt l 0 u (by decide) h; omega

/-- A word that parses: the number, and whether its text is the word. -/
theorem iNum_some (p : ByteArray) (hs : p.size ≤ 1048576) (u : Nat) (h : puR p.data.toList = some u) (w : World) (hv : LaysF w) :
    Calls Tryz.prog 51 #[.string p] w fun e w' => e = .returned (.tuple #[.float .f32 u, .bool (decide (hexT u = p.data.toList))]) ∧ Below w.heap.size w w' := by
  have hlt := puR_lt h
  have hP := parseU p hs w hv
  rw [h] at hP
  have hw : IntKind.u32.wrap (u : Int) = (u : Int) := by rw [IntKind.wrap_u32]; omega
  have HE := Lib.hid (str_eqb (hexT u) p)
  have HP := Lib.hid hP
  have HV := Lib.hid hv
  clear hP hv h
  go_enter Tryz.func51, Tryz.ntmps51
  go_wp2_with fail
  refine HP.out.mono ?_; rintro e w1 ⟨rfl, b1⟩
  have HT := Lib.hid ((HV.out.on b1).tz)
  go_wp2_with fail
  refine (iText_any u _ hlt HT.out).mono ?_; rintro e w2 ⟨rfl, b2⟩
  go_wp2_with fail
  go_ret2
  exact ⟨congrArg (fun b => Ending.returned (.tuple #[.float .f32 u, .bool b])) HE.out, b1.trans (b2.mono b1.size)⟩

theorem iNum_none (p : ByteArray) (hs : p.size ≤ 1048576) (h : puR p.data.toList = none) (w : World) (hv : LaysF w) :
    Calls Tryz.prog 51 #[.string p] w fun e w' => e = .returned (.tuple #[.float .f32 0, .bool false]) ∧ Below w.heap.size w w' := by
  have hP := parseU p hs w hv
  rw [h] at hP
  have HP := Lib.hid hP
  clear hP hv h
  go_enter Tryz.func51, Tryz.ntmps51
  go_wp2_with fail
  refine HP.out.mono ?_; rintro e w1 ⟨⟨u, N, rfl⟩, b1⟩
  go_wp2_with fail
  go_ret2
  exact ⟨rfl, b1⟩

theorem iNum_yes (p : ByteArray) (hs : p.size ≤ 1048576) (h : okQ p = true) (w : World) (hv : LaysF w) :
    Calls Tryz.prog 51 #[.string p] w fun e w' => e = .returned (.tuple #[.float .f32 (valQ p), .bool true]) ∧ Below w.heap.size w w' := by
  obtain ⟨h8, _, _, hlt⟩ := okW_facts h
  obtain ⟨h1, h2⟩ := read_yes h
  have hr : puR p.data.toList = some (valQ p) := by unfold puR; rw [if_neg (by intro e; rw [e] at h8; simp at h8)]; exact h1
  refine (iNum_some p hs _ hr w hv).mono ?_
  rintro e w' ⟨he, hb⟩
  rw [decide_eq_true (show hexT (valQ p) = p.data.toList from h2)] at he
  exact ⟨he, hb⟩

theorem iNum_no (p : ByteArray) (hs : p.size ≤ 1048576) (h : okQ p = false) (w : World) (hv : LaysF w) :
    Calls Tryz.prog 51 #[.string p] w fun e w' => (∃ u, e = .returned (.tuple #[.float .f32 u, .bool false])) ∧ Below w.heap.size w w' := by
  cases hr : puR p.data.toList with
  | none => exact (iNum_none p hs hr w hv).mono fun e w' ⟨he, hb⟩ => ⟨⟨_, he⟩, hb⟩
  | some u =>
    refine (iNum_some p hs u hr w hv).mono ?_
    rintro e w' ⟨he, hb⟩
    rw [decide_eq_false (fun e => by
      have h1 : puH 0 p.data.toList = some u := by
        unfold puR at hr
        split at hr
        · cases hr
        · exact hr
      have := read_back h1 e
      rw [show okW p.data.toList = okQ p from rfl, h] at this
      cases this)] at he
    exact ⟨⟨_, he⟩, hb⟩

def RdN (B : Nat) (l : List UInt8) (e : Ending) (w' : World) : Prop :=
  (∃ xs v, readN l = some xs ∧ e = .returned (.tuple #[v, .bool true]) ∧ FOwn B w' v xs) ∨ (readN l = none ∧ e = .returned (.tuple #[.slice none 0 0, .bool false]))

theorem part_le : ∀ (l : List UInt8) (p : List UInt8), p ∈ cutL l → p.length ≤ l.length
  | [], p, h => by simp [cutL] at h; simp [h]
  | c :: l, p, h => by
    have ih := part_le l
    unfold cutL at h
    by_cases hc : c = 44
    · rw [if_pos hc] at h
      rcases List.mem_cons.1 h with h | h
      · simp [h]
      · have := ih p h; simp; omega
    · rw [if_neg hc] at h
      cases hl : cutL l with
      | nil => exact absurd hl (cutL_ne l)
      | cons q qs =>
        rw [hl] at h ih
        rcases List.mem_cons.1 h with h | h
        · have := ih q (List.mem_cons_self ..); simp [h]; omega
        · have := ih p (List.mem_cons_of_mem _ h); simp; omega
theorem countB_cut (s : ByteArray) : Lib.countB s ⟨#[44]⟩ + 1 = (cutL s.data.toList).length := by
  rw [cut_length, ← Lib.count_one]
theorem row_mono {w : World} {B B' e n g : Nat} {v : Value} {xs : List Value} (h : w.ownsRow B e g v n xs) (hb : B' ≤ B) : w.ownsRow B' e g v n xs :=
  ⟨h.1, h.2.imp_right fun ⟨b, cap, cur, hv, hB, rest⟩ => ⟨b, cap, cur, hv, Nat.le_trans hb hB, rest⟩⟩
theorem row_kept {w w' : World} {B e n g : Nat} {v : Value} {xs : List Value} (h : w.ownsRow B e g v n xs) (hb : Below w.heap.size w w') : w'.ownsRow B e g v n xs :=
  h.kept (grown_below (row := none) hb) (by cases v.ownBlock with | none => exact .inl rfl | some k => exact .inr (by simp))
theorem none_eq (s : ByteArray) : (s.toList == [110, 111, 110, 101]) = decide (s.data.toList = [110, 111, 110, 101]) := by
  rw [ByteArray.toList_eq, Bool.eq_iff_iff]; simp
theorem cut_len (ps : List ByteArray) {l : List UInt8} (h : ps.map (·.data.toList) = cutL l) : ps.length = (cutL l).length := by rw [← h, List.length_map]

theorem iSplit_any (s : ByteArray) (w : World) (hs : s.size ≤ 1048576) (m : Int) (hm : w.cell? ⟨1, 0, none⟩ = some (.int .i64 m)) : Calls Tryz.prog 83 #[.string s, .string ⟨#[44]⟩] w fun e w' =>
    (∃ ps : List ByteArray, e = .returned (.slice (some ⟨w.heap.size, 0, none⟩) ps.length ps.length) ∧ ps.map (·.data.toList) = cutL s.data.toList ∧ w.heap.size < w'.heap.size ∧ ∀ k p, ps[k]? = some p → w'.cell? ⟨w.heap.size, k, none⟩ = some (.string p)) ∧ Below w.heap.size w w' := by
  refine (Tryz.strings_Split s ⟨#[44]⟩ m w (by omega) hm (Nat.le_refl _)).mono ?_
  rintro e w' ⟨rfl, rfl⟩
  have hcut := splitB_cut s
  have hl : (Lib.splitB ⟨#[44]⟩ 0 (Lib.countB s ⟨#[44]⟩) s).length = Lib.countB s ⟨#[44]⟩ + 1 := by
    rw [countB_cut, ← hcut, List.length_map]
  refine ⟨⟨_, by rw [hl], hcut, by simp, ?_⟩, (Below.refl _ _).alloc (Nat.le_refl _) _⟩
  intro k p hk
  generalize Lib.splitB ⟨#[44]⟩ 0 (Lib.countB s ⟨#[44]⟩) s = ps at hk
  have h := heap_alloc_new w (.cells (ps.map Value.string).toArray 9)
  simp only [World.cell?, h]
  simp [hk]

set_option maxHeartbeats 2000000 in
set_option maxRecDepth 100000 in
theorem iTexts_any (s : ByteArray) (w : World) (hs : s.size ≤ 1048576) (hv : LaysF w) (m : Int) (hm : w.cell? ⟨1, 0, none⟩ = some (.int .i64 m)) :
    Calls Tryz.prog 50 #[.string s, .int .i64 256, .func (.func 51) #[] #[]] w fun e w' => RdN w.heap.size s.data.toList e w' ∧ Below w.heap.size w w' := by
  obtain ⟨i0, hi, hz0, hz1, hz2⟩ := info_parts F32info
  by_cases h0 : s.data.toList = [110, 111, 110, 101]
  · have hb : (s.toList == [110, 111, 110, 101]) = true := by rw [none_eq]; exact decide_eq_true h0
    have H0 := Lib.hid h0
    clear h0 hm
    go_enter Tryz.func50, Tryz.ntmps50
    go_wp2_with fail
    go_ret2
    exact ⟨.inl ⟨[], _, by rw [H0.out]; exact readN_empty, rfl, ⟨by simp, .inl ⟨rfl, rfl⟩⟩⟩, Below.refl _ _⟩
  · have hb : (s.toList == [110, 111, 110, 101]) = false := by rw [none_eq]; exact decide_eq_false h0
    have H0 := Lib.hid h0
    have hcl := cut_length s.data.toList
    obtain ⟨c, hc⟩ : ∃ c, Lib.countByte s.data.toList 44 = c := ⟨_, rfl⟩
    have hcc : s.data.toList.count 44 = c := hc
    rw [hcc] at hcl
    clear h0 hcc
    by_cases hlong : 256 ≤ c
    · have HN := Lib.hid (show readN s.data.toList = none by unfold readN; rw [if_neg H0.out, if_pos (by omega)])
      have hd : decide ((256 : Int) ≤ (c : Int)) = true := decide_eq_true (by omega)
      clear hcl hlong hm
      go_enter Tryz.func50, Tryz.ntmps50
      go_wp2_with (go_at_call 82; refine (Tryz.strings_Count_one s 44 _).mono ?_; rw [hc]; rintro e w1 ⟨rfl, rfl⟩)
      go_ret2
      exact ⟨.inr ⟨HN.out, rfl⟩, Below.refl _ _⟩
    · have hd : decide ((256 : Int) ≤ (c : Int)) = false := decide_eq_false (by omega)
      have h64 : (cutL s.data.toList).length ≤ 256 := by omega
      clear hcl hlong
      have HM := Lib.hid hm
      have HC := Lib.hid hc
      have HV := Lib.hid hv
      clear hm hc hv
      go_enter Tryz.func50, Tryz.ntmps50
      go_wp2_with (first | (go_at_call 82; refine (Tryz.strings_Count_one s 44 _).mono ?_; rw [HC.out]; rintro e w1 ⟨rfl, rfl⟩) | (go_at_call 83; refine (iSplit_any s _ hs m HM.out).mono ?_; rintro e w2 ⟨⟨ps, rfl, hcut, hsz, hcells⟩, b1⟩; refine Hid.out ?_))
      refine Lib.hid ?_
      have hpl := cut_len ps hcut
      have hn64 : ps.length ≤ 256 := by omega
      have HCUT := Lib.hid hcut
      have HCE := Lib.hid hcells
      have hv0 : FOwn w2.heap.size w2 (.slice none 0 0) [] := ⟨by simp, .inl ⟨rfl, rfl⟩⟩
      have HB1 := Lib.hid b1
      have hwb : w1.heap.size < w2.heap.size := hsz
      clear hcut hcells b1 h64 hd hpl hsz
      go_wp2_with fail
      go_loopw [8, 22] (fun v i wr => ∃ (k : Nat) (xs : List Nat), i = .int .i64 (k : Int) ∧ k ≤ ps.length ∧ Hid (xs = (ps.take k).map valQ) ∧ Hid ((ps.take k).all okQ = true) ∧ Hid (xs.length = k ∧ wr.ownsRow w2.heap.size 24 1 v k (xs.map (Value.float .f32))) ∧ Below w2.heap.size w2 wr) (fun _ i _ => ps.length - (intOf i).toNat)
      case atStart => exact ⟨0, [], rfl, Nat.zero_le _, Lib.hid rfl, Lib.hid rfl, Lib.hid ⟨rfl, hv0⟩, Below.refl _ _⟩
      case round =>
        obtain ⟨k, xs, rfl, hk, HX, HA, HO, hbw⟩ := hrel
        have hBs := hbw.size
        have HBW := Lib.hid (HB1.out.trans (hbw.mono (Nat.le_of_lt hwb)))
        by_cases hlt : k < ps.length
        · obtain ⟨p, hp⟩ : ∃ p, ps[k]? = some p := ⟨ps[k], List.getElem?_eq_getElem hlt⟩
          have hcell : wr.cell? ⟨w1.heap.size, k, none⟩ = some (.string p) := by
            rw [hbw.cell (p := ⟨w1.heap.size, k, none⟩) hwb]; exact HCE.out k p hp
          have HK := Lib.hid hp
          have hps : p.size ≤ 1048576 := by
            have h1 : p.data.toList ∈ cutL s.data.toList := by rw [← HCUT.out]; exact List.mem_map_of_mem (List.mem_of_getElem? hp)
            have h2 := part_le _ _ h1
            simp at h2; omega
          clear hp
          have HVW := Lib.hid (HV.out.on HBW.out)
          have HBB := Lib.hid hbw
          by_cases hok : okQ p = true
          · have HOK := Lib.hid hok
            clear hok hbw
            go_wp2_with (go_at_call 51; refine (iNum_yes p hps HOK.out _ HVW.out).mono ?_; rintro e w3 ⟨rfl, b2⟩; refine Hid.out ?_)
            refine Lib.hid ?_
            have HO2 := Lib.hid (row_kept HO.out.2 b2)
            have HB2 := Lib.hid (HBB.out.trans (b2.mono hBs))
            have hB2s := HB2.out.size
            clear hcell b2
            have HV2 := Lib.hid (valQ_take ps k p HK.out)
            have HA2 := Lib.hid (okQ_take ps k p HK.out HA.out HOK.out)
            generalize valQ p = y at HV2 ⊢
            go_wp2_with (at_builtin; refine wpList_append_own _ rfl _ _ 30 rfl w2.heap.size 24 i0 (.float .f32 0) 1 4 Tryz.underlying30 hi hz0 hz1 hz2 rfl (by decide) _ _ _ rfl (World.ownsRow.alloc HO2.out _) ⟨w3.heap.size, 0, none⟩ 1 1 [Value.float .f32 y] rfl rfl (by intro j u' hj; match j, hj with | 0, hj => simp at hj; subst hj; simp [Addr.add]) (by intro u' hu'; simp at hu'; subst hu'; rfl) (by unfold maxLen; omega) (by omega) (by simp; omega) ?_)
            intro v' w' hown' hgrow hnil
            have hB' := Lib.hid ((HB2.out.alloc hB2s _).grown hgrow (by simp; omega) (fun k' hk' => (HO2.out.lt k' hk').1))
            have HO3 := Lib.hid hown'
            clear hown' hgrow hnil HO2
            go_wp2
            go_roundw
            case rel => exact ⟨k + 1, xs ++ [y], by go_num, by omega, Lib.hid (by rw [HV2.out, ← HX.out]), HA2, Lib.hid ⟨by have := HO.out.1; simp; omega, by simpa using HO3.out⟩, hB'.out⟩
            case measure => simp [intOf]; omega
          · have hok' : okQ p = false := by simpa using hok
            have HOK := Lib.hid hok'
            have HN := Lib.hid (readN_none H0.out HCUT.out (.inr (okQ_not ps k p HK.out hok')))
            clear hok hok' hbw
            go_wp2_with (go_at_call 51; refine (iNum_no p hps HOK.out _ HVW.out).mono ?_; rintro e w3 ⟨⟨uu, rfl⟩, b2⟩; refine Hid.out ?_)
            refine Lib.hid ?_
            have HB2 := Lib.hid (HBW.out.trans (b2.mono HBW.out.size))
            go_wp2_with fail
            go_ret2
            exact ⟨.inr ⟨HN.out, rfl⟩, HB2.out⟩
        · obtain rfl : k = ps.length := by omega
          have HR := Lib.hid (readN_some H0.out HCUT.out hn64 (by have := HA.out; rwa [List.take_of_length_le (Nat.le_refl _)] at this))
          have HX2 := Lib.hid (show xs = ps.map valQ by rw [HX.out, List.take_of_length_le (Nat.le_refl _)])
          have HO2 := Lib.hid (row_mono HO.out.2 (Nat.le_of_lt hwb))
          clear hbw
          go_wp2_with fail
          go_ret2
          exact ⟨.inl ⟨xs, _, by rw [HX2.out]; exact HR.out, rfl, by unfold FOwn; rw [HO.out.1]; exact HO2.out⟩, HBW.out⟩

theorem iReadNumbers_any (s : ByteArray) (w : World) (hs : s.size ≤ 1048576) (hv : LaysF w) (m : Int) (hm : w.cell? ⟨1, 0, none⟩ = some (.int .i64 m)) :
    Calls Tryz.prog 14 #[.string s] w fun e w' => RdN w.heap.size s.data.toList e w' ∧ Below w.heap.size w w' := by
  go_enter Tryz.func14, Tryz.ntmps14
  go_wp2_with (go_at_call 50; refine (iTexts_any s _ hs hv m hm).mono ?_; rintro e w1 ⟨⟨xs, v, hx, rfl, ho⟩ | ⟨hx, rfl⟩, b1⟩)
  · go_wp2
    go_ret2
    exact ⟨.inl ⟨xs, v, hx, rfl, ho⟩, b1⟩
  · go_wp2
    go_ret2
    exact ⟨.inr ⟨hx, rfl⟩, b1⟩
end Go.Proofs.YtmalbjncjlhbaaaGreatDoor
