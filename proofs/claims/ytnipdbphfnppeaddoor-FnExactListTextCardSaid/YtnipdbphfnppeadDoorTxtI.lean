/-
  ListText: the program's function.
-/
import Derived.Test.YtnipdbphfnppeadDoorTxt
import Derived.Test.YtnipdbphfnppeadDoorDecI
namespace Go.Proofs.YtnipdbphfnppeadDoor
open Go.Nl Go.RowKit Go.Dec

theorem Sinfo : (Tryd.prog.info? 9).map (fun i => (i.zero, i.size, i.bytes)) = some (some (.string ⟨#[]⟩), 1, 16) := by kernel_rfl
theorem grown_none {w w' : World} (h : Below w.heap.size w w') : w.grownBy w' none := ⟨h.os, h.tape, h.output, h.size, fun k hk _ => h.block k hk⟩
def word (x : Int) : Value := .string ⟨(Lib.itoa x).toArray⟩

set_option maxHeartbeats 1000000 in
set_option maxRecDepth 100000 in
theorem iJoin_any (v : Value) (xs : List Int) (w : World) (hv : NS .i64 w v xs) (hn : xs.length ≤ 64) (htab : Lib.TabIs Tryd.prog w "internal/strconv.uint64pow10" .u64 Lib.pow10Tab) :
    Calls Tryd.prog 16 #[v, .int .i64 64, .func (.func 17) #[] #[]] w fun e w' => e = .returned (.tuple #[.string ⟨(textT xs).toArray⟩, .bool true]) ∧ Below w.heap.size w w' := by
  obtain ⟨a, cap, rfl, hlc, hcm, hwf, hmem⟩ := hv
  unfold maxLen at hcm
  by_cases h0 : xs = []
  · subst h0
    go_enter Tryd.func16, Tryd.ntmps16
    go_wp2
    go_ret2
    exact ⟨rfl, Below.refl _ _⟩
  · have hpos : 0 < xs.length := List.length_pos_iff.2 h0
    have HT := Lib.hid (show textT xs = joinT xs by unfold textT; rw [if_neg h0])
    have hd : ((xs.length : Int) == 0) = false := by simp; omega
    rcases hmem with rfl | ⟨b, off, rfl, hb, hc⟩
    · exact absurd rfl h0
    obtain ⟨i0, hi, hz0, hz1, hz2⟩ := info_parts Sinfo
    have hb4 : i0.bytes * xs.length ≤ 281474976710656 := by rw [hz2]; omega
    have hml : xs.length ≤ maxLen := by unfold maxLen; omega
    have HI := Lib.hid hi; have H0 := Lib.hid hz0; have H1 := Lib.hid hz1; have H2 := Lib.hid hz2
    have HB := Lib.hid (fun k h => wf_bounds hwf k h)
    have HL := Lib.hid (fun x hx => bounds_i64 (hwf x hx))
    have HC := Lib.hid hc
    have HTB := Lib.hid htab
    clear hi hz0 hz1 hz2 hwf hc h0 htab
    go_enter Tryd.func16, Tryd.ntmps16
    go_wp2_with (at_make; refine wpList_make_full _ rfl _ _ 39 rfl w.heap.size 9 i0 (.string ⟨#[]⟩) 1 Tryd.underlying39 HI.out H0.out H1.out _ _ _ _ xs.length rfl rfl rfl rfl hb4 hml (Nat.le_refl _) ?_; intro w1 hown hgrow)
    rw [Nat.mul_one, show (madeCells (Value.string ⟨#[]⟩).cells xs.length).toList = cpv (xs.map word) (.string ⟨#[]⟩) 0 by
      rw [cpv_zero, List.length_map]; exact toList_madeCells_one _ _] at hown
    have hbel : Below w.heap.size w w1 := (Below.refl _ _).grown hgrow (Nat.le_refl _) (fun k h => by cases h)
    clear hgrow hb4 hml HI H0 H1 H2 hd
    go_loopw [23] (fun i wr => ∃ k : Nat, k ≤ xs.length ∧ i = .int .i64 k ∧ wr.ownsRow w.heap.size 9 1 (.slice (some ⟨w.heap.size, 0, none⟩) xs.length xs.length) xs.length (cpv (xs.map word) (.string ⟨#[]⟩) k) ∧ Below w.heap.size w wr) (fun i _ => xs.length - (intOf i).toNat)
    case atStart => exact ⟨0, Nat.zero_le _, rfl, hown, hbel⟩
    case round =>
      clear hown hbel
      obtain ⟨k, hk, rfl, hown, hbel⟩ := hrel
      by_cases hlt : k < xs.length
      · have hcell := hbel.cell (p := ⟨b, off + k, none⟩) hb
        rw [HC.out k hlt] at hcell
        have bk := HB.out k hlt
        have hx : (xs.map word)[k]? = some (word (xs.getD k 0)) := by simp [List.getD, hlt]
        have hsz := hbel.size
        have HO := Lib.hid hown
        have HX := Lib.hid hx
        have HBL := Lib.hid hbel
        have hT1 := Lib.hid (pow_tab HTB.out hbel)
        have hg0 := (hown.lt w.heap.size rfl).2
        clear hown hx hbel
        generalize xs.getD k 0 = x at hcell bk HX
        go_wp2_with (go_at_call 17; refine (iDec_any x _ bk.1 bk.2 hT1.out).mono ?_; rintro e w2 ⟨rfl, b2⟩; refine Hid.out ?_)
        refine Lib.hid ?_
        have ho2 := HO.out.kept (grown_none b2) (.inr (by simp [Value.ownBlock]))
        have hw0 := ho2.cellAt k (by omega)
        rw [cpv_get _ _ k (by simpa using hlt)] at hw0
        have hfz := ho2.frozenAt k
        have hst := (ho2.stored k (word x)).1
        rw [cpv_set _ _ _ k (by simpa using hlt) HX.out] at hst
        have ST := Lib.hid hst
        have SB := Lib.hid ((HBL.out.trans (b2.mono hsz)).setCell (p := ⟨w.heap.size, k, none⟩) (Nat.le_refl _) (word x))
        unfold word at ST SB
        clear hst ho2 b2 hcell
        go_wp2
        go_roundw
        case rel => exact ⟨k + 1, by omega, by go_num, ST.out, SB.out⟩
        case measure => simp [intOf]; omega
      · have hkn : k = xs.length := by omega
        have hall : cpv (xs.map word) (.string ⟨#[]⟩) k = xs.map word := by rw [hkn, ← List.length_map (f := word)]; exact cpv_all _ _
        rw [hall] at hown
        have OW := Lib.hid hown
        have hg0 := (hown.lt w.heap.size rfl).2
        have hbs := hbel.size
        clear hall hown
        subst hkn
        clear hlt
        obtain ⟨ws, hws⟩ : ∃ ws : List ByteArray, ws = xs.map (fun x => (⟨(Lib.itoa x).toArray⟩ : ByteArray)) := ⟨_, rfl⟩
        have hwl : ws.length = xs.length := by rw [hws, List.length_map]
        have hjoin : (Lib.join (ws.map (·.data.toList)) [44]) = joinT xs := by rw [hws, List.map_map]; rfl
        have hcells : ∀ (j : Nat) y, ws[j]? = some y → wr.cell? ⟨w.heap.size, 0 + j, none⟩ = some (.string y) := by
          intro j y hj
          have hjl : j < xs.length := by rw [← hwl]; exact (List.getElem?_eq_some_iff.1 hj).1
          have h1 := OW.out.cellAt j (by omega)
          rw [Nat.zero_add, h1, List.getElem?_map]
          rw [hws, List.getElem?_map] at hj
          obtain ⟨z, hz, rfl⟩ := Option.map_eq_some_iff.1 hj
          rw [hz]; rfl
        have HJ := Lib.hid hjoin
        have HCL := Lib.hid hcells
        have HLEN := Lib.hid (joinT_len xs HL.out)
        clear hjoin hcells hws
        go_wp2_with (go_at_call 23; rw [← hwl]; refine (Tryd.strings_Join w.heap.size 0 ws.length ws ⟨#[44]⟩ wr HCL.out hg0 (by omega) (Nat.le_refl _) (by rw [show (⟨#[44]⟩ : ByteArray).data.toList = [44] from rfl, HJ.out]; have := HLEN.out; omega)).mono ?_; rintro e w2 ⟨rfl, b2⟩)
        go_ret2
        exact ⟨by rw [HT.out, ← HJ.out]; rfl, hbel.trans (b2.mono hbs)⟩

theorem iListText_yes (v : Value) (xs : List Int) (w : World) (hv : NS .i64 w v xs) (hok : okL xs = true) (htab : Lib.TabIs Tryd.prog w "internal/strconv.uint64pow10" .u64 Lib.pow10Tab) :
    Calls Tryd.prog 7 #[v] w fun e w' => e = .returned (.tuple #[.string ⟨(textT xs).toArray⟩, .bool true]) ∧ Below w.heap.size w w' := by
  have hv' := hv
  obtain ⟨a, cap, rfl, hlc, hcm, hwf, hmem⟩ := hv
  have hn : xs.length ≤ 64 := by unfold okL at hok; simp at hok; exact hok.2
  have HA := Lib.hid (show xs.all inR = true by unfold okL at hok; simp at hok; simp; exact hok.1)
  clear hok hwf
  unfold maxLen at hcm
  go_enter Tryd.func7, Tryd.ntmps7
  go_wp2
  go_loop [8] (fun i => ∃ k : Nat, k ≤ xs.length ∧ i = .int .i64 k) (fun i => xs.length - (intOf i).toNat)
  case atStart => exact ⟨0, Nat.zero_le _, rfl⟩
  case round =>
    obtain ⟨k, hk, rfl⟩ := hrel
    by_cases hlt : k < xs.length
    · rcases hmem with rfl | ⟨b, off, rfl, hb, hc⟩
      · simp at hlt
      have hcell := hc k hlt
      clear hc
      have hx : inR (xs.getD k 0) = true := by
        have := List.all_eq_true.1 HA.out (xs.getD k 0) (by simp [List.getD, hlt])
        exact this
      have E1 := Lib.hid hx
      unfold inR at E1
      clear hx
      generalize xs.getD k 0 = x at hcell E1
      go_wp2_with (go_at_call 15; refine (iVal_any _ _).mono ?_; rw [E1.out]; rintro e w' ⟨rfl, rfl⟩)
      go_round
      case rel => exact ⟨k + 1, by omega, by go_num⟩
      case measure => simp [intOf]; omega
    · have : k = xs.length := by omega
      subst this
      clear hlt
      go_wp2_with (go_at_call 16; refine (iJoin_any _ xs _ hv' hn htab).mono ?_; rintro e w1 ⟨rfl, b1⟩)
      go_ret2
      exact ⟨rfl, b1⟩

theorem iJoin_no (v : Value) (xs : List Int) (w : World) (hv : NS .i64 w v xs) (hn : 64 < xs.length) :
    Calls Tryd.prog 16 #[v, .int .i64 64, .func (.func 17) #[] #[]] w fun e w' => e = .returned (.tuple #[.string ⟨#[]⟩, .bool false]) ∧ w = w' := by
  obtain ⟨a, cap, rfl, hlc, hcm, hwf, hmem⟩ := hv
  have hd : decide ((64 : Int) < (xs.length : Int)) = true := decide_eq_true (by omega)
  clear hwf hmem hcm hlc
  go_enter Tryd.func16, Tryd.ntmps16
  go_wp2
  go_ret2
  exact ⟨rfl, rfl⟩

theorem iListText_no (v : Value) (xs : List Int) (w : World) (hv : NS .i64 w v xs) (hok : okL xs = false) :
    Calls Tryd.prog 7 #[v] w fun e w' => e = .returned (.tuple #[.string ⟨#[]⟩, .bool false]) ∧ w = w' := by
  have hv' := hv
  obtain ⟨a, cap, rfl, hlc, hcm, hwf, hmem⟩ := hv
  have HK := Lib.hid hok
  clear hok hwf
  unfold maxLen at hcm
  go_enter Tryd.func7, Tryd.ntmps7
  go_wp2
  go_loop [8] (fun i => ∃ k : Nat, k ≤ xs.length ∧ i = .int .i64 k ∧ Hid ((xs.take k).all inR = true)) (fun i => xs.length - (intOf i).toNat)
  case atStart => exact ⟨0, Nat.zero_le _, rfl, Lib.hid rfl⟩
  case round =>
    obtain ⟨k, hk, rfl, HA⟩ := hrel
    by_cases hlt : k < xs.length
    · rcases hmem with rfl | ⟨b, off, rfl, hb, hc⟩
      · simp at hlt
      have hcell := hc k hlt
      clear hc
      by_cases hx : inR (xs.getD k 0) = true
      · have HB := Lib.hid (all_take xs k hlt HA.out hx)
        have E1 := Lib.hid hx
        unfold inR at E1
        clear hx
        generalize xs.getD k 0 = x at hcell E1
        go_wp2_with (go_at_call 15; refine (iVal_any _ _).mono ?_; rw [E1.out]; rintro e w' ⟨rfl, rfl⟩)
        go_round
        case rel => exact ⟨k + 1, by omega, by go_num, HB⟩
        case measure => simp [intOf]; omega
      · have hx' : inR (xs.getD k 0) = false := by simpa using hx
        have E1 := Lib.hid hx'
        unfold inR at E1
        clear hx hx'
        generalize xs.getD k 0 = x at hcell E1
        go_wp2_with (go_at_call 15; refine (iVal_any _ _).mono ?_; rw [E1.out]; rintro e w' ⟨rfl, rfl⟩)
        go_ret2
        exact ⟨rfl, rfl⟩
    · have : k = xs.length := by omega
      subst this
      have hlong : 64 < xs.length := by
        have h1 := HA.out
        rw [List.take_of_length_le (Nat.le_refl _)] at h1
        have h2 := HK.out
        unfold okL at h2
        rw [h1, Bool.true_and] at h2
        exact Nat.lt_of_not_le (of_decide_eq_false h2)
      clear hlt
      go_wp2_with (go_at_call 16; refine (iJoin_no _ xs _ hv' hlong).mono ?_; rintro e w1 ⟨rfl, rfl⟩)
      go_ret2
      exact ⟨rfl, rfl⟩
end Go.Proofs.YtnipdbphfnppeadDoor
