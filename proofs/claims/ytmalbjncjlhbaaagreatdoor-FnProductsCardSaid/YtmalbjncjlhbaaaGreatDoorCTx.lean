/-
  ComplexText: the program's text of complex numbers.
-/
import Derived.Test.YtmalbjncjlhbaaaGreatDoorNTxt
import Derived.Test.YtmalbjncjlhbaaaGreatDoorCl
namespace Go.Proofs.YtmalbjncjlhbaaaGreatDoor
open Go.Fl Go.RowKit
set_option linter.unusedSimpArgs false
set_option linter.unusedVariables false

def hexC (p : Nat × Nat) : List UInt8 := hexT p.1 ++ hexT p.2
def joinC (xs : List (Nat × Nat)) : List UInt8 := Lib.join (xs.map hexC) [44]
def textC (xs : List (Nat × Nat)) : List UInt8 := if xs = [] then [110, 111, 110, 101] else joinC xs
def wordC (p : Nat × Nat) : Value := .string ⟨(hexC p).toArray⟩
theorem hexC_len (p : Nat × Nat) : (hexC p).length = 16 := by unfold hexC; rw [List.length_append, hexT_len, hexT_len]
theorem joinTailC_len : ∀ xs : List (Nat × Nat), (Lib.joinTail [44] (xs.map hexC)).length = 17 * xs.length
  | [] => rfl
  | x :: xs => by
    have := joinTailC_len xs
    unfold Lib.joinTail at this ⊢
    rw [List.map_cons, List.map_cons, List.flatten_cons, List.length_append, this, List.length_append, hexC_len, List.length_cons]
    simp; omega
theorem joinC_len (xs : List (Nat × Nat)) : (joinC xs).length ≤ 17 * xs.length := by
  unfold joinC
  cases xs with
  | nil => rw [List.map_nil, Lib.join_nil]; simp
  | cons x r => rw [List.map_cons, Lib.join_cons, List.length_append, hexC_len, joinTailC_len, List.length_cons]; omega

/-- The slice v has the complex numbers xs. -/
def CS (w : World) (v : Value) (xs : List (Nat × Nat)) : Prop :=
  ∃ a cap, v = .slice a xs.length cap ∧ xs.length ≤ cap ∧ cap ≤ maxLen ∧ c32 xs ∧
    (xs = [] ∨ ∃ b off, a = some ⟨b, off, none⟩ ∧ b < w.heap.size ∧ ∀ i, i < xs.length → w.cell? ⟨b, off + i, none⟩ = some (cV (xs.getD i (0, 0))))
theorem cs_lt {xs : List (Nat × Nat)} (h : c32 xs) (k : Nat) (hk : k < xs.length) : (xs.getD k (0, 0)).1 < 4294967296 ∧ (xs.getD k (0, 0)).2 < 4294967296 := by
  have hm : xs.getD k (0, 0) ∈ xs := by rw [List.getD_eq_getElem?_getD, List.getElem?_eq_getElem hk]; exact List.getElem_mem hk
  have := h _ hm
  rwa [w32] at this

set_option maxHeartbeats 1000000 in
theorem iCText_any (x y : Nat) (w : World) (hx : x < 4294967296) (hy : y < 4294967296) (h : TzAt w) : Calls Tryz.prog 66 #[.complex .f32 x y] w fun e w' => e = .returned (.string ⟨(hexC (x, y)).toArray⟩) ∧ Below w.heap.size w w' := by
  have HT := Lib.hid h
  clear h
  go_enter Tryz.func66, Tryz.ntmps66
  go_wp2_with fail
  refine (iText_any x _ hx HT.out).mono ?_
  rintro e w1 ⟨rfl, b1⟩
  have HB := Lib.hid b1
  have HT1 := Lib.hid (HT.out.on b1)
  clear b1
  go_wp2_with fail
  refine (iText_any y _ hy HT1.out).mono ?_
  rintro e w2 ⟨rfl, b2⟩
  have HB2 := Lib.hid (HB.out.trans (b2.mono HB.out.size))
  clear b2
  have l1 := hexT_len x
  have l2 := hexT_len y
  go_wp2
  go_ret
  exact ⟨by rw [str_add]; rfl, HB2.out⟩

set_option maxHeartbeats 1000000 in
set_option maxRecDepth 100000 in
theorem iJoinC_any (v : Value) (xs : List (Nat × Nat)) (w : World) (hv : CS w v xs) (hn : xs.length ≤ 256) (htz : TzAt w) :
    Calls Tryz.prog 65 #[v, .int .i64 256, .func (.func 66) #[] #[]] w fun e w' => e = .returned (.tuple #[.string ⟨(textC xs).toArray⟩, .bool true]) ∧ Below w.heap.size w w' := by
  obtain ⟨a, cap, rfl, hlc, hcm, hwf, hmem⟩ := hv
  unfold maxLen at hcm
  by_cases h0 : xs = []
  · subst h0
    go_enter Tryz.func65, Tryz.ntmps65
    go_wp2
    go_ret2
    exact ⟨rfl, Below.refl _ _⟩
  · have hpos : 0 < xs.length := List.length_pos_iff.2 h0
    have HT := Lib.hid (show textC xs = joinC xs by unfold textC; rw [if_neg h0])
    have hd : ((xs.length : Int) == 0) = false := by simp; omega
    rcases hmem with rfl | ⟨b, off, rfl, hb, hc⟩
    · exact absurd rfl h0
    obtain ⟨i0, hi, hz0, hz1, hz2⟩ := info_parts Sinfo
    have hb4 : i0.bytes * xs.length ≤ 281474976710656 := by rw [hz2]; omega
    have hml : xs.length ≤ maxLen := by unfold maxLen; omega
    have HI := Lib.hid hi; have H0 := Lib.hid hz0; have H1 := Lib.hid hz1; have H2 := Lib.hid hz2
    have HB := Lib.hid (fun k h => cs_lt hwf k h)
    have HC := Lib.hid hc
    have HTB := Lib.hid htz
    clear hi hz0 hz1 hz2 hwf hc h0 htz
    go_enter Tryz.func65, Tryz.ntmps65
    go_wp2_with (at_make; refine wpList_make_full _ rfl _ _ 94 rfl w.heap.size 9 i0 (.string ⟨#[]⟩) 1 Tryz.underlying94 HI.out H0.out H1.out _ _ _ _ xs.length rfl rfl rfl rfl hb4 hml (Nat.le_refl _) ?_; intro w1 hown hgrow)
    rw [Nat.mul_one, show (madeCells (Value.string ⟨#[]⟩).cells xs.length).toList = cpv (xs.map wordC) (.string ⟨#[]⟩) 0 by
      rw [cpv_zero, List.length_map]; exact toList_madeCells_one _ _] at hown
    have hbel : Below w.heap.size w w1 := (Below.refl _ _).grown hgrow (Nat.le_refl _) (fun k h => by cases h)
    clear hgrow hb4 hml HI H0 H1 H2 hd
    go_loopw [23] (fun i wr => ∃ k : Nat, k ≤ xs.length ∧ i = .int .i64 k ∧ wr.ownsRow w.heap.size 9 1 (.slice (some ⟨w.heap.size, 0, none⟩) xs.length xs.length) xs.length (cpv (xs.map wordC) (.string ⟨#[]⟩) k) ∧ Below w.heap.size w wr) (fun i _ => xs.length - (intOf i).toNat)
    case atStart => exact ⟨0, Nat.zero_le _, rfl, hown, hbel⟩
    case round =>
      clear hown hbel
      obtain ⟨k, hk, rfl, hown, hbel⟩ := hrel
      by_cases hlt : k < xs.length
      · have hcell := hbel.cell (p := ⟨b, off + k, none⟩) hb
        rw [HC.out k hlt] at hcell
        have bk := HB.out k hlt
        have hx : (xs.map wordC)[k]? = some (wordC (xs.getD k (0, 0))) := by simp [List.getD, hlt]
        have hsz := hbel.size
        have HO := Lib.hid hown
        have HX := Lib.hid hx
        have HBL := Lib.hid hbel
        have hT1 := Lib.hid (HTB.out.on hbel)
        have hg0 := (hown.lt w.heap.size rfl).2
        clear hown hx hbel
        generalize xs.getD k (0, 0) = x at hcell bk HX
        go_wp2_with (go_at_call 66; refine (iCText_any x.1 x.2 _ bk.1 bk.2 hT1.out).mono ?_; rintro e w2 ⟨rfl, b2⟩; refine Hid.out ?_)
        refine Lib.hid ?_
        have ho2 := HO.out.kept (grown_none b2) (.inr (by simp [Value.ownBlock]))
        have hw0 := ho2.cellAt k (by omega)
        rw [cpv_get _ _ k (by simpa using hlt)] at hw0
        have hfz := ho2.frozenAt k
        have hst := (ho2.stored k (wordC x)).1
        rw [cpv_set _ _ _ k (by simpa using hlt) HX.out] at hst
        have ST := Lib.hid hst
        have SB := Lib.hid ((HBL.out.trans (b2.mono hsz)).setCell (p := ⟨w.heap.size, k, none⟩) (Nat.le_refl _) (wordC x))
        unfold wordC at ST SB
        clear hst ho2 b2 hcell
        go_wp2
        go_roundw
        case rel => exact ⟨k + 1, by omega, by go_num, ST.out, SB.out⟩
        case measure => simp [intOf]; omega
      · have hkn : k = xs.length := by omega
        have hall : cpv (xs.map wordC) (.string ⟨#[]⟩) k = xs.map wordC := by rw [hkn, ← List.length_map (f := wordC)]; exact cpv_all _ _
        rw [hall] at hown
        have OW := Lib.hid hown
        have hg0 := (hown.lt w.heap.size rfl).2
        have hbs := hbel.size
        clear hall hown
        subst hkn
        clear hlt
        obtain ⟨ws, hws⟩ : ∃ ws : List ByteArray, ws = xs.map (fun x => (⟨(hexC x).toArray⟩ : ByteArray)) := ⟨_, rfl⟩
        have hwl : ws.length = xs.length := by rw [hws, List.length_map]
        have hjoin : (Lib.join (ws.map (·.data.toList)) [44]) = joinC xs := by rw [hws, List.map_map]; rfl
        have hcells : ∀ (j : Nat) y, ws[j]? = some y → wr.cell? ⟨w.heap.size, 0 + j, none⟩ = some (.string y) := by
          intro j y hj
          have hjl : j < xs.length := by rw [← hwl]; exact (List.getElem?_eq_some_iff.1 hj).1
          have h1 := OW.out.cellAt j (by omega)
          rw [Nat.zero_add, h1, List.getElem?_map]
          rw [hws, List.getElem?_map] at hj
          obtain ⟨z, hz, rfl⟩ := Option.map_eq_some_iff.1 hj
          rw [hz]; rfl
        have HJ := Lib.hid hjoin
        have HCL := Lib.hid hcells
        have HLEN := Lib.hid (joinC_len xs)
        clear hjoin hcells hws
        go_wp2_with (go_at_call 79; rw [← hwl]; refine (Tryz.strings_Join w.heap.size 0 ws.length ws ⟨#[44]⟩ wr HCL.out hg0 (by omega) (Nat.le_refl _) (by rw [show (⟨#[44]⟩ : ByteArray).data.toList = [44] from rfl, HJ.out]; have := HLEN.out; omega)).mono ?_; rintro e w2 ⟨rfl, b2⟩)
        go_ret2
        exact ⟨by rw [HT.out, ← HJ.out]; rfl, hbel.trans (b2.mono hbs)⟩

theorem iComplexText_yes (v : Value) (xs : List (Nat × Nat)) (w : World) (hv : CS w v xs) (hn : xs.length ≤ 256) (htz : TzAt w) : Calls Tryz.prog 30 #[v] w fun e w' => e = .returned (.tuple #[.string ⟨(textC xs).toArray⟩, .bool true]) ∧ Below w.heap.size w w' := by
  have HV := Lib.hid hv
  have HT := Lib.hid htz
  clear hv htz
  go_enter Tryz.func30, Tryz.ntmps30
  go_wp2_with (go_at_call 65; refine (iJoinC_any _ xs _ HV.out hn HT.out).mono ?_; rintro e w1 ⟨rfl, b1⟩)
  go_ret2
  exact ⟨rfl, b1⟩
end Go.Proofs.YtmalbjncjlhbaaaGreatDoor
