/-
  NumbersText: the model's function and the program's.
-/
import Derived.Test.YtmalbjncjlhbaaaGreatDoorHexS
namespace Go.Proofs.YtmalbjncjlhbaaaGreatDoor
open Go.Fl Go.RowKit

theorem grown_none {w w' : World} (h : Below w.heap.size w w') : w.grownBy w' none := ⟨h.os, h.tape, h.output, h.size, fun k hk _ => h.block k hk⟩

def joinN (xs : List Nat) : List UInt8 := Lib.join (xs.map hexT) [44]
def textN (xs : List Nat) : List UInt8 := if xs = [] then [110, 111, 110, 101] else joinN xs

theorem hexT_len (x : Nat) : (hexT x).length = 8 := hexK_len _ 8
theorem joinTail_snocN (sep : List UInt8) (r : List (List UInt8)) (x : List UInt8) : Lib.joinTail sep (r ++ [x]) = Lib.joinTail sep r ++ (sep ++ x) := by
  unfold Lib.joinTail; simp
theorem joinN_snoc (xs : List Nat) (k : Nat) (h0 : 1 ≤ k) (h : k < xs.length) : joinN (xs.take (k + 1)) = joinN (xs.take k) ++ (44 :: hexT (xs.getD k 0)) := by
  have hx : xs.getD k 0 = xs[k] := by simp [List.getD, h]
  rw [hx, List.take_succ_eq_append_getElem h]
  unfold joinN
  cases xs with
  | nil => simp at h
  | cons y ys =>
    cases k with
    | zero => omega
    | succ k =>
      rw [List.take_succ_cons, List.cons_append, List.map_cons, List.map_cons, List.map_append, Lib.join_cons, Lib.join_cons, List.map_cons, List.map_nil, joinTail_snocN, List.append_assoc]
      rfl
theorem joinN_one (xs : List Nat) (h : 0 < xs.length) : joinN (xs.take 1) = hexT (xs.getD 0 0) := by
  cases xs with
  | nil => simp at h
  | cons y ys => unfold joinN; rw [List.take_succ_cons, List.take_zero, List.map_cons, List.map_nil, Lib.join_one]; rfl
theorem joinN_len (xs : List Nat) : (joinN xs).length ≤ 9 * xs.length := by
  unfold joinN
  cases xs with
  | nil => simp [Lib.join_nil]
  | cons y ys =>
    rw [List.map_cons, Lib.join_length, List.length_map]
    have h : ∀ l : List Nat, Lib.lens (l.map hexT) = 8 * l.length := by
      intro l
      induction l with
      | nil => simp [Lib.lens]
      | cons z zs ih =>
        have h2 := hexT_len z
        simp only [Lib.lens, List.map_cons, List.length_cons] at *
        simp at *
        omega
    have := h (y :: ys)
    rw [List.map_cons] at this
    simp at *
    omega

theorem str_catN (a b : List UInt8) : (⟨a.toArray⟩ : ByteArray) ++ ((⟨#[44]⟩ : ByteArray) ++ (⟨b.toArray⟩ : ByteArray)) = ⟨(a ++ 44 :: b).toArray⟩ := by
  apply ByteArray.ext
  apply Array.ext'
  simp

theorem fs_lt {xs : List Nat} (hwf : ∀ x ∈ xs, x < 2 ^ FloatKind.f32.format.width) (k : Nat) (h : k < xs.length) : xs.getD k 0 < 4294967296 := by
  have h1 := hwf (xs.getD k 0) (by simp [List.getD, h])
  rwa [w32] at h1


theorem fs_form {w : World} {v : Value} {xs : List Nat} (hv : FS .f32 w v xs) : ∃ a cap, v = .slice a xs.length cap := by
  obtain ⟨a, cap, rfl, _⟩ := hv
  exact ⟨a, cap, rfl⟩



theorem Sinfo : (Tryz.prog.info? 9).map (fun i => (i.zero, i.size, i.bytes)) = some (some (.string ⟨#[]⟩), 1, 16) := by kernel_rfl

def wordN (x : Nat) : Value := .string ⟨(hexT x).toArray⟩

set_option maxHeartbeats 1000000 in
set_option maxRecDepth 100000 in
theorem iJoinN_any (v : Value) (xs : List Nat) (w : World) (hv : FS .f32 w v xs) (hn : xs.length ≤ 256) (htz : TzAt w) :
    Calls Tryz.prog 48 #[v, .int .i64 256, .func (.func 49) #[] #[]] w fun e w' => e = .returned (.tuple #[.string ⟨(textN xs).toArray⟩, .bool true]) ∧ Below w.heap.size w w' := by
  obtain ⟨a, cap, rfl, hlc, hcm, hwf, hmem⟩ := hv
  unfold maxLen at hcm
  by_cases h0 : xs = []
  · subst h0
    go_enter Tryz.func48, Tryz.ntmps48
    go_wp2
    go_ret2
    exact ⟨rfl, Below.refl _ _⟩
  · have hpos : 0 < xs.length := List.length_pos_iff.2 h0
    have HT := Lib.hid (show textN xs = joinN xs by unfold textN; rw [if_neg h0])
    have hd : ((xs.length : Int) == 0) = false := by simp; omega
    rcases hmem with rfl | ⟨b, off, rfl, hb, hc⟩
    · exact absurd rfl h0
    obtain ⟨i0, hi, hz0, hz1, hz2⟩ := info_parts Sinfo
    have hb4 : i0.bytes * xs.length ≤ 281474976710656 := by rw [hz2]; omega
    have hml : xs.length ≤ maxLen := by unfold maxLen; omega
    have HI := Lib.hid hi; have H0 := Lib.hid hz0; have H1 := Lib.hid hz1; have H2 := Lib.hid hz2
    have HB := Lib.hid (fun k h => fs_lt hwf k h)
    have HC := Lib.hid hc
    have HTB := Lib.hid htz
    clear hi hz0 hz1 hz2 hwf hc h0 htz
    go_enter Tryz.func48, Tryz.ntmps48
    go_wp2_with (at_make; refine wpList_make_full _ rfl _ _ 94 rfl w.heap.size 9 i0 (.string ⟨#[]⟩) 1 Tryz.underlying94 HI.out H0.out H1.out _ _ _ _ xs.length rfl rfl rfl rfl hb4 hml (Nat.le_refl _) ?_; intro w1 hown hgrow)
    rw [Nat.mul_one, show (madeCells (Value.string ⟨#[]⟩).cells xs.length).toList = cpv (xs.map wordN) (.string ⟨#[]⟩) 0 by
      rw [cpv_zero, List.length_map]; exact toList_madeCells_one _ _] at hown
    have hbel : Below w.heap.size w w1 := (Below.refl _ _).grown hgrow (Nat.le_refl _) (fun k h => by cases h)
    clear hgrow hb4 hml HI H0 H1 H2 hd
    go_loopw [23] (fun i wr => ∃ k : Nat, k ≤ xs.length ∧ i = .int .i64 k ∧ wr.ownsRow w.heap.size 9 1 (.slice (some ⟨w.heap.size, 0, none⟩) xs.length xs.length) xs.length (cpv (xs.map wordN) (.string ⟨#[]⟩) k) ∧ Below w.heap.size w wr) (fun i _ => xs.length - (intOf i).toNat)
    case atStart => exact ⟨0, Nat.zero_le _, rfl, hown, hbel⟩
    case round =>
      clear hown hbel
      obtain ⟨k, hk, rfl, hown, hbel⟩ := hrel
      by_cases hlt : k < xs.length
      · have hcell := hbel.cell (p := ⟨b, off + k, none⟩) hb
        rw [HC.out k hlt] at hcell
        have bk := HB.out k hlt
        have hx : (xs.map wordN)[k]? = some (wordN (xs.getD k 0)) := by simp [List.getD, hlt]
        have hsz := hbel.size
        have HO := Lib.hid hown
        have HX := Lib.hid hx
        have HBL := Lib.hid hbel
        have hT1 := Lib.hid (HTB.out.on hbel)
        have hg0 := (hown.lt w.heap.size rfl).2
        clear hown hx hbel
        generalize xs.getD k 0 = x at hcell bk HX
        go_wp2_with (go_at_call 49; refine (iText_any x _ bk hT1.out).mono ?_; rintro e w2 ⟨rfl, b2⟩; refine Hid.out ?_)
        refine Lib.hid ?_
        have ho2 := HO.out.kept (grown_none b2) (.inr (by simp [Value.ownBlock]))
        have hw0 := ho2.cellAt k (by omega)
        rw [cpv_get _ _ k (by simpa using hlt)] at hw0
        have hfz := ho2.frozenAt k
        have hst := (ho2.stored k (wordN x)).1
        rw [cpv_set _ _ _ k (by simpa using hlt) HX.out] at hst
        have ST := Lib.hid hst
        have SB := Lib.hid ((HBL.out.trans (b2.mono hsz)).setCell (p := ⟨w.heap.size, k, none⟩) (Nat.le_refl _) (wordN x))
        unfold wordN at ST SB
        clear hst ho2 b2 hcell
        go_wp2
        go_roundw
        case rel => exact ⟨k + 1, by omega, by go_num, ST.out, SB.out⟩
        case measure => simp [intOf]; omega
      · have hkn : k = xs.length := by omega
        have hall : cpv (xs.map wordN) (.string ⟨#[]⟩) k = xs.map wordN := by rw [hkn, ← List.length_map (f := wordN)]; exact cpv_all _ _
        rw [hall] at hown
        have OW := Lib.hid hown
        have hg0 := (hown.lt w.heap.size rfl).2
        have hbs := hbel.size
        clear hall hown
        subst hkn
        clear hlt
        obtain ⟨ws, hws⟩ : ∃ ws : List ByteArray, ws = xs.map (fun x => (⟨(hexT x).toArray⟩ : ByteArray)) := ⟨_, rfl⟩
        have hwl : ws.length = xs.length := by rw [hws, List.length_map]
        have hjoin : (Lib.join (ws.map (·.data.toList)) [44]) = joinN xs := by rw [hws, List.map_map]; rfl
        have hcells : ∀ (j : Nat) y, ws[j]? = some y → wr.cell? ⟨w.heap.size, 0 + j, none⟩ = some (.string y) := by
          intro j y hj
          have hjl : j < xs.length := by rw [← hwl]; exact (List.getElem?_eq_some_iff.1 hj).1
          have h1 := OW.out.cellAt j (by omega)
          rw [Nat.zero_add, h1, List.getElem?_map]
          rw [hws, List.getElem?_map] at hj
          obtain ⟨z, hz, rfl⟩ := Option.map_eq_some_iff.1 hj
          rw [hz]; rfl
        have HJ := Lib.hid hjoin
        have HCL := Lib.hid hcells
        have HLEN := Lib.hid (joinN_len xs)
        clear hjoin hcells hws
        go_wp2_with (go_at_call 79; rw [← hwl]; refine (Tryz.strings_Join w.heap.size 0 ws.length ws ⟨#[44]⟩ wr HCL.out hg0 (by omega) (Nat.le_refl _) (by rw [show (⟨#[44]⟩ : ByteArray).data.toList = [44] from rfl, HJ.out]; have := HLEN.out; omega)).mono ?_; rintro e w2 ⟨rfl, b2⟩)
        go_ret2
        exact ⟨by rw [HT.out, ← HJ.out]; rfl, hbel.trans (b2.mono hbs)⟩

theorem iJoinN_no (v : Value) (xs : List Nat) (w : World) (hv : FS .f32 w v xs) (hn : 256 < xs.length) :
    Calls Tryz.prog 48 #[v, .int .i64 256, .func (.func 49) #[] #[]] w fun e w' => e = .returned (.tuple #[.string ⟨#[]⟩, .bool false]) ∧ w' = w := by
  obtain ⟨a, cap, rfl⟩ := fs_form hv
  have hd : decide ((256 : Int) < (xs.length : Int)) = true := decide_eq_true (by omega)
  clear hv
  go_enter Tryz.func48, Tryz.ntmps48
  go_wp2
  go_ret2
  exact ⟨rfl, rfl⟩

theorem iNumbersText_yes (v : Value) (xs : List Nat) (w : World) (hv : FS .f32 w v xs) (hn : xs.length ≤ 256) (htz : TzAt w) : Calls Tryz.prog 13 #[v] w fun e w' => e = .returned (.tuple #[.string ⟨(textN xs).toArray⟩, .bool true]) ∧ Below w.heap.size w w' := by
  have HV := Lib.hid hv
  have HT := Lib.hid htz
  clear hv htz
  go_enter Tryz.func13, Tryz.ntmps13
  go_wp2_with (go_at_call 48; refine (iJoinN_any _ xs _ HV.out hn HT.out).mono ?_; rintro e w1 ⟨rfl, b1⟩)
  go_ret2
  exact ⟨rfl, b1⟩

theorem iNumbersText_no (v : Value) (xs : List Nat) (w : World) (hv : FS .f32 w v xs) (hn : 256 < xs.length) : Calls Tryz.prog 13 #[v] w fun e w' => e = .returned (.tuple #[.string ⟨#[]⟩, .bool false]) ∧ w' = w := by
  have HV := Lib.hid hv
  clear hv
  go_enter Tryz.func13, Tryz.ntmps13
  go_wp2_with (go_at_call 48; refine (iJoinN_no _ xs _ HV.out hn).mono ?_; rintro e w1 ⟨rfl, rfl⟩)
  go_ret2
  exact ⟨rfl, rfl⟩
end Go.Proofs.YtmalbjncjlhbaaaGreatDoor
