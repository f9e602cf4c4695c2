/-
  ListText: the model's function.
-/
import Derived.Test.YtnipdbphfnppeadDoorDecR
import Derived.Test.YtnipdbphfnppeadDoorNlC
namespace Go.Proofs.YtnipdbphfnppeadDoor
open Go.Nl Go.RowKit Go.Dec

def inR (n : Int) : Bool := decide (-1000000000000000 ≤ n) && decide (n ≤ 1000000000000000)
def okL (xs : List Int) : Bool := xs.all inR && decide (xs.length ≤ 64)
def joinT (xs : List Int) : List UInt8 := Lib.join (xs.map Lib.itoa) [44]
def textT (xs : List Int) : List UInt8 := if xs = [] then [110, 111, 110, 101] else joinT xs

theorem all_take (xs : List Int) (k : Nat) (h : k < xs.length) (h1 : (xs.take k).all inR = true) (h2 : inR (xs.getD k 0) = true) : (xs.take (k + 1)).all inR = true := by
  rw [List.take_succ_eq_append_getElem h, List.all_append, h1]
  have : xs.getD k 0 = xs[k] := by simp [List.getD, h]
  rw [this] at h2
  simp [h2]
theorem all_not (xs : List Int) (k : Nat) (h : k < xs.length) (h2 : inR (xs.getD k 0) = false) : xs.all inR = false := by
  have : xs.getD k 0 = xs[k] := by simp [List.getD, h]
  rw [this] at h2
  rw [List.all_eq_false]
  exact ⟨xs[k], List.getElem_mem h, by simp [h2]⟩

theorem sList_any (v : Value) (xs : List Int) (w : World) (hv : NS .i64 w v xs) (hn : xs.length ≤ 1048576) : Calls Tryd.prog 13 #[v] w fun e w' => e = .returned (.bool (okL xs)) ∧ ∃ n, w' = w.drewN n := by
  obtain ⟨a, cap, rfl, hlc, hcm, hwf, hmem⟩ := hv
  clear hwf
  unfold maxLen at hcm
  go_enter Tryd.func13, Tryd.ntmps13
  go_wp2
  go_loopw [3] (fun i wr => ∃ k : Nat, k ≤ xs.length ∧ i = .int .i64 k ∧ Hid ((xs.take k).all inR = true) ∧ ∃ n, wr = w.drewN n) (fun i _ => xs.length - (intOf i).toNat)
  case atStart => exact ⟨0, Nat.zero_le _, rfl, Lib.hid rfl, 0, rfl⟩
  case round =>
    obtain ⟨k, hk, rfl, HA, n, rfl⟩ := hrel
    by_cases hlt : k < xs.length
    · rcases hmem with rfl | ⟨b, off, rfl, hb, hc⟩
      · simp at hlt
      have hcell := hc k hlt
      clear hc
      by_cases hx : inR (xs.getD k 0) = true
      · have HB := Lib.hid (all_take xs k hlt HA.out hx)
        have E1 := Lib.hid hx
        unfold inR at E1
        clear hx
        generalize xs.getD k 0 = x at hcell E1
        go_wp2_with (go_at_call 21; refine (l00In_any _ _ _ _).mono ?_; rw [E1.out]; rintro e w' ⟨rfl, rfl⟩)
        go_roundw
        case rel => exact ⟨k + 1, by omega, by go_num, HB, _, rfl⟩
        case measure => simp [intOf]; omega
      · have hx' : inR (xs.getD k 0) = false := by simpa using hx
        have HN := Lib.hid (show okL xs = false by unfold okL; rw [all_not xs k hlt hx']; rfl)
        have E1 := Lib.hid hx'
        unfold inR at E1
        clear hx hx'
        generalize xs.getD k 0 = x at hcell E1
        go_wp2_with (go_at_call 21; refine (l00In_any _ _ _ _).mono ?_; rw [E1.out]; rintro e w' ⟨rfl, rfl⟩)
        go_ret
        exact ⟨by rw [HN.out]; rfl, _, rfl⟩
    · have : k = xs.length := by omega
      subst this
      have HE := Lib.hid (show okL xs = decide ((xs.length : Int) ≤ 64) by have := HA.out; rw [List.take_of_length_le (Nat.le_refl _)] at this; unfold okL; rw [this, Bool.true_and, Bool.eq_iff_iff]; simp; omega)
      clear hlt
      go_wp2
      go_ret
      exact ⟨by rw [HE.out]; rfl, _, rfl⟩

theorem joinTail_snoc (sep : List UInt8) (r : List (List UInt8)) (x : List UInt8) : Lib.joinTail sep (r ++ [x]) = Lib.joinTail sep r ++ (sep ++ x) := by
  unfold Lib.joinTail; simp
theorem joinT_snoc (xs : List Int) (k : Nat) (h0 : 1 ≤ k) (h : k < xs.length) : joinT (xs.take (k + 1)) = joinT (xs.take k) ++ (44 :: Lib.itoa (xs.getD k 0)) := by
  have hx : xs.getD k 0 = xs[k] := by simp [List.getD, h]
  rw [hx, List.take_succ_eq_append_getElem h]
  unfold joinT
  cases xs with
  | nil => simp at h
  | cons y ys =>
    cases k with
    | zero => omega
    | succ k =>
      rw [List.take_succ_cons, List.cons_append, List.map_cons, List.map_cons, List.map_append, Lib.join_cons, Lib.join_cons, List.map_cons, List.map_nil, joinTail_snoc, List.append_assoc]
      rfl
theorem joinT_one (xs : List Int) (h : 0 < xs.length) : joinT (xs.take 1) = Lib.itoa (xs.getD 0 0) := by
  cases xs with
  | nil => simp at h
  | cons y ys => unfold joinT; rw [List.take_succ_cons, List.take_zero, List.map_cons, List.map_nil, Lib.join_one]; rfl
theorem joinT_len (xs : List Int) (hin : ∀ x ∈ xs, -9223372036854775808 ≤ x ∧ x ≤ 9223372036854775807) : (joinT xs).length ≤ 22 * xs.length := by
  unfold joinT
  cases xs with
  | nil => simp [Lib.join_nil]
  | cons y ys =>
    rw [List.map_cons, Lib.join_length, List.length_map]
    have h : ∀ l : List Int, (∀ x ∈ l, -9223372036854775808 ≤ x ∧ x ≤ 9223372036854775807) → Lib.lens (l.map Lib.itoa) ≤ 21 * l.length := by
      intro l
      induction l with
      | nil => intro _; simp [Lib.lens]
      | cons z zs ih =>
        intro hz
        have h1 := ih (fun x hx => hz x (List.mem_cons_of_mem _ hx))
        have h2 := Lib.itoa_length_le z (hz z (List.mem_cons_self ..)).1 (hz z (List.mem_cons_self ..)).2
        simp only [Lib.lens, List.map_cons, List.length_cons] at *
        simp at *
        omega
    have := h (y :: ys) hin
    rw [List.map_cons] at this
    simp at *
    omega

theorem wf_bounds {xs : List Int} (hwf : ∀ x ∈ xs, (Lit.int .i64 x).wf = true) (k : Nat) (h : k < xs.length) : -9223372036854775808 ≤ xs.getD k 0 ∧ xs.getD k 0 ≤ 9223372036854775807 :=
  bounds_i64 (hwf _ (by simp [List.getD, h]))

theorem str_cat (a b : List UInt8) : (⟨a.toArray⟩ : ByteArray) ++ ((⟨#[44]⟩ : ByteArray) ++ (⟨b.toArray⟩ : ByteArray)) = ⟨(a ++ 44 :: b).toArray⟩ := by
  apply ByteArray.ext
  apply Array.ext'
  simp

set_option maxHeartbeats 1000000 in
theorem sText_any (v : Value) (xs : List Int) (w : World) (hv : NS .i64 w v xs) (hn : xs.length ≤ 64) : Calls Tryd.prog 14 #[v] w fun e w' => e = .returned (.string ⟨(textT xs).toArray⟩) ∧ Below w.heap.size w w' := by
  obtain ⟨a, cap, rfl, hlc, hcm, hwf, hmem⟩ := hv
  unfold maxLen at hcm
  by_cases h0 : xs = []
  · subst h0
    go_enter Tryd.func14, Tryd.ntmps14
    go_wp2
    go_ret
    exact ⟨rfl, Below.refl _ _⟩
  · have hpos : 0 < xs.length := List.length_pos_iff.2 h0
    have HT := Lib.hid (show textT xs = joinT xs by unfold textT; rw [if_neg h0])
    have hd : ((xs.length : Int) == 0) = false := by simp; omega
    rcases hmem with rfl | ⟨b, off, rfl, hb, hc⟩
    · exact absurd rfl h0
    have hc0 := hc 0 hpos
    rw [Nat.add_zero] at hc0
    have HB := Lib.hid (fun k h => wf_bounds hwf k h)
    have HL := Lib.hid (fun x hx => bounds_i64 (hwf x hx))
    have b0 := HB.out 0 hpos
    have H1 := Lib.hid (joinT_one xs hpos)
    have HC := Lib.hid hc
    clear hwf hc h0
    generalize xs.getD 0 0 = x0 at hc0 b0 H1
    go_enter Tryd.func14, Tryd.ntmps14
    go_wp2_with (go_at_call 22; refine (sDec_any x0 _ b0.1 b0.2).mono ?_; rintro e w1 ⟨rfl, b1⟩)
    clear hc0 hd
    go_loopw [3, 4] (fun s i wr => ∃ k : Nat, 1 ≤ k ∧ k ≤ xs.length ∧ i = .int .i64 k ∧ s = .string ⟨(joinT (xs.take k)).toArray⟩ ∧ Below w.heap.size w wr) (fun _ i _ => xs.length - (intOf i).toNat)
    case atStart => exact ⟨1, Nat.le_refl _, hpos, rfl, by rw [H1.out], b1⟩
    case round =>
      clear b1
      obtain ⟨k, hk1, hk, rfl, rfl, hbel⟩ := hrel
      by_cases hlt : k < xs.length
      · have hcell := hbel.cell (p := ⟨b, off + k, none⟩) hb
        rw [HC.out k hlt] at hcell
        have bk := HB.out k hlt
        have HJ := Lib.hid (joinT_snoc xs k hk1 hlt)
        have hlen : (joinT (xs.take k)).length ≤ 1408 := by
          have := joinT_len (xs.take k) (fun x hx => HL.out x (List.mem_of_mem_take hx))
          have h2 := List.length_take_le k xs
          omega
        have hsz := hbel.size
        generalize xs.getD k 0 = x at hcell bk HJ
        have hil := Lib.itoa_length_le x bk.1 bk.2
        go_wp2_with (first | (go_at_call 22; refine (sDec_any x _ bk.1 bk.2).mono ?_; rintro e w2 ⟨rfl, b2⟩))
        go_roundw
        case rel => exact ⟨k + 1, by omega, by omega, by go_num, by rw [HJ.out, str_cat], hbel.trans (b2.mono hsz)⟩
        case measure => simp [intOf]; omega
      · have hkn : k = xs.length := by omega
        subst hkn
        have HE := Lib.hid (show joinT (xs.take xs.length) = joinT xs by rw [List.take_of_length_le (Nat.le_refl _)])
        clear hlt
        go_wp2
        go_ret
        exact ⟨by rw [HT.out, ← HE.out]; rfl, hbel⟩

theorem sListText_yes (v : Value) (xs : List Int) (w : World) (hv : NS .i64 w v xs) (hok : okL xs = true) : Calls Tryd.prog 5 #[v] w fun e w' => e = .returned (.tuple #[.string ⟨(textT xs).toArray⟩, .bool true]) ∧ Below w.heap.size w w' := by
  have hn : xs.length ≤ 64 := by unfold okL at hok; simp at hok; exact hok.2
  have HK := Lib.hid hok
  clear hok
  go_enter Tryd.func5, Tryd.ntmps5
  go_wp2_with (first | (go_at_call 13; refine (sList_any v xs _ hv (by omega)).mono ?_; rw [HK.out]; rintro e w1 ⟨rfl, n, rfl⟩) | (go_at_call 14; refine (sText_any v xs _ (hv.drewN _) hn).mono ?_; rintro e w2 ⟨rfl, b2⟩))
  go_ret2
  exact ⟨rfl, (below_drewN (Below.refl _ _) _).trans b2⟩

theorem sListText_no (v : Value) (xs : List Int) (w : World) (hv : NS .i64 w v xs) (hn : xs.length ≤ 1048576) (hok : okL xs = false) : Calls Tryd.prog 5 #[v] w fun e w' => e = .returned (.tuple #[.string ⟨#[]⟩, .bool false]) ∧ Below w.heap.size w w' := by
  have HK := Lib.hid hok
  clear hok
  go_enter Tryd.func5, Tryd.ntmps5
  go_wp2_with (first | (go_at_call 13; refine (sList_any v xs _ hv hn).mono ?_; rw [HK.out]; rintro e w1 ⟨rfl, n, rfl⟩))
  go_ret2
  exact ⟨rfl, below_drewN (Below.refl _ _) _⟩
end Go.Proofs.YtnipdbphfnppeadDoor
