/-
  Which elements and lines are valid, of the program (parts behind an interface) and of the model.
-/
import Derived.Test.YtpnmledanloboaaElC
import Derived.Test.YtpnmledanloboaaMath
import Derived.BigQuiet
import Derived.Deep.QuietTactic
namespace Go.Proofs.Ytpnmledanloboaa
open Go.Fl Go.RowKit
set_option linter.unusedSimpArgs false
set_option linter.unusedVariables false

def numOk (k : Int) (N : Nat) : Bool := if k = 1 then fcmp .neq .f32 N 0 else if k = 2 then fcmp .geq .f32 N 0 else true
def okEl (t : El) : Bool := (fin .f32 t.N && fin .f32 t.P) && (decide (0 ≤ t.k ∧ t.k ≤ 4) && numOk t.k t.N)
def okLine (ts : List El) : Bool := decide (ts.length ≤ 32) && ts.all okEl
theorem okEl_false {t : El} (h : fin .f32 t.N = false ∨ fin .f32 t.P = false ∨ decide (0 ≤ t.k ∧ t.k ≤ 4) = false ∨ numOk t.k t.N = false) : okEl t = false := by
  unfold okEl; rcases h with h | h | h | h <;> rw [h] <;> simp

theorem sIn9 (n lo hi : Int) (w : World) : Calls Try.prog 80 #[.int .i64 n, .int .i64 lo, .int .i64 hi] w fun e w' => e = .returned (.bool (decide (lo ≤ n ∧ n ≤ hi))) ∧ w = w' := by
  by_cases h : lo ≤ n
  · go_enter Try.func80, Try.ntmps80
    go_wp2
    go_ret
    exact ⟨by simp [h], rfl⟩
  · go_enter Try.func80, Try.ntmps80
    go_wp2
    go_ret
    exact ⟨by simp; omega, rfl⟩
theorem sFin9 (x X : Nat) (ix : Is .f32 x X) (w : World) : Calls Try.prog 81 #[.float .f32 x] w fun e w' => e = .returned (.bool (fin .f32 X)) ∧ ∃ n, w' = w.drewN n := by
  have hq := sub_self .f32 X
  go_enter Try.func81, Try.ntmps81
  go_wp2_with (first | (apply wpList_farith; rfl; rfl; rfl; rfl; (first | with_reducible assumption | exact Is.const rfl); (first | with_reducible assumption | exact Is.const rfl); intro r n hr) | (apply wpList_fcmp; rfl; rfl; rfl; rfl; (first | with_reducible assumption | exact Is.const rfl); (first | with_reducible assumption | exact Is.const rfl); (first | with_reducible assumption | exact rfl)))
  go_ret
  exact ⟨rfl, _, rfl⟩
theorem iWide9 (x X : Nat) (ix : Is .f64 x X) (w : World) : Calls Try.prog 116 #[.float .f64 x] w fun e w' => e = .returned (.bool (fin .f64 X)) ∧ w = w' := by
  rw [← finWide]
  by_cases hc : fcmp .gtr .f64 (fabs X) 9218868437227405311 = true
  · rw [hc]
    go_enter Try.func116, Try.ntmps116
    go_wp2_with (first | (go_at_call 131; refine (isInf_any _ _ ix _).mono ?_; rintro e w' ⟨rfl, rfl⟩) | (go_at_call 132; refine (isNaN_any _ _ ix _).mono ?_; rintro e w' ⟨rfl, rfl⟩))
    go_ret
    exact ⟨rfl, rfl⟩
  · have hc' : fcmp .gtr .f64 (fabs X) 9218868437227405311 = false := by simpa using hc
    clear hc
    rw [hc']
    go_enter Try.func116, Try.ntmps116
    go_wp2_with (first | (go_at_call 131; refine (isInf_any _ _ ix _).mono ?_; rintro e w' ⟨rfl, rfl⟩) | (go_at_call 132; refine (isNaN_any _ _ ix _).mono ?_; rintro e w' ⟨rfl, rfl⟩))
    go_ret
    exact ⟨by simp, rfl⟩
theorem iFin9 (x X : Nat) (ix : Is .f32 x X) (w : World) : Calls Try.prog 109 #[.float .f32 x] w fun e w' => e = .returned (.bool (fin .f32 X)) ∧ ∃ n, w' = w.drewN n := by
  rw [← fin_wid]
  go_enter Try.func109, Try.ntmps109
  go_wp2_with (first | (apply wpList_wid; rfl; rfl; (first | with_reducible assumption | exact Is.const rfl); exact U32; exact U64; intro r n hr) | (go_at_call 116; refine (iWide9 _ _ (by assumption) _).mono ?_; rintro e w' ⟨rfl, rfl⟩))
  go_ret
  exact ⟨rfl, _, rfl⟩
def allFin9 (F : Nat → Nat) (n : Nat) : Bool := (List.range n).all fun j => fin .f32 (F j)
theorem allFin9_yes {F : Nat → Nat} {n : Nat} (h : ∀ j, j < n → fin .f32 (F j) = true) : allFin9 F n = true := List.all_eq_true.2 fun j hj => h j (List.mem_range.1 hj)
theorem allFin9_no {F : Nat → Nat} {n j : Nat} (hj : j < n) (h : fin .f32 (F j) = false) : allFin9 F n = false := by
  cases hf : allFin9 F n with
  | false => rfl
  | true => rw [List.all_eq_true.1 hf j (List.mem_range.2 hj)] at h; cases h
set_option maxRecDepth 100000 in
theorem areFinL9 (t : Value) (rs : List Nat) (F : Nat → Nat) (w : World) (hu : FS .f32 w t rs) (he : Eqs rs F) (hn : rs.length ≤ 1048576) :
    Calls Try.prog 84 #[t] w fun e w' => e = .returned (.bool (allFin9 F rs.length)) ∧ ∃ m, w' = w.drewN m := by
  obtain ⟨ok, hok⟩ : ∃ ok, allFin9 F rs.length = ok := ⟨_, rfl⟩
  rw [hok]
  have HOK := Lib.hid hok; have HE := Lib.hid he
  obtain ⟨a1, c1, rfl, hlc, hcm, hwf, hmem⟩ := hu
  unfold maxLen at hcm
  clear hok he
  go_enter Try.func84, Try.ntmps84
  go_wp2_with fail
  go_loopw [7] (fun i wr => ∃ k m : Nat, i = .int .i64 (k : Int) ∧ k ≤ rs.length ∧ wr = w.drewN m ∧ Hid (∀ j, j < k → fin .f32 (F j) = true)) (fun i _ => rs.length - (intOf i).toNat)
  case atStart => exact ⟨0, 0, rfl, Nat.zero_le _, rfl, Lib.hid (fun j h => absurd h (Nat.not_lt_zero _))⟩
  case round =>
    obtain ⟨k, m, rfl, hk, rfl, HF⟩ := hrel
    by_cases hlt : k < rs.length
    · rcases hmem with rfl | ⟨b, off, rfl, hb, hc⟩
      · simp at hlt
      have hcell := hc k hlt
      have hx := HE.out k hlt
      have iK0 : (0 : Int) ≤ (k : Int) := Int.natCast_nonneg _
      have iK1 : (k : Int) < (rs.length : Int) := by omega
      clear hc
      generalize rs.getD k 0 = x at hcell hx
      cases hfn : fin .f32 (F k) with
      | true =>
        have HFN := Lib.hid hfn
        clear hfn
        go_wp2_with (go_at_call 109; refine (iFin9 _ _ hx _).mono ?_; rw [HFN.out]; rintro e w' ⟨rfl, n, rfl⟩)
        go_roundw
        case rel => exact ⟨k + 1, m + n, by go_num, by omega, rfl, Lib.hid (fun j hj => by rcases Nat.lt_or_ge j k with h | h; exact HF.out j h; rw [show j = k by omega]; exact HFN.out)⟩
        case measure => simp [intOf]; omega
      | false =>
        have HFN := Lib.hid hfn
        have HNO := Lib.hid (allFin9_no hlt hfn)
        clear hfn
        go_wp2_with (go_at_call 109; refine (iFin9 _ _ hx _).mono ?_; rw [HFN.out]; rintro e w' ⟨rfl, n, rfl⟩)
        go_ret
        rw [← HOK.out, HNO.out]
        exact ⟨rfl, _, rfl⟩
    · obtain rfl : k = rs.length := by omega
      have HY := Lib.hid (allFin9_yes HF.out)
      go_wp2_with fail
      go_ret
      rw [← HOK.out, HY.out]
      exact ⟨rfl, _, rfl⟩

def twoF (X Y : Nat) (j : Nat) : Nat := if j = 0 then X else Y
theorem areFin9 (x X y Y g : Nat) (w : World) (hg : g < w.heap.size) (c0 : w.cell? ⟨g, 0, none⟩ = some (.float .f32 x)) (c1 : w.cell? ⟨g, 1, none⟩ = some (.float .f32 y)) (ix : Is .f32 x X) (iy : Is .f32 y Y) :
    Calls Try.prog 84 #[.slice (some ⟨g, 0, none⟩) 2 2] w fun e w' => e = .returned (.bool (fin .f32 X && fin .f32 Y)) ∧ ∃ n, w' = w.drewN n := by
  have h1 : FS .f32 w (.slice (some ⟨g, 0, none⟩) [x, y].length 2) [x, y] := by
    refine ⟨_, _, rfl, Nat.le_refl _, by decide, (by intro u hu; rcases List.mem_cons.1 hu with rfl | hu; exact ix.lt; rcases List.mem_cons.1 hu with rfl | hu; exact iy.lt; cases hu), .inr ⟨g, 0, rfl, hg, fun i hi => ?_⟩⟩
    rw [Nat.zero_add]
    have : i = 0 ∨ i = 1 := by simp at hi; omega
    rcases this with rfl | rfl
    · exact c0
    · exact c1
  have h2 : Eqs [x, y] (twoF X Y) := by
    intro j hj
    have : j = 0 ∨ j = 1 := by simp at hj; omega
    rcases this with rfl | rfl
    · exact ix
    · exact iy
  have := areFinL9 _ [x, y] (twoF X Y) w h1 h2 (by simp)
  rw [show allFin9 (twoF X Y) [x, y].length = (fin .f32 X && fin .f32 Y) by simp [allFin9, twoF, List.range, List.range.loop]] at this
  exact this

set_option maxHeartbeats 1000000 in
theorem sEl_any (g off : Nat) (t : El) (ht : t.ok) (w : World) (c0 : w.cell? ⟨g, off, none⟩ = some (.int .i64 t.k)) (c1 : w.cell? ⟨g, off + 1, none⟩ = some (.float .f32 t.n)) (c2 : w.cell? ⟨g, off + 2, none⟩ = some (.float .f32 t.p)) :
    Calls Try.prog 95 #[.pointer (some ⟨g, off, none⟩)] w fun e w' => e = .returned (.bool (okEl t)) ∧ ∃ n, w' = w.drewN n := by
  have iN := ht.iN; have iP := ht.iP
  obtain ⟨k, n, p⟩ := t
  dsimp only at c0 c1 c2 iN iP
  cases h1 : decide (0 ≤ k ∧ k ≤ 4) with
  | false =>
    rw [okEl_false (t := ⟨k, n, p⟩) (.inr (.inr (.inl h1)))]
    go_enter Try.func95, Try.ntmps95
    go_wp2_with (go_at_call 80; refine (sIn9 _ _ _ _).mono ?_; rw [h1]; rintro e w' ⟨rfl, rfl⟩)
    go_ret
    exact ⟨rfl, 0, rfl⟩
  | true =>
    have hk := of_decide_eq_true h1
    cases h2 : fin .f32 (El.N ⟨k, n, p⟩) with
    | false =>
      rw [okEl_false (t := ⟨k, n, p⟩) (.inl h2)]
      go_enter Try.func95, Try.ntmps95
      go_wp2_with (first
        | (go_at_call 80; refine (sIn9 _ _ _ _).mono ?_; rw [h1]; rintro e w' ⟨rfl, rfl⟩)
        | (go_at_call 81; refine (sFin9 _ _ iN _).mono ?_; rw [h2]; rintro e w' ⟨rfl, n1, rfl⟩))
      go_ret
      exact ⟨rfl, _, rfl⟩
    | true =>
      cases h3 : fin .f32 (El.P ⟨k, n, p⟩) with
      | false =>
        rw [okEl_false (t := ⟨k, n, p⟩) (.inr (.inl h3))]
        go_enter Try.func95, Try.ntmps95
        go_wp2_with fail
        refine (sIn9 _ _ _ _).mono ?_; rw [h1]; rintro e w' ⟨rfl, rfl⟩
        go_wp2_with fail
        refine (sFin9 _ _ iN _).mono ?_; rw [h2]; rintro e w' ⟨rfl, n1, rfl⟩
        go_wp2_with fail
        refine (sFin9 _ _ iP _).mono ?_; rw [h3]; rintro e w' ⟨rfl, n2, rfl⟩
        go_wp2_with fail
        go_ret
        exact ⟨rfl, _, rfl⟩
      | true =>
        have hq : okEl ⟨k, n, p⟩ = numOk k (El.N ⟨k, n, p⟩) := by unfold okEl; rw [h2, h3]; simp only [h1]; rfl
        rw [hq]
        clear hq
        unfold numOk
        by_cases e1 : k = 1
        · subst e1
          rw [if_pos rfl]
          go_enter Try.func95, Try.ntmps95
          go_wp2_with fail
          refine (sIn9 _ _ _ _).mono ?_; rw [h1]; rintro e w' ⟨rfl, rfl⟩
          go_wp2_with fail
          refine (sFin9 _ _ iN _).mono ?_; rw [h2]; rintro e w' ⟨rfl, n1, rfl⟩
          go_wp2_with fail
          refine (sFin9 _ _ iP _).mono ?_; rw [h3]; rintro e w' ⟨rfl, n2, rfl⟩
          go_wp2_with (apply wpList_fcmp; rfl; rfl; rfl; rfl; (first | with_reducible assumption | exact Is.const rfl); (first | with_reducible assumption | exact Is.const rfl); (first | with_reducible assumption | exact rfl))
          go_ret
          exact ⟨rfl, _, rfl⟩
        · rw [if_neg e1]
          by_cases e2 : k = 2
          · subst e2
            rw [if_pos rfl]
            go_enter Try.func95, Try.ntmps95
            go_wp2_with fail
            refine (sIn9 _ _ _ _).mono ?_; rw [h1]; rintro e w' ⟨rfl, rfl⟩
            go_wp2_with fail
            refine (sFin9 _ _ iN _).mono ?_; rw [h2]; rintro e w' ⟨rfl, n1, rfl⟩
            go_wp2_with fail
            refine (sFin9 _ _ iP _).mono ?_; rw [h3]; rintro e w' ⟨rfl, n2, rfl⟩
            go_wp2_with (apply wpList_fcmp; rfl; rfl; rfl; rfl; (first | with_reducible assumption | exact Is.const rfl); (first | with_reducible assumption | exact Is.const rfl); (first | with_reducible assumption | exact rfl))
            go_ret
            exact ⟨rfl, _, rfl⟩
          · rw [if_neg e2]
            go_enter Try.func95, Try.ntmps95
            go_wp2_with fail
            refine (sIn9 _ _ _ _).mono ?_; rw [h1]; rintro e w' ⟨rfl, rfl⟩
            go_wp2_with fail
            refine (sFin9 _ _ iN _).mono ?_; rw [h2]; rintro e w' ⟨rfl, n1, rfl⟩
            go_wp2_with fail
            refine (sFin9 _ _ iP _).mono ?_; rw [h3]; rintro e w' ⟨rfl, n2, rfl⟩
            go_wp2_with fail
            go_ret
            exact ⟨rfl, _, rfl⟩

theorem okLine_no {ts : List El} {k : Nat} (hk : k < ts.length) (h : okEl ts[k] = false) : okLine ts = false := by
  unfold okLine
  rw [Bool.and_eq_false_iff]
  right
  rw [List.all_eq_false]
  exact ⟨ts[k], List.getElem_mem hk, by rw [h]; simp⟩
theorem okLine_all {ts : List El} (h : ∀ j (hj : j < ts.length), okEl ts[j] = true) : okLine ts = decide (ts.length ≤ 32) := by
  unfold okLine
  have : ts.all okEl = true := List.all_eq_true.2 (fun t ht => by obtain ⟨j, hj, rfl⟩ := List.mem_iff_getElem.1 ht; exact h j hj)
  rw [this, Bool.and_true]
set_option maxHeartbeats 1000000 in
theorem sLine_any (B : Nat) (v : Value) (ts : List El) (w : World) (hv : EOwn B w v ts) (h : oksE ts) (hn : ts.length ≤ 1048576) : Calls Try.prog 66 #[v] w fun e w' => e = .returned (.bool (okLine ts)) ∧ ∃ n, w' = w.drewN n := by
  obtain ⟨a, cap, rfl, hf⟩ := e_form hv
  have hcm := e_cap hv
  unfold maxLen at hcm
  have HU := Lib.hid hv; have HO := Lib.hid h
  clear hv h
  have hd : decide ((ts.length : Int) ≤ 32) = decide (ts.length ≤ 32) := by rw [Bool.eq_iff_iff]; simp; omega
  have HD := Lib.hid hd
  clear hd
  go_enter Try.func66, Try.ntmps66
  go_wp2
  go_loopw [6] (fun i wr => ∃ k : Nat, k ≤ ts.length ∧ i = .int .i64 k ∧ Hid (∀ j (hj : j < ts.length), j < k → okEl ts[j] = true) ∧ ∃ n, wr = w.drewN n) (fun i _ => ts.length - (intOf i).toNat)
  case atStart => exact ⟨0, Nat.zero_le _, rfl, Lib.hid (fun j _ h => absurd h (Nat.not_lt_zero _)), 0, rfl⟩
  case round =>
    obtain ⟨k, hk, rfl, HA, n, rfl⟩ := hrel
    by_cases hlt : k < ts.length
    · rcases hf with hf | ⟨g, rfl, _, hg⟩
      · subst hf; simp at hlt
      have HT := Lib.hid (oksE_at HO.out hlt)
      have HE := Lib.hid ((e_cells HU.out hlt).1)
      have HN := Lib.hid (fun hh => okLine_no hlt hh)
      obtain ⟨q, hq⟩ : ∃ q, okEl ts[k] = q := ⟨_, rfl⟩
      have HQ := Lib.hid hq
      clear hq
      generalize htk : ts[k] = t at HE HT HQ
      have HTK := Lib.hid htk
      clear htk
      go_wp2_with fail
      refine (sEl_any g _ t HT.out (w.drewN n) HE.out.1 HE.out.2.1 HE.out.2.2).mono ?_; rw [HQ.out]; rintro e w' ⟨rfl, n1, rfl⟩
      cases q with
      | false =>
        go_wp2_with fail
        go_ret
        exact ⟨by rw [HN.out (by rw [HTK.out]; exact HQ.out)]; rfl, _, rfl⟩
      | true =>
        go_wp2_with fail
        go_roundw
        case rel => exact ⟨k + 1, by omega, by go_num, Lib.hid (fun j hj h1 => by
          by_cases e : j < k
          · exact HA.out j hj e
          · obtain rfl : j = k := by omega
            rw [HTK.out]; exact HQ.out), _, rfl⟩
        case measure => simp [intOf]; omega
    · obtain rfl : k = ts.length := by omega
      clear hlt
      have HR := Lib.hid (okLine_all (fun j hj => HA.out j hj hj))
      go_wp2
      go_ret
      exact ⟨by rw [HR.out, ← HD.out]; rfl, _, rfl⟩
end Go.Proofs.Ytpnmledanloboaa
