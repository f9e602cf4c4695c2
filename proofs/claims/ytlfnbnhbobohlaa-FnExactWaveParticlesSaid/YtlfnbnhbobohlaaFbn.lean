/-
  Fields that are told point by point: the program's fieldBy, whatever function tells them, whatever it holds.
-/
import Derived.Test.YtlfnbnhbobohlaaFby
namespace Go.Proofs.Ytlfnbnhbobohlaa
open Go.Fl Go.RowKit
open Go.Joins (ownsRow_le)
set_option linter.unusedSimpArgs false
set_option linter.unusedVariables false

/-- What a function tells of the points of a grid. -/
def TellsN (w : World) (f : FuncId) (cs : Array Value) (a b : Int) (F : Nat → Nat) : Prop :=
  (∀ args w, (callFunc f args).run Try.prog w = .ok (.enter f args) w) ∧ ∀ (x y j : Nat) (wr : World), (x : Int) < a → (y : Int) < b → (j : Int) = a * y + x → Below w.heap.size w wr →
    Calls Try.prog f (#[.int .i64 x, .int .i64 y] ++ cs) wr fun e w' => (∃ r, e = .returned (.float .f32 r) ∧ Is .f32 r (F j)) ∧ Below wr.heap.size wr w'

set_option maxHeartbeats 2000000 in
set_option maxRecDepth 100000 in
theorem fieldByN_any (a b : Int) (n : Nat) (f : FuncId) (cs : Array Value) (F : Nat → Nat) (w : World) (hg : gridOk a b = true) (hn : (n : Int) = a * b) (hf : TellsN w f cs a b F) :
    Calls Try.prog 82 #[GV a b, .func (.func f) #[] cs] w fun e w' => (∃ r, e = .returned r ∧ FRes w.heap.size w' r n F) ∧ Below w.heap.size w w' := by
  obtain ⟨i0, hi, hz0, hz1, hz2⟩ := info_parts F32info
  have hb0 := (Below.refl w.heap.size w).alloc (Nat.le_refl _) (.cells #[.int .i64 a, .int .i64 b] 27)
  obtain ⟨hpt, hn256⟩ := grid_points hg hn
  have hb4 : i0.bytes * n ≤ 281474976710656 := by rw [hz2]; omega
  have hml : n ≤ maxLen := by unfold maxLen; omega
  have HI := Lib.hid hi; have HZ0 := Lib.hid hz0; have HZ1 := Lib.hid hz1
  have HF := Lib.hid hf
  have HA := Lib.hid (gridOk_true hg)
  have HN := Lib.hid hn
  have HPT := Lib.hid hpt
  have HP := Lib.hid (gp_new w a b 27)
  clear hi hz0 hz1 hz2 hf hg hpt hn
  go_enter Try.func82, Try.ntmps82
  go_wp2_with fail
  generalize w.alloc (.cells #[.int .i64 a, .int .i64 b] 27) = w1 at hb0 HP ⊢
  refine (pointsOf_any a b _).mono ?_; rw [HPT.out]; rintro e w2 ⟨rfl, hb2⟩
  have HD := Lib.hid hb2
  have hc0 := (HP.out.ever _ hb2).1
  have hc1 := (HP.out.ever _ hb2).2
  clear hb2
  go_wp2_with (at_make; refine wpList_make_full _ rfl _ _ 24 rfl w1.heap.size 46 i0 (.float .f32 0) 1 Try.underlying24 HI.out HZ0.out HZ1.out _ _ _ _ n rfl rfl rfl rfl hb4 hml HD.out.size ?_; intro w4 hown hgrow; have hd4 := HD.out.grown hgrow HD.out.size (fun k h => by cases h); have hc2 := (HP.out.ever _ hd4).1; have hc3 := (HP.out.ever _ hd4).2)
  rw [Nat.mul_one, show (madeCells (Value.float .f32 0).cells n).toList = ptl [] n by rw [ptl_zero]; exact toList_madeCells_one _ _] at hown
  have HO0 := Lib.hid hown
  clear hgrow hb4 hml HI HZ0 HZ1 hown HD hc0 hc1 hc2 hc3
  generalize w2.heap.size = g0 at HO0 ⊢
  have hA : 4 ≤ a ∧ a ≤ 16 ∧ 4 ≤ b ∧ b ≤ 16 := ⟨HA.out.1, HA.out.2.1, HA.out.2.2.1, HA.out.2.2.2⟩
  go_loopw [13] (fun i wr => ∃ (v : Nat) (rs : List Nat), i = .int .i64 (v : Int) ∧ (v : Int) ≤ b ∧ Hid ((rs.length : Int) = a * v) ∧ Hid (Eqs rs F) ∧ Hid (wr.ownsRow w1.heap.size 46 1 (.slice (some ⟨g0, 0, none⟩) n n) n (ptl rs n)) ∧ Hid (Below w1.heap.size w1 wr)) (fun i _ => (b - intOf i).toNat)
  case atStart => exact ⟨0, [], rfl, by omega, Lib.hid (by simp), Lib.hid (Eqs.nil _), HO0, Lib.hid hd4⟩
  case round =>
    clear HO0 hd4
    obtain ⟨v, rs, rfl, hv, HL, HE, HO, HD⟩ := hrel
    have hc0 := (HP.out.ever _ HD.out).1
    have hc1 := (HP.out.ever _ HD.out).2
    by_cases hlt : (v : Int) < b
    · go_wp2_with fail
      go_loopw [18] (fun i wr => ∃ (u : Nat) (rs : List Nat), i = .int .i64 (u : Int) ∧ (u : Int) ≤ a ∧ Hid ((rs.length : Int) = a * v + u) ∧ Hid (Eqs rs F) ∧ Hid (wr.ownsRow w1.heap.size 46 1 (.slice (some ⟨g0, 0, none⟩) n n) n (ptl rs n)) ∧ Hid (Below w1.heap.size w1 wr)) (fun i _ => (a - intOf i).toNat)
      case atStart => exact ⟨0, rs, rfl, by omega, Lib.hid (by have := HL.out; omega), HE, HO, HD⟩
      case round =>
        clear HL HE HO HD hc0 hc1
        obtain ⟨u, ss, rfl, hu, HL, HE, HO, HD⟩ := hrel
        have hc0 := (HP.out.ever _ HD.out).1
        have hc1 := (HP.out.ever _ HD.out).2
        by_cases hlu : (u : Int) < a
        · have HK1 := Lib.hid (show (ss.length : Int) = (u : Int) % a + a * ((v : Int) % b) by
            rw [Int.emod_eq_of_lt (by omega) hlu, Int.emod_eq_of_lt (by omega) hlt]; have := HL.out; omega)
          have hm : a * ((v : Int) + 1) ≤ a * b := Int.mul_le_mul_of_nonneg_left (by omega) (by omega)
          rw [Int.mul_add, Int.mul_one] at hm
          have hlt2 : ss.length < n := by have := HL.out; have := HN.out; omega
          have i3 : (ss.length : Int) < (n : Int) := by omega
          have i4 : (0 : Int) ≤ (ss.length : Int) := Int.natCast_nonneg _
          clear hm
          go_wp2_with fail
          refine (indexOf_any a b u v ss.length _ ⟨hA.1, hA.2.1⟩ ⟨hA.2.2.1, hA.2.2.2⟩ HK1.out).mono ?_; rintro e w5 ⟨rfl, hb5⟩
          have HD5 := Lib.hid (HD.out.trans (hb5.mono HD.out.size))
          have HB5 := Lib.hid (grown_below (row := none) hb5)
          clear hb5
          go_wp2_with fail
          rw [HF.out.1]
          go_simp
          refine (HF.out.2 u v ss.length _ hlu hlt HL.out (hb0.trans (HD5.out.mono hb0.size))).mono ?_; rintro e w6 ⟨⟨r, rfl, hr⟩, hb6⟩
          have HD6 := Lib.hid (HD5.out.trans (hb6.mono HD5.out.size))
          have HB6 := Lib.hid (grown_below (row := none) hb6)
          have HR := Lib.hid hr
          clear hb6 hr
          have ho5 := World.ownsRow.kept HO.out HB5.out (.inr (by simp [Value.ownBlock]))
          have ho6 := World.ownsRow.kept ho5 HB6.out (.inr (by simp [Value.ownBlock]))
          have hw0 := ho6.cellAt ss.length (by omega)
          rw [ptl_get ss _ hlt2] at hw0
          have hfz := ho6.frozenAt ss.length
          have ST := Lib.hid (ho6.stored ss.length (.float .f32 r)).1
          rw [ptl_set ss _ r hlt2] at ST
          have hg0 := Lib.hid (ho6.lt g0 rfl).1
          clear ho5 ho6
          have HD7 := Lib.hid (HD6.out.setCell (p := ⟨g0, ss.length, none⟩) hg0.out (.float .f32 r))
          have HE7 := Lib.hid (HE.out.snoc (r := r) HR.out)
          have HL7 := Lib.hid (show ((ss ++ [r]).length : Int) = a * v + ((u + 1 : Nat) : Int) by have := HL.out; simp; omega)
          go_wp2
          go_roundw
          case rel => exact ⟨u + 1, ss ++ [r], by go_num, by omega, HL7, HE7, ST, HD7⟩
          case measure => simp [intOf]; omega
        · have hua : (u : Int) = a := by omega
          have HL8 := Lib.hid (show (ss.length : Int) = a * ((v + 1 : Nat) : Int) by have := HL.out; rw [this, hua]; simp [Int.mul_add])
          clear hua
          go_wp2
          go_roundw
          case rel => exact ⟨v + 1, ss, by go_num, by omega, HL8, HE, HO, HD⟩
          case measure => simp [intOf]; omega
    · have hvb : (v : Int) = b := by omega
      have HK2 := Lib.hid (show rs.length = n by have h1 := HL.out; have h2 := HN.out; rw [hvb] at h1; omega)
      have HR := Lib.hid (show ptl rs n = rs.map (Value.float .f32) by rw [← HK2.out]; exact ptl_all rs)
      clear hvb
      go_wp2
      go_ret
      exact ⟨⟨_, rfl, rs, HK2.out, HE.out, ownsRow_le (by rw [HK2.out, ← HR.out]; exact HO.out) hb0.size⟩, hb0.trans (HD.out.mono hb0.size)⟩
end Go.Proofs.Ytlfnbnhbobohlaa
