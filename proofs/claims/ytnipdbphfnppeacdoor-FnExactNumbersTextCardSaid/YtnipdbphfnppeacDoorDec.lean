/-
  Decimals: the model's function, digit by digit.
-/
import Derived.Test.YtnipdbphfnppeacDoorChecked
import Derived.Lib.ItoaLen
import Derived.Lib.Slices
import Derived.Lib.Hide
import Derived.Laws.IdiomStrings
import Derived.OwnWalk
import Derived.WalkKit
import Derived.BigCall
import Derived.WalkLawsBesides
namespace Go.Proofs.YtnipdbphfnppeacDoor
open Go.RowKit

theorem dec_step (u : Nat) : Lib.decDigits u = (if u / 10 = 0 then [] else Lib.decDigits (u / 10)) ++ [UInt8.ofNat (48 + u % 10)] := by
  rw [Lib.decDigits]
  by_cases h : u < 10
  · rw [dif_pos h, if_pos (by omega)]
    have : u % 10 = u := by omega
    rw [this]; rfl
  · rw [dif_neg h, if_neg (by omega)]

def decAt (u : Nat) (l : List UInt8) : List UInt8 := if l = [] then Lib.decDigits u else (if u = 0 then [] else Lib.decDigits u) ++ l
theorem decAt_nil (u : Nat) : decAt u [] = Lib.decDigits u := by unfold decAt; rw [if_pos rfl]
theorem decAt_step {u : Nat} {l : List UInt8} (h : l = [] ∨ u ≠ 0) : decAt (u / 10) (UInt8.ofNat (48 + u % 10) :: l) = decAt u l := by
  have e : decAt u l = Lib.decDigits u ++ l := by
    unfold decAt
    by_cases hl : l = []
    · rw [if_pos hl, hl, List.append_nil]
    · rw [if_neg hl, if_neg (by rcases h with h | h; exact absurd h hl; exact h)]
  rw [e, dec_step]
  unfold decAt
  rw [if_neg (by simp), List.append_assoc]
  rfl
theorem decAt_end {l : List UInt8} (h : l ≠ []) : decAt 0 l = l := by unfold decAt; rw [if_neg h, if_pos rfl]; rfl
theorem decAt_len (u : Nat) (l : List UInt8) : l.length ≤ (decAt u l).length := by
  unfold decAt; split
  · rename_i h; rw [h]; exact Nat.zero_le _
  · rw [List.length_append]; omega

theorem infoByte : (Tryd.prog.info? 5).map (fun i => (i.zero, i.size, i.bytes)) = some (some (.int .u8 0), 1, 1) := by kernel_rfl

/-- The slice v holds the bytes l, in a block of the call's own. -/
def Bytes (B : Nat) (w : World) (v : Value) (l : List UInt8) : Prop := ∃ g cap, v = .slice (some ⟨g, 0, none⟩) l.length cap ∧ w.ownsRow B 5 1 v l.length (Lib.byteCells l)

theorem owned_one {B : Nat} (w : World) (c : Value) (h : B ≤ w.heap.size) : (w.alloc (.cells #[c] 5)).ownsRow B 5 1 (.slice (some ⟨w.heap.size, 0, none⟩) 1 1) 1 [c] :=
  ⟨by simp, .inr ⟨w.heap.size, 1, #[c], rfl, h, heap_alloc_new w _, Nat.le_refl _, by unfold maxLen; decide, by simp, by simp⟩⟩
theorem owned_none {B : Nat} (w : World) (h : B ≤ w.heap.size) : (w.alloc (.cells #[] 5)).ownsRow B 5 1 (.slice (some ⟨w.heap.size, 0, none⟩) 0 0) 0 [] :=
  ⟨by simp, .inr ⟨w.heap.size, 0, #[], rfl, h, heap_alloc_new w _, Nat.le_refl _, by unfold maxLen; decide, by simp, by simp⟩⟩
theorem byte_val (u : Nat) : (((UInt8.ofNat (48 + u % 10)).toNat : Nat) : Int) = 48 + (u : Int) % 10 := by
  have : (UInt8.ofNat (48 + u % 10)).toNat = 48 + u % 10 := by simp; omega
  rw [this]; omega

/-- A row that is owned, behind an append that grew it: it is no nil slice. -/
theorem bytes_of {B : Nat} {w' : World} {v' : Value} {n : Nat} {xs : List Value} {l : List UInt8} (h : w'.ownsRow B 5 1 v' n xs) (hn : v' ≠ .slice none 0 0) (hl : xs = Lib.byteCells l) : Bytes B w' v' l := by
  have hnl : n = l.length := by have := h.1; rw [hl, Lib.byteCells_length] at this; omega
  subst hnl hl
  rcases h.2 with ⟨h1, _⟩ | ⟨g, cap, cur, rfl, _⟩
  · exact absurd h1 hn
  · exact ⟨g, cap, rfl, h⟩

set_option maxHeartbeats 1000000 in
set_option maxRecDepth 100000 in
theorem sDec_pos (N : Nat) (w : World) (hN : N ≤ 9223372036854775807) (hlen : (Lib.decDigits N).length ≤ 21) :
    Calls Tryd.prog 25 #[.int .i64 (N : Int)] w fun e w' => e = .returned (.string ⟨(Lib.decDigits N).toArray⟩) ∧ Below w.heap.size w w' := by
  obtain ⟨i0, hi, hz0, hz1, hz2⟩ := info_parts infoByte
  go_enter Tryd.func25, Tryd.ntmps25
  go_wp2_with fail
  go_loopw [3, 4] (fun v r wr => ∃ (l : List UInt8) (u : Nat), r = .int .i64 (u : Int) ∧ u ≤ N ∧ Bytes w.heap.size wr v l ∧ Hid (decAt u l = Lib.decDigits N) ∧ Below w.heap.size w wr) (fun v r _ => 2 * (intOf r).toNat + (match v with | .slice _ n _ => (if n = 0 then 1 else 0) | _ => 0))
  case atStart => exact ⟨[], N, rfl, Nat.le_refl _, ⟨_, _, rfl, owned_none _ (Nat.le_refl _)⟩, Lib.hid (decAt_nil N), (Below.refl _ _).alloc (Nat.le_refl _) _⟩
  case round =>
    obtain ⟨l, u, rfl, hu, ⟨g, cap, rfl, hown⟩, HD, hb⟩ := hrel
    have hBs := hb.size
    have hl21 : l.length ≤ 21 := by have := decAt_len u l; rw [HD.out] at this; omega
    by_cases hl : l.length = 0
    · obtain rfl : l = [] := List.eq_nil_of_length_eq_zero hl
      clear hl
      have HS := Lib.hid ((decAt_step (u := u) (l := []) (.inl rfl)).trans HD.out)
      have HB := Lib.hid (byte_val u)
      go_wp2_with fail
      go_roundw
      case rel => exact ⟨[UInt8.ofNat (48 + u % 10)], u / 10, congrArg (Value.int .i64) (by omega), by omega, ⟨_, _, rfl, by simp only [Lib.byteCells, List.map_cons, List.map_nil, HB.out]; exact owned_one _ _ hBs⟩, HS, hb.alloc hBs _⟩
      case measure => simp [intOf]; omega
    · by_cases hu0 : u = 0
      · subst hu0
        have hne : l ≠ [] := fun e => hl (by rw [e]; rfl)
        have HE := Lib.hid ((decAt_end hne).symm.trans HD.out)
        have hcv := fun W' (hW : W' = wr) => run_convert_bytes_back (P := Tryd.prog) W' 59 9 5 ⟨g, 0, none⟩ cap l Tryd.underlying59 Tryd.underlying5 Tryd.underlying9 (fun j hj => by subst hW; exact hown.cells (g := g) rfl j _ (by simp [Lib.byteCells, hj]))
        have hcv' := hcv wr rfl
        clear hcv
        go_wp2
        go_ret
        exact ⟨by rw [← HE.out]; rfl, hb⟩
      · have HS := Lib.hid ((decAt_step (u := u) (l := l) (.inr hu0)).trans HD.out)
        have HB := Lib.hid (byte_val u)
        have hd1 : ((u : Int) != 0) = true := by simp; omega
        have hd2 : ((u : Int) == 0) = false := by simp; omega
        go_wp2_with (at_builtin; refine wpList_append_own _ rfl _ _ 59 rfl w.heap.size 5 i0 (.int .u8 0) 1 1 Tryd.underlying59 hi hz0 hz1 hz2 rfl (by decide) _ _ _ rfl (owned_one wr _ hBs) ⟨g, 0, none⟩ l.length cap (Lib.byteCells l) rfl (by rw [Lib.byteCells_length]; omega) ((hown.alloc _).cells (g := g) rfl) (by intro u' hu'; obtain ⟨b', _, rfl⟩ := List.mem_map.1 hu'; rfl) (by unfold maxLen; omega) (by omega) (by simp; omega) ?_)
        intro v' w' hown' hgrow hnil
        have hv : v' ≠ .slice none 0 0 := hnil
        have hB' : Below w.heap.size w w' := (hb.alloc hBs _).grown hgrow (by simp; omega) (fun k hk => by cases hk; exact hBs)
        obtain ⟨g', cap', hv', hown2⟩ := bytes_of hown' hv (l := UInt8.ofNat (48 + u % 10) :: l) (by show _ = Value.int .u8 ((UInt8.ofNat (48 + u % 10)).toNat : Int) :: Lib.byteCells l; rw [HB.out])
        subst hv'
        go_wp2
        go_roundw
        case rel => exact ⟨UInt8.ofNat (48 + u % 10) :: l, u / 10, congrArg (Value.int .i64) (by omega), by omega, ⟨_, _, rfl, hown2⟩, HS, hB'⟩
        case measure => simp [intOf]; omega

set_option maxHeartbeats 1000000 in
set_option maxRecDepth 100000 in
theorem sDec_neg (N : Nat) (w : World) (h1 : 1 ≤ N) (hN : N ≤ 9223372036854775808) (hlen : (Lib.decDigits N).length ≤ 21) :
    Calls Tryd.prog 25 #[.int .i64 (-(N : Int))] w fun e w' => e = .returned (.string ⟨(45 :: Lib.decDigits N).toArray⟩) ∧ Below w.heap.size w w' := by
  obtain ⟨i0, hi, hz0, hz1, hz2⟩ := info_parts infoByte
  go_enter Tryd.func25, Tryd.ntmps25
  go_wp2_with fail
  go_loopw [3, 4] (fun v r wr => ∃ (l : List UInt8) (u : Nat), r = .int .i64 (-(u : Int)) ∧ u ≤ N ∧ Bytes w.heap.size wr v l ∧ Hid (decAt u l = Lib.decDigits N) ∧ Below w.heap.size w wr) (fun v r _ => 2 * (intOf r).natAbs + (match v with | .slice _ n _ => (if n = 0 then 1 else 0) | _ => 0))
  case atStart => exact ⟨[], N, rfl, Nat.le_refl _, ⟨_, _, rfl, owned_none _ (Nat.le_refl _)⟩, Lib.hid (decAt_nil N), (Below.refl _ _).alloc (Nat.le_refl _) _⟩
  case round =>
    obtain ⟨l, u, rfl, hu, ⟨g, cap, rfl, hown⟩, HD, hb⟩ := hrel
    have hBs := hb.size
    have hl21 : l.length ≤ 21 := by have := decAt_len u l; rw [HD.out] at this; omega
    by_cases hl : l.length = 0
    · obtain rfl : l = [] := List.eq_nil_of_length_eq_zero hl
      clear hl
      have HS := Lib.hid ((decAt_step (u := u) (l := []) (.inl rfl)).trans HD.out)
      have HB := Lib.hid (byte_val u)
      have e1 : Int.tmod (-(u : Int)) 10 = -((u : Int) % 10) := by rw [Int.neg_tmod]; rfl
      have e2 : Int.tdiv (-(u : Int)) 10 = -((u : Int) / 10) := by rw [Int.neg_tdiv]; rfl
      by_cases hz : (u : Int) % 10 = 0
      · have e3 : 48 + (u : Int) % 10 = 48 := by omega
        go_wp2_with fail
        go_roundw
        case rel => exact ⟨[UInt8.ofNat (48 + u % 10)], u / 10, congrArg (Value.int .i64) (by omega), by omega, ⟨_, _, rfl, by simp only [Lib.byteCells, List.map_cons, List.map_nil, HB.out, e3]; exact owned_one _ _ hBs⟩, HS, hb.alloc hBs _⟩
        case measure => simp [intOf]; omega
      · have h2 : ¬ (0 : Int) ≤ -((u : Int) % 10) := by omega
        have h3 : -((u : Int) % 10) < 0 := by omega
        go_wp2_with fail
        go_roundw
        case rel => exact ⟨[UInt8.ofNat (48 + u % 10)], u / 10, congrArg (Value.int .i64) (by omega), by omega, ⟨_, _, rfl, by simp only [Lib.byteCells, List.map_cons, List.map_nil, HB.out]; exact owned_one _ _ hBs⟩, HS, hb.alloc hBs _⟩
        case measure => simp [intOf]; omega
    · by_cases hu0 : u = 0
      · subst hu0
        have hne : l ≠ [] := fun e => hl (by rw [e]; rfl)
        have HE := Lib.hid ((decAt_end hne).symm.trans HD.out)
        go_wp2_with (at_builtin; refine wpList_append_own _ rfl _ _ 59 rfl w.heap.size 5 i0 (.int .u8 0) 1 1 Tryd.underlying59 hi hz0 hz1 hz2 rfl (by decide) _ _ _ rfl (owned_one wr _ hBs) ⟨g, 0, none⟩ l.length cap (Lib.byteCells l) rfl (by rw [Lib.byteCells_length]; omega) ((hown.alloc _).cells (g := g) rfl) (by intro u' hu'; obtain ⟨b', _, rfl⟩ := List.mem_map.1 hu'; rfl) (by unfold maxLen; omega) (by omega) (by simp; omega) ?_)
        intro v' w' hown' hgrow hnil
        have hv : v' ≠ .slice none 0 0 := hnil
        have hB' : Below w.heap.size w w' := (hb.alloc hBs _).grown hgrow (by simp; omega) (fun k hk => by cases hk; exact hBs)
        obtain ⟨g', cap', hv', hown2⟩ := bytes_of hown' hv (l := 45 :: l) rfl
        obtain ⟨m, hm⟩ : ∃ m, m = 45 :: l := ⟨_, rfl⟩
        rw [← hm] at hown2 hv'
        subst hv'
        have HM := Lib.hid hm
        clear hm
        have hcv := run_convert_bytes_back (P := Tryd.prog) w' 59 9 5 ⟨g', 0, none⟩ cap' m Tryd.underlying59 Tryd.underlying5 Tryd.underlying9 (fun j hj => hown2.cells (g := g') rfl j _ (by simp [Lib.byteCells, hj]))
        clear hown hown' hnil hgrow
        go_wp2
        go_ret
        exact ⟨by rw [← HE.out, ← HM.out]; rfl, hB'⟩
      · have HS := Lib.hid ((decAt_step (u := u) (l := l) (.inr hu0)).trans HD.out)
        have HB := Lib.hid (byte_val u)
        have hd1 : (-(u : Int) != 0) = true := by simp; omega
        have hd2 : (-(u : Int) == 0) = false := by simp; omega
        have e1 : Int.tmod (-(u : Int)) 10 = -((u : Int) % 10) := by rw [Int.neg_tmod]; rfl
        have e2 : Int.tdiv (-(u : Int)) 10 = -((u : Int) / 10) := by rw [Int.neg_tdiv]; rfl
        by_cases hz : (u : Int) % 10 = 0
        · have HZ := Lib.hid hz
          go_wp2_with (at_builtin; refine wpList_append_own _ rfl _ _ 59 rfl w.heap.size 5 i0 (.int .u8 0) 1 1 Tryd.underlying59 hi hz0 hz1 hz2 rfl (by decide) _ _ _ rfl (owned_one wr _ hBs) ⟨g, 0, none⟩ l.length cap (Lib.byteCells l) rfl (by rw [Lib.byteCells_length]; omega) ((hown.alloc _).cells (g := g) rfl) (by intro u' hu'; obtain ⟨b', _, rfl⟩ := List.mem_map.1 hu'; rfl) (by unfold maxLen; omega) (by omega) (by simp; omega) ?_)
          intro v' w' hown' hgrow hnil
          have hv : v' ≠ .slice none 0 0 := hnil
          have hB' : Below w.heap.size w w' := (hb.alloc hBs _).grown hgrow (by simp; omega) (fun k hk => by cases hk; exact hBs)
          obtain ⟨g', cap', hv', hown2⟩ := bytes_of hown' hv (l := UInt8.ofNat (48 + u % 10) :: l) (by show _ = Value.int .u8 ((UInt8.ofNat (48 + u % 10)).toNat : Int) :: Lib.byteCells l; rw [HB.out, HZ.out]; rfl)
          subst hv'
          go_wp2
          go_roundw
          case rel => exact ⟨UInt8.ofNat (48 + u % 10) :: l, u / 10, congrArg (Value.int .i64) (by omega), by omega, ⟨_, _, rfl, hown2⟩, HS, hB'⟩
          case measure => simp [intOf]; omega
        · have h2 : ¬ (0 : Int) ≤ -((u : Int) % 10) := by omega
          have h3 : -((u : Int) % 10) < 0 := by omega
          go_wp2_with (at_builtin; refine wpList_append_own _ rfl _ _ 59 rfl w.heap.size 5 i0 (.int .u8 0) 1 1 Tryd.underlying59 hi hz0 hz1 hz2 rfl (by decide) _ _ _ rfl (owned_one wr _ hBs) ⟨g, 0, none⟩ l.length cap (Lib.byteCells l) rfl (by rw [Lib.byteCells_length]; omega) ((hown.alloc _).cells (g := g) rfl) (by intro u' hu'; obtain ⟨b', _, rfl⟩ := List.mem_map.1 hu'; rfl) (by unfold maxLen; omega) (by omega) (by simp; omega) ?_)
          intro v' w' hown' hgrow hnil
          have hv : v' ≠ .slice none 0 0 := hnil
          have hB' : Below w.heap.size w w' := (hb.alloc hBs _).grown hgrow (by simp; omega) (fun k hk => by cases hk; exact hBs)
          obtain ⟨g', cap', hv', hown2⟩ := bytes_of hown' hv (l := UInt8.ofNat (48 + u % 10) :: l) (by show _ = Value.int .u8 ((UInt8.ofNat (48 + u % 10)).toNat : Int) :: Lib.byteCells l; rw [HB.out])
          subst hv'
          go_wp2
          go_roundw
          case rel => exact ⟨UInt8.ofNat (48 + u % 10) :: l, u / 10, congrArg (Value.int .i64) (by omega), by omega, ⟨_, _, rfl, hown2⟩, HS, hB'⟩
          case measure => simp [intOf]; omega
end Go.Proofs.YtnipdbphfnppeacDoor
