/-
  What the laws of the second part draw: places.
-/
import Derived.Test.YtibjajgcfbfppaaLng
import Derived.Test.YtibjajgcfbfppaaSrc
namespace Go.Proofs.Ytibjajgcfbfppaa
open Go.Fl Go.RowKit Go.Nl

set_option maxRecDepth 100000 in
theorem tab_byte : ((List.range 256).all fun n => isCanon .f32 (floatOfInt .f32 ((n : Int) - 64))) = true := by decide +kernel
theorem is_byte (x : Int) (h0 : 0 ≤ x) (h1 : x ≤ 255) : Is .f32 (floatOfInt .f32 (x - 64)) (floatOfInt .f32 (x - 64)) := by
  have h := List.all_eq_true.1 tab_byte x.toNat (List.mem_range.2 (by omega))
  simp only [show ((x.toNat : Nat) : Int) = x by omega] at h
  exact Is.const h

abbrev PlV (n m : Int) : List Value := [.float .f32 (E8 n), .float .f32 (E8 m)]

set_option maxHeartbeats 2000000 in
set_option maxRecDepth 100000 in
theorem sPlace_any (c : Value) (bs : List Int) (at0 : Int) (h0 : 0 ≤ at0) (h1 : at0 ≤ 2) (w : World) (hc : NS .u8 w c bs) :
    Calls Try.prog 19 #[c, .int .i64 at0] w fun e w' => ∃ n m : Int, -64 ≤ n ∧ n < 192 ∧ -64 ≤ m ∧ m < 192 ∧ e = .returned (.complex .f32 (E8 n) (E8 m)) ∧ Below w.heap.size w w' := by
  have HC := Lib.hid hc
  have hcs := hc
  obtain ⟨a, cap, rfl, hlc, hcm, hwf, hcell⟩ := hcs
  clear hc hcell
  have HE := Lib.hid narrow_e8
  have hown0 : (w.alloc (.cells #[.float .f32 (E8 10), .float .f32 (E8 20)] 32)).ownsRow w.heap.size 32 1 (.slice (some ⟨w.heap.size, 0, none⟩) 2 2) 2 (PlV 10 20) :=
    ⟨by simp, .inr ⟨w.heap.size, 2, _, rfl, Nat.le_refl _, heap_alloc_new w _, Nat.le_refl _, by unfold maxLen; decide, by simp, by simp⟩⟩
  have hbel0 := (Below.refl w.heap.size w).alloc (Nat.le_refl _) (.cells #[.float .f32 (E8 10), .float .f32 (E8 20)] 32)
  rw [narrow_e8.1, narrow_e8.2] at hown0 hbel0
  have HO0 := Lib.hid hown0
  have HB0 := Lib.hid hbel0
  clear hown0 hbel0
  go_enter Try.func19, Try.ntmps19
  go_wp2
  generalize w.alloc (.cells #[.float .f32 1067450368, .float .f32 1075838976] 32) = w1 at HO0 HB0 ⊢
  go_loopw [6] (fun i wr => ∃ k : Nat, k ≤ 2 ∧ i = .int .i64 k ∧ (∃ n m : Int, Hid (-64 ≤ n ∧ n < 192 ∧ -64 ≤ m ∧ m < 192) ∧ Hid (wr.ownsRow w.heap.size 32 1 (.slice (some ⟨w.heap.size, 0, none⟩) 2 2) 2 (PlV n m))) ∧ Hid (Below w.heap.size w wr)) (fun i _ => 2 - (intOf i).toNat)
  case atStart => exact ⟨0, Nat.zero_le _, rfl, ⟨10, 20, Lib.hid (by omega), Lib.hid (by unfold PlV; rw [HE.out.1, HE.out.2]; exact HO0.out)⟩, HB0⟩
  case round =>
    obtain ⟨k, hk, rfl, ⟨p, q, HN, HO⟩, HB⟩ := hrel
    by_cases hlt : k < 2
    · by_cases hin : at0 + (k : Int) < (bs.length : Int)
      · obtain ⟨u, hu⟩ : ∃ u, (PlV p q)[k]? = some (.float .f32 u) := by
          obtain rfl | rfl : k = 0 ∨ k = 1 := by omega
          · exact ⟨_, rfl⟩
          · exact ⟨_, rfl⟩
        have HY := Lib.hid (ns_bytes HC.out (at0 + (k : Int)).toNat)
        obtain ⟨a', cap', e', _, _, _, hcell⟩ := HC.out.below HB.out
        simp only [Value.slice.injEq, true_and] at e'
        obtain ⟨rfl, rfl⟩ := e'
        obtain rfl | ⟨b, off, rfl, hbl, hcell⟩ := hcell
        · simp at hin; omega
        have hcb := hcell (at0 + (k : Int)).toNat (by omega)
        clear hcell
        generalize bs.getD (at0 + (k : Int)).toNat 0 = x at HY hcb
        have hx0 := HY.out.1
        have hx1 := HY.out.2
        have ib := is_byte x hx0 hx1
        have HX := Lib.hid (show ∀ r, Is .f32 r (fop .quo .f32 (floatOfInt .f32 (x - 64)) 1090519040) → r = E8 (x - 64) from fun r h => e8_of_is (by omega) (by omega) h)
        have hw0 := HO.out.cellAt k (by omega)
        rw [hu] at hw0
        have hfz := HO.out.frozenAt k
        have ST := Lib.hid (fun d => ((show (wr.drewN d).ownsRow w.heap.size 32 1 (.slice (some ⟨w.heap.size, 0, none⟩) 2 2) 2 (PlV p q) from HO.out).stored k (.float .f32 (E8 (x - 64)))).1)
        have SB := Lib.hid (fun d => (below_drewN HB.out d).setCell (p := ⟨w.heap.size, k, none⟩) (Nat.le_refl _) (.float .f32 (E8 (x - 64))))
        have k0 : (0 : Int) ≤ (k : Int) := by omega
        have k1 : (k : Int) < 2 := by omega
        have s0 : (0 : Int) ≤ at0 + (k : Int) := by omega
        clear hu
        go_wp2_with ((apply wpList_farith; rfl; rfl; rfl; rfl; (first | with_reducible assumption | exact Is.const rfl); (first | with_reducible assumption | exact Is.const rfl); intro r n hr); with_reducible have e0 := HX.out _ hr; subst e0)
        go_roundw
        case rel =>
          obtain rfl | rfl : k = 0 ∨ k = 1 := by omega
          · exact ⟨1, by omega, by go_num, ⟨x - 64, q, Lib.hid (by have := HN.out; omega), Lib.hid (ST.out _)⟩, Lib.hid (SB.out _)⟩
          · exact ⟨2, by omega, by go_num, ⟨p, x - 64, Lib.hid (by have := HN.out; omega), Lib.hid (ST.out _)⟩, Lib.hid (SB.out _)⟩
        case measure => simp [intOf]; omega
      · go_wp2
        go_roundw
        case rel => exact ⟨k + 1, by omega, by go_num, ⟨p, q, HN, HO⟩, HB⟩
        case measure => simp [intOf]; omega
    · obtain rfl : k = 2 := by omega
      have c0 := HO.out.cellAt 0 (by decide)
      have c1 := HO.out.cellAt 1 (by decide)
      simp only [PlV, List.getElem?_cons_zero, List.getElem?_cons_succ] at c0 c1
      clear hlt
      go_wp2
      go_quiet (fail)
      go_wp2
      go_ret
      exact ⟨p, q, HN.out.1, HN.out.2.1, HN.out.2.2.1, HN.out.2.2.2, rfl, below_drewN HB.out _⟩
end Go.Proofs.Ytibjajgcfbfppaa
