/-
  What FnGathers draws: a particle of small numbers, a field in quarters.
-/
import Derived.Test.YtlfnbnhbobohlaaGat
import Derived.Test.YtlfnbnhbobohlaaPart
namespace Go.Proofs.Ytlfnbnhbobohlaa
open Go.Fl Go.RowKit Go.Nl
open Go.Joins (ownsRow_le)
set_option linter.unusedSimpArgs false
set_option linter.unusedVariables false

theorem tab_quarter : ((List.range 17).all fun n => fop .quo .f32 (floatOfInt .f32 ((n : Int) - 8)) 1082130432 == E8 (2 * ((n : Int) - 8))) = true := by decide +kernel
theorem quarter_e8 (x : Int) (h0 : 0 ≤ x) (h1 : x < 17) : fop .quo .f32 (floatOfInt .f32 (x - 8)) 1082130432 = E8 (2 * (x - 8)) := by
  have h := List.all_eq_true.1 tab_quarter x.toNat (List.mem_range.2 (by omega))
  simp only [show ((x.toNat : Nat) : Int) = x by omega, beq_iff_eq] at h
  exact h

theorem cell_kept9 {w : World} {k i : Nat} {v : Value} (h : w.cell? ⟨k, i, none⟩ = some v) (o : Obj) : (w.alloc o).cell? ⟨k, i, none⟩ = some v := by
  rw [((Below.refl w.heap.size w).alloc (Nat.le_refl _) o).cell (p := ⟨k, i, none⟩) (block_lt_of_cell h)]; exact h
/-- A source, behind what turns in the call's own memory alone. -/
theorem src_grown9 {w0 w w' w2 : World} {g : Nat} {c : Value} {k : Nat} {row : Option Nat} (h : Src w0 g w c k) (hb : Below w.heap.size w w') (hg : w'.grownBy w2 row) {B : Nat} (hr : ∀ j, row = some j → B ≤ j) (hgB : g < B) : Src w0 g w2 c k := by
  have h1 := h.below hb
  obtain ⟨hbl, hge, z, hz0, hz1, ho⟩ := h1
  have hlt := (ho.lt g rfl).2
  refine ⟨?_, hge, z, hz0, hz1, World.ownsRow.kept ho hg (by
    cases hrow : row with
    | none => exact .inr (by simp [Value.ownBlock])
    | some j => exact .inr (by have := hr j hrow; simp [Value.ownBlock]; omega))⟩
  exact hbl.trans ⟨hg.os, hg.tape, hg.output, hg.size, fun i hi => hg.block i (Nat.lt_of_lt_of_le hi hbl.size) (fun e => by have := hr i e.symm; omega)⟩

set_option maxHeartbeats 2000000 in
set_option maxRecDepth 100000 in
theorem sR8Part_any (c : Value) (bs : List Int) (w : World) (hc : NS .u8 w c bs) : Calls Try.prog 52 #[c] w fun e w' => (∃ n m p q ch ms : Int, (0 ≤ n ∧ n < 64 ∧ 0 ≤ m ∧ m < 64 ∧ -8 ≤ p ∧ p ≤ 8 ∧ -8 ≤ q ∧ q ≤ 8 ∧ -4 ≤ ch ∧ ch ≤ 4 ∧ 1 ≤ ms ∧ ms ≤ 8) ∧ e = .returned (PV n m p q (4 * ch) (2 * ms))) ∧ Below w.heap.size w w' := by
  have HC := Lib.hid hc
  clear hc
  go_enter Try.func52, Try.ntmps52
  go_wp2_with fail
  have HB0 := Lib.hid ((Below.refl w.heap.size w).alloc (Nat.le_refl _) (.cells ZC 72))
  have HC1 := Lib.hid (HC.out.below HB0.out)
  refine (sFrom_src c bs _ HC1.out).mono ?_
  rintro e w2 ⟨g, rfl, S2⟩
  have HS2 := Lib.hid S2
  have A2 := S2.1.block w.heap.size (by simp)
  rw [heap_alloc_new] at A2
  have HA2 := Lib.hid A2
  have hg2 := Lib.hid S2.2.1
  have hb2 := Lib.hid S2.1
  clear S2 A2
  go_wp2_with fail
  refine (sDrawOne_any _ g 0 c bs _ HC1.out (by omega) HS2.out).mono ?_
  rintro e w3 ⟨n, m, p, q, ch, ms, k3, hbd, _, rfl, S3, G3⟩
  have A3 := G3.block w.heap.size (by have := hb2.out.size; simp at this; omega) (by have := hg2.out; simp at this ⊢; omega)
  rw [HA2.out] at A3
  have HA3 := Lib.hid A3
  have HB3 := Lib.hid (HB0.out.trans ⟨S3.1.os, S3.1.tape, S3.1.output, S3.1.size, fun i hi => S3.1.block i (by simp; omega)⟩)
  have HBD := Lib.hid hbd
  clear S3 G3 A3 hbd
  go_wp2_with ((with_reducible show wpList _ _ _ (Oper.mk none (Op.store _ (Operand.tmp 2) _) _ _ _ _ :: _) _ _); refine wpList_store_row rfl 72 _ _ rfl w.heap.size (PC n m p q (4 * ch) (2 * ms)) rfl rfl 72 ZC HA3.out info_part rfl (one4 _ _ _ _ _ _) ?_)
  refine bodyPost_ret (v := PV n m p q (4 * ch) (2 * ms)) ?_ rfl ?_
  · rw [results_cell_row rfl _ _ w.heap.size 72 (PC n m p q (4 * ch) (2 * ms)) (0, 0) _ rfl (setRow_heap _ _ _ _ _ _ HA3.out) Try.underlying72 rfl info_part]
  · exact ⟨⟨n, m, p, q, ch, ms, HBD.out, rfl⟩, below_setRow HB3.out (Nat.le_refl _) _⟩

set_option maxHeartbeats 2000000 in
set_option maxRecDepth 100000 in
theorem sR8Field_any (c : Value) (bs : List Int) (a b : Int) (N : Nat) (w : World) (hc : NS .u8 w c bs) (hN : a * b = (N : Int)) (hn : N ≤ 49) : Calls Try.prog 53 #[c, GV a b] w fun e w' => (∃ (v : Value) (fs : List Int), e = .returned v ∧ fs.length = N ∧ (∀ z ∈ fs, -16 ≤ z ∧ z ≤ 16) ∧ FOwn w.heap.size w' v (fs.map E8)) ∧ Below w.heap.size w w' := by
  obtain ⟨i0, hi, hz0, hz1, hz2⟩ := info_parts F32info
  have HC := Lib.hid hc
  have HW := Lib.hid (show wrap64 (a * b) = (N : Int) by rw [hN]; unfold wrap64; omega)
  have HNN := Lib.hid hn
  clear hc hN
  have hp := (gp_new w a b 27)
  have HP := Lib.hid hp
  have HB0 := Lib.hid ((Below.refl w.heap.size w).alloc (Nat.le_refl _) (.cells #[.int .i64 a, .int .i64 b] 27))
  have HC1 := Lib.hid (HC.out.below HB0.out)
  clear hp
  go_enter Try.func53, Try.ntmps53
  go_wp2_with fail
  generalize w.alloc (.cells #[.int .i64 a, .int .i64 b] 27) = w1 at HB0 HC1 HP ⊢
  refine (sFrom_src c bs _ HC1.out).mono ?_
  rintro e w2 ⟨g, rfl, S2⟩
  have HS2 := Lib.hid (S2.below ((Below.refl w2.heap.size w2).alloc (Nat.le_refl _) (.cells #[] 46)))
  have HG := Lib.hid S2.lt
  have c0 := (GP.below HP.out S2.1).cells.1; have c1 := (GP.below HP.out S2.1).cells.2
  have HO0 := Lib.hid (own_start w2.heap.size w2 (Nat.le_refl _))
  have HZ := Lib.hid (show w2.heap.size ≤ (w2.alloc (.cells #[] 46)).heap.size by simp)
  have d0 := cell_kept9 c0 (.cells #[] 46); have d1 := cell_kept9 c1 (.cells #[] 46)
  have HSZ := Lib.hid S2.1.size
  have hw := HW.out
  clear S2
  go_wp2_with fail
  clear c0 c1 d0 d1 hw
  generalize w2.alloc (.cells #[] 46) = w3 at HS2 HO0 HZ ⊢
  generalize w2.heap.size = B at HO0 HG HZ HSZ ⊢
  go_loopw [6, 7] (fun v n wr => ∃ (fs : List Int) (M k : Nat), n = .int .i64 (M : Int) ∧ fs.length + M = N ∧ k + 2 * M ≤ 200 ∧ Hid (Src w1 g wr c k) ∧ Hid (∀ z ∈ fs, -16 ≤ z ∧ z ≤ 16) ∧ (∃ gv cap, v = .slice (some ⟨gv, 0, none⟩) fs.length cap ∧ Hid (wr.ownsRow B 46 1 (.slice (some ⟨gv, 0, none⟩) fs.length cap) fs.length ((fs.map E8).map (Value.float .f32)))) ∧ Hid (B ≤ wr.heap.size)) (fun _ n _ => (intOf n).toNat)
  case atStart => exact ⟨[], N, 0, by rw [HW.out], by simp, by omega, HS2, Lib.hid (fun z hz => by cases hz), ⟨_, _, rfl, HO0⟩, HZ⟩
  case round =>
    clear HS2 HO0 HZ
    obtain ⟨fs, M, k, rfl, hl, hk, HS, HF, ⟨gv, cap, rfl, HO⟩, HZ⟩ := hrel
    by_cases hM : 0 < M
    · have i1 : (0 : Int) < (M : Int) := by omega
      go_wp2_with fail
      refine (sPick_any w1 g k c bs 17 _ HC1.out (by omega) (by omega) (by omega) HS.out).mono ?_
      rintro e w4 ⟨x, k4, hx0, hx1, hk4, rfl, S4, G4⟩
      have HX := Lib.hid (And.intro hx0 hx1); have HK4 := Lib.hid hk4
      have HO4 := Lib.hid (World.ownsRow.kept HO.out G4 (.inr (by have h1 := (HO.out.lt gv rfl).1; have h2 := HG.out; simp [Value.ownBlock]; omega)))
      have HZ4 := Lib.hid (Nat.le_trans HZ.out G4.size)
      have HS4 := Lib.hid S4
      have i2 := is_int32 (x - 8) (by omega) (by omega)
      have hw8 : wrap64 (x - 8) = x - 8 := by unfold wrap64; omega
      have HE := Lib.hid (fun (r : Nat) (h : Is .f32 r (fop .quo .f32 (floatOfInt .f32 (x - 8)) 1082130432)) => e8_of_is (n := 2 * (x - 8)) (by omega) (by omega) (by rw [← quarter_e8 x hx0 hx1]; exact h))
      have HLF := Lib.hid (show fs.length ≤ 49 by have := HNN.out; omega)
      have hl49 : fs.length ≤ 49 := HLF.out
      clear S4 G4 hx0 hx1 hk4 HS HO HZ
      go_wp2_with (first | ((apply wpList_farith; rfl; rfl; rfl; rfl; (first | with_reducible assumption | exact Is.const rfl); (first | with_reducible assumption | exact Is.const rfl); intro r n hr); with_reducible have e0 := HE.out _ hr; subst e0) | (at_builtin; refine wpList_append_lies _ rfl _ _ _ rfl B 46 i0 _ 1 4 Try.underlying24 hi hz0 hz1 hz2 rfl (by omega) (.slice (some ⟨gv, 0, none⟩) fs.length cap) fs.length ((fs.map E8).map (Value.float .f32)) rfl (World.ownsRow.alloc (World.ownsRow.kept HO4.out (grown_below (row := none) (below_drewN (Below.refl w4.heap.size w4) _)) (.inr (by simp [Value.ownBlock]))) _) ⟨w4.heap.size, 0, none⟩ 1 1 [.float .f32 (E8 (2 * (x - 8)))] rfl rfl (World.news_of_block (cs := #[.float .f32 (E8 (2 * (x - 8)))]) (t := 46) (fr := (0, 0)) (heap_alloc_new _ _)) (by simp [Value.oneCell']) (by omega) (by unfold maxLen; omega) (by omega) (by have := HZ4.out; simp; omega) (w4.heap.size + 1) (by simp) ?_; intro g2 cap2 w5 hown4 hgrow hat hltg))
      have hlo := fun k hk => ((World.ownsRow.alloc (World.ownsRow.kept HO4.out (grown_below (row := none) (below_drewN (Below.refl w4.heap.size w4) 0)) (.inr (by simp [Value.ownBlock]))) (.cells #[.float .f32 (E8 (2 * (x - 8)))] 46)).lt k hk).1
      have HS5 := Lib.hid (src_grown9 HS4.out ((below_drewN (Below.refl w4.heap.size w4) _).alloc (by simp) _) hgrow hlo HG.out)
      have HO5 := Lib.hid (show w5.ownsRow B 46 1 (.slice (some ⟨g2, 0, none⟩) (fs ++ [2 * (x - 8)]).length cap2) (fs ++ [2 * (x - 8)]).length (((fs ++ [2 * (x - 8)]).map E8).map (Value.float .f32)) by simpa using hown4)
      have HF5 := Lib.hid (show ∀ z ∈ fs ++ [2 * (x - 8)], -16 ≤ z ∧ z ≤ 16 from fun z hz => by
        rcases List.mem_append.1 hz with h | h
        · exact HF.out z h
        · rw [List.mem_singleton.1 h]; have := HX.out; omega)
      have HL5 := Lib.hid (show (fs ++ [2 * (x - 8)]).length = fs.length + 1 by simp)
      have HZ5 := Lib.hid (show B ≤ w5.heap.size by have h1 := hgrow.size; have h2 := HZ4.out; simp at h1; omega)
      clear hown4 hgrow hat hlo hw8
      go_wp2
      go_roundw
      case rel => exact ⟨fs ++ [2 * (x - 8)], M - 1, k4, by go_num, by rw [HL5.out]; omega, by have := HK4.out; omega, HS5, HF5, ⟨g2, cap2, by rw [HL5.out], by rw [HL5.out] at HO5 ⊢; exact HO5⟩, HZ5⟩
      case measure => simp [intOf]; omega
    · obtain rfl : M = 0 := by omega
      have HLN := Lib.hid (show fs.length = N by omega)
      go_wp2
      go_ret
      exact ⟨⟨_, fs, rfl, HLN.out, HF.out, by unfold FOwn; rw [List.length_map]; exact ownsRow_le HO.out (Nat.le_trans HB0.out.size HSZ.out)⟩, HB0.out.trans (HS.out.1.mono HB0.out.size)⟩
end Go.Proofs.Ytlfnbnhbobohlaa
