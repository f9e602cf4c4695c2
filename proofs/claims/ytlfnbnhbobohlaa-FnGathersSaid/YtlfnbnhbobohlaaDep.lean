/-
  What particles leave: the program.
-/
import Derived.Test.YtlfnbnhbobohlaaDepH
namespace Go.Proofs.Ytlfnbnhbobohlaa
open Go.Fl Go.RowKit
set_option linter.unusedSimpArgs false
set_option linter.unusedVariables false

/-- What a particle leaves: at four corners, so much in units of 2 ^ -9. -/
structure LdOk (a b : Int) (t : Pt) (n i0 i1 i2 i3 r0 r1 r2 r3 : Nat) (v0 v1 v2 v3 : Int) : Prop where
  sum : ∀ j, depAt a b j t = at1 i0 v0 j + at1 i1 v1 j + at1 i2 v2 j + at1 i3 v3 j
  lt : i0 < n ∧ i1 < n ∧ i2 < n ∧ i3 < n
  d0 : Dv .f32 140 r0 v0 ∧ -1024 ≤ v0 ∧ v0 ≤ 1024
  d1 : Dv .f32 140 r1 v1 ∧ -1024 ≤ v1 ∧ v1 ≤ 1024
  d2 : Dv .f32 140 r2 v2 ∧ -1024 ≤ v2 ∧ v2 ≤ 1024
  d3 : Dv .f32 140 r3 v3 ∧ -1024 ≤ v3 ∧ v3 ≤ 1024
abbrev LdC (i0 i1 i2 i3 r0 r1 r2 r3 : Nat) : Array Value := #[.int .i64 (i0 : Int), .int .i64 (i1 : Int), .int .i64 (i2 : Int), .int .i64 (i3 : Int), .float .f32 r0, .float .f32 r1, .float .f32 r2, .float .f32 r3]
theorem info_load : (Try.prog.info? 122).map (·.size) = some 8 := by kernel_rfl
theorem one8 (i0 i1 i2 i3 r0 r1 r2 r3 : Nat) : (LdC i0 i1 i2 i3 r0 r1 r2 r3).all (·.oneCell') = true := by first | rfl | (simp [LdC, Value.oneCell']; done)
theorem eight_cells {W : World} {b : Nat} {v0 v1 v2 v3 v4 v5 v6 v7 : Value} {t : TypeId} (h : W.heap[b]? = some (.cells #[v0, v1, v2, v3, v4, v5, v6, v7] t)) :
    (W.cell? ⟨b, 0, none⟩ = some v0 ∧ W.cell? ⟨b, 1, none⟩ = some v1 ∧ W.cell? ⟨b, 2, none⟩ = some v2 ∧ W.cell? ⟨b, 3, none⟩ = some v3) ∧ W.cell? ⟨b, 4, none⟩ = some v4 ∧ W.cell? ⟨b, 5, none⟩ = some v5 ∧ W.cell? ⟨b, 6, none⟩ = some v6 ∧ W.cell? ⟨b, 7, none⟩ = some v7 := by
  refine ⟨⟨?_, ?_, ?_, ?_⟩, ?_, ?_, ?_, ?_⟩ <;> (rw [Joins.cell_of_block h]; rfl)
theorem fz_block {W : World} {b : Nat} {cs : Array Value} {t : TypeId} (h : W.heap[b]? = some (.cells cs t)) (k : Nat) : W.frozen? ⟨b, k, none⟩ = false := by simp [World.frozen?, h]
theorem put_block {W : World} {b : Nat} {cs : Array Value} {t : TypeId} (h : W.heap[b]? = some (.cells cs t)) (k : Nat) (u : Value) : (W.setCell ⟨b, k, none⟩ u).heap[b]? = some (.cells (cs.setIfInBounds k u) t) := by
  simp [World.setCell, Array.getElem?_modify, h]
theorem index_fourF (v0 v1 v2 v3 : Value) (w : World) : (Instr.index 117 (.agg #[v0, v1, v2, v3]) (.int .i64 0)).run Try.prog w = .ok v0 w ∧ (Instr.index 117 (.agg #[v0, v1, v2, v3]) (.int .i64 1)).run Try.prog w = .ok v1 w ∧ (Instr.index 117 (.agg #[v0, v1, v2, v3]) (.int .i64 2)).run Try.prog w = .ok v2 w ∧ (Instr.index 117 (.agg #[v0, v1, v2, v3]) (.int .i64 3)).run Try.prog w = .ok v3 w := by
  have h := Try.underlying117
  refine ⟨?_, ?_, ?_, ?_⟩ <;> simp [Instr.index, run_underlying h, asIntOf, go_sem]
theorem box_stay {W W' : World} {b : Nat} {o : Obj} (h : W.heap[b]? = some o) (hb : Below W.heap.size W W') : W'.heap[b]? = some o := (hb.block b (Array.getElem?_eq_some_iff.1 h).1).trans h

set_option maxHeartbeats 2000000 in
set_option maxRecDepth 100000 in
theorem iLoad_e8 (a b : Int) (ha : 4 ≤ a) (ha' : a ≤ 7) (hb : 4 ≤ b) (hb' : b ≤ 7) (N : Nat) (hnn : a * b = (N : Int)) (t : Pt) (ht : t.ok) (w : World) :
    Calls Try.prog 105 #[GV a b, .agg #[.complex .f32 (E8 t.n) (E8 t.m), .complex .f32 t.x t.y, .float .f32 (E8 t.c), .float .f32 (E8 t.s)]] w fun e w' => (∃ i0 i1 i2 i3 r0 r1 r2 r3, e = .returned (.agg (LdC i0 i1 i2 i3 r0 r1 r2 r3)) ∧ ∃ v0 v1 v2 v3, LdOk a b t N i0 i1 i2 i3 r0 r1 r2 r3 v0 v1 v2 v3) ∧ Below w.heap.size w w' := by
  have HT := Lib.hid ht; have HNN := Lib.hid hnn
  have hn' := ht.n0; have hn'' := ht.n1; have hm' := ht.m0; have hm'' := ht.m1
  have HB0 := Lib.hid ((((Below.refl w.heap.size w).alloc (Nat.le_refl _) (.cells #[.int .i64 a, .int .i64 b] 27)).alloc (by simp) (.cells #[.complex .f32 (E8 t.n) (E8 t.m), .complex .f32 t.x t.y, .float .f32 (E8 t.c), .float .f32 (E8 t.s)] 72)).alloc (by simp; omega) (.cells (LdC 0 0 0 0 0 0 0 0) 122))
  have hg0 : (((w.alloc (.cells #[.int .i64 a, .int .i64 b] 27)).alloc (.cells #[.complex .f32 (E8 t.n) (E8 t.m), .complex .f32 t.x t.y, .float .f32 (E8 t.c), .float .f32 (E8 t.s)] 72)).alloc (.cells (LdC 0 0 0 0 0 0 0 0) 122)).heap[w.heap.size]? = some (.cells #[.int .i64 a, .int .i64 b] 27) :=
    box_stay (heap_alloc2_old w _ _) ((Below.refl _ _).alloc (Nat.le_refl _) _)
  have hp0 : (((w.alloc (.cells #[.int .i64 a, .int .i64 b] 27)).alloc (.cells #[.complex .f32 (E8 t.n) (E8 t.m), .complex .f32 t.x t.y, .float .f32 (E8 t.c), .float .f32 (E8 t.s)] 72)).alloc (.cells (LdC 0 0 0 0 0 0 0 0) 122)).heap[w.heap.size + 1]? = some (.cells #[.complex .f32 (E8 t.n) (E8 t.m), .complex .f32 t.x t.y, .float .f32 (E8 t.c), .float .f32 (E8 t.s)] 72) :=
    box_stay (heap_alloc2_new w _ _) ((Below.refl _ _).alloc (Nat.le_refl _) _)
  have hl0 : (((w.alloc (.cells #[.int .i64 a, .int .i64 b] 27)).alloc (.cells #[.complex .f32 (E8 t.n) (E8 t.m), .complex .f32 t.x t.y, .float .f32 (E8 t.c), .float .f32 (E8 t.s)] 72)).alloc (.cells (LdC 0 0 0 0 0 0 0 0) 122)).heap[w.heap.size + 1 + 1]? = some (.cells (LdC 0 0 0 0 0 0 0 0) 122) := by
    have := heap_alloc_new ((w.alloc (.cells #[.int .i64 a, .int .i64 b] 27)).alloc (.cells #[.complex .f32 (E8 t.n) (E8 t.m), .complex .f32 t.x t.y, .float .f32 (E8 t.c), .float .f32 (E8 t.s)] 72)) (.cells (LdC 0 0 0 0 0 0 0 0) 122)
    simpa using this
  have HG := Lib.hid hg0; have HP := Lib.hid hp0; have HL := Lib.hid hl0
  clear hg0 hp0 hl0 ht hnn
  have hcg : ∀ W : World, W.heap[w.heap.size]? = some (.cells #[.int .i64 a, .int .i64 b] 27) → W.cell? ⟨w.heap.size, 0, none⟩ = some (.int .i64 a) ∧ W.cell? ⟨w.heap.size, 1, none⟩ = some (.int .i64 b) := fun W h => ⟨by rw [Joins.cell_of_block h]; rfl, by rw [Joins.cell_of_block h]; rfl⟩
  have HCG := Lib.hid hcg
  obtain ⟨g0, g1⟩ := hcg _ HG.out
  obtain ⟨p0, p1, p2, p3⟩ := Four.cells HP.out
  clear hcg
  go_enter Try.func105, Try.ntmps105
  go_wp2_with fail
  generalize ((w.alloc (.cells #[.int .i64 a, .int .i64 b] 27)).alloc (.cells #[.complex .f32 (E8 t.n) (E8 t.m), .complex .f32 t.x t.y, .float .f32 (E8 t.c), .float .f32 (E8 t.s)] 72)).alloc (.cells (LdC 0 0 0 0 0 0 0 0) 122) = w1 at HB0 HG HP HL g0 g1 p0 p1 p2 p3 ⊢
  clear g0 g1 p0 p1 p2 p3
  refine (iCorners_e8 a b ha ha' hb hb' t.n t.m hn' hn'' hm' hm'' _).mono ?_
  rintro e w2 ⟨rfl, h2⟩
  have HB := Lib.hid (HB0.out.trans (h2.mono HB0.out.size)); have HG := Lib.hid (box_stay HG.out h2); have HP := Lib.hid (box_stay HP.out h2); have HL := Lib.hid (box_stay HL.out h2)
  clear h2 HB0
  unfold CornV
  have q0 := cornIx_in (a := a) (b := b) (x := t.n % (8 * a) / 8) (y := t.m % (8 * b) / 8) ha hb
  have q1 := cornIx_in (a := a) (b := b) (x := t.n % (8 * a) / 8 + 1) (y := t.m % (8 * b) / 8) ha hb
  have q2 := cornIx_in (a := a) (b := b) (x := t.n % (8 * a) / 8) (y := t.m % (8 * b) / 8 + 1) ha hb
  have q3 := cornIx_in (a := a) (b := b) (x := t.n % (8 * a) / 8 + 1) (y := t.m % (8 * b) / 8 + 1) ha hb
  obtain ⟨i0, e0⟩ := Int.eq_ofNat_of_zero_le q0.1
  obtain ⟨i1, e1⟩ := Int.eq_ofNat_of_zero_le q1.1
  obtain ⟨i2, e2⟩ := Int.eq_ofNat_of_zero_le q2.1
  obtain ⟨i3, e3⟩ := Int.eq_ofNat_of_zero_le q3.1
  have hdep : ∀ j, depAt a b j t = at1 (cornIx a b (t.n % (8 * a) / 8) (t.m % (8 * b) / 8)) (t.c * ((8 - t.n % 8) * (8 - t.m % 8))) j + at1 (cornIx a b (t.n % (8 * a) / 8 + 1) (t.m % (8 * b) / 8)) (t.c * (t.n % 8 * (8 - t.m % 8))) j
      + at1 (cornIx a b (t.n % (8 * a) / 8) (t.m % (8 * b) / 8 + 1)) (t.c * ((8 - t.n % 8) * (t.m % 8))) j + at1 (cornIx a b (t.n % (8 * a) / 8 + 1) (t.m % (8 * b) / 8 + 1)) (t.c * (t.n % 8 * (t.m % 8))) j := fun j => rfl
  rw [e0] at q0; rw [e1] at q1; rw [e2] at q2; rw [e3] at q3
  simp only [e0, e1, e2, e3] at hdep ⊢
  have HI := Lib.hid (show i0 < N ∧ i1 < N ∧ i2 < N ∧ i3 < N by have := HNN.out; omega)
  clear q0 q1 q2 q3 e0 e1 e2 e3
  have HSH := Lib.hid (sh_dy (t.n % 8) (t.m % 8) (by omega) (by omega) (by omega) (by omega))
  have HSB := Lib.hid (sh_in (t := t))
  -- the load, with its corners
  have HBL := Lib.hid (heap_alloc_new w2 (.cells (LdC i0 i1 i2 i3 0 0 0 0) 122))
  have hal := (Below.refl w2.heap.size w2).alloc (Nat.le_refl _) (.cells (LdC i0 i1 i2 i3 0 0 0 0) 122)
  have HWL := Lib.hid (show w.heap.size + 1 + 1 < w2.heap.size from (Array.getElem?_eq_some_iff.1 HL.out).1)
  have HB := Lib.hid (HB.out.trans (hal.mono HB.out.size)); have HG := Lib.hid (box_stay HG.out hal); have HP := Lib.hid (box_stay HP.out hal); have HL := Lib.hid (box_stay HL.out hal)
  clear hal
  obtain ⟨g0, g1⟩ := HCG.out _ HG.out
  obtain ⟨p0, p1, p2, p3⟩ := Four.cells HP.out
  go_wp2_with fail
  generalize w2.alloc (.cells (LdC i0 i1 i2 i3 0 0 0 0) 122) = w3 at HB HG HP HL HBL g0 g1 p0 p1 p2 p3 ⊢
  generalize w2.heap.size = bl at HBL HWL ⊢
  clear g0 g1 p0 p1 p2 p3
  refine (iShares_e8 a b ha ha' hb hb' t.n t.m hn' hn'' hm' hm'' _).mono ?_
  rintro e w4 ⟨rfl, h4⟩
  rw [mod_of ha ha', mod_of hb hb']
  have HB := Lib.hid (HB.out.trans (h4.mono HB.out.size)); have HP := Lib.hid (box_stay HP.out h4); have HL := Lib.hid (box_stay HL.out h4); have HBL := Lib.hid (box_stay HBL.out h4)
  clear h4 HG
  unfold ShV
  generalize sh0 (t.n % 8) (t.m % 8) = s0 at HSH ⊢
  generalize sh1 (t.n % 8) (t.m % 8) = s1 at HSH ⊢
  generalize sh2 (t.n % 8) (t.m % 8) = s2 at HSH ⊢
  generalize sh3 (t.n % 8) (t.m % 8) = s3 at HSH ⊢
  generalize (8 - t.n % 8) * (8 - t.m % 8) = S0 at HSH HSB hdep
  generalize t.n % 8 * (8 - t.m % 8) = S1 at HSH HSB hdep
  generalize (8 - t.n % 8) * (t.m % 8) = S2 at HSH HSB hdep
  generalize t.n % 8 * (t.m % 8) = S3 at HSH HSB hdep
  have hc0 := HT.out.c0; have hc1 := HT.out.c1
  have b0 := cs_in hc0 hc1 HSB.out.1.1 HSB.out.1.2; have b1 := cs_in hc0 hc1 HSB.out.2.1.1 HSB.out.2.1.2; have b2 := cs_in hc0 hc1 HSB.out.2.2.1.1 HSB.out.2.2.1.2; have b3 := cs_in hc0 hc1 HSB.out.2.2.2.1 HSB.out.2.2.2.2
  have HBB := Lib.hid (show (-1024 ≤ t.c * S0 ∧ t.c * S0 ≤ 1024) ∧ (-1024 ≤ t.c * S1 ∧ t.c * S1 ≤ 1024) ∧ (-1024 ≤ t.c * S2 ∧ t.c * S2 ≤ 1024) ∧ (-1024 ≤ t.c * S3 ∧ t.c * S3 ≤ 1024) from ⟨b0, b1, b2, b3⟩)
  have HCD := Lib.hid (dy_e8' (n := t.c) (by omega) (by omega))
  have HSD := Lib.hid (show Dv .f32 143 s0 S0 ∧ Dv .f32 143 s1 S1 ∧ Dv .f32 143 s2 S2 ∧ Dv .f32 143 s3 S3 from ⟨HSH.out.1.dv, HSH.out.2.1.dv, HSH.out.2.2.1.dv, HSH.out.2.2.2.dv⟩)
  have HDP := Lib.hid hdep
  have iy := HCD.out.is
  clear hdep b0 b1 b2 b3 hc0 hc1 hn' hn'' hm' hm'' HSB HSH
  go_wp2_with fail
  go_loopw [17] (fun i wr => ∃ c z0 z1 z2 z3 : Nat, c ≤ 4 ∧ i = .int .i64 c ∧ Hid (Below w.heap.size w wr) ∧ Hid (wr.heap[w.heap.size + 1]? = some (.cells #[.complex .f32 (E8 t.n) (E8 t.m), .complex .f32 t.x t.y, .float .f32 (E8 t.c), .float .f32 (E8 t.s)] 72)) ∧ Hid (wr.heap[w.heap.size + 1 + 1]? = some (.cells (LdC 0 0 0 0 0 0 0 0) 122)) ∧ Hid (wr.heap[bl]? = some (.cells (LdC i0 i1 i2 i3 z0 z1 z2 z3) 122)) ∧ Hid ((0 < c → Dv .f32 140 z0 (t.c * S0)) ∧ (1 < c → Dv .f32 140 z1 (t.c * S1)) ∧ (2 < c → Dv .f32 140 z2 (t.c * S2)) ∧ (3 < c → Dv .f32 140 z3 (t.c * S3)))) (fun i _ => (4 - intOf i).toNat)
  case atStart => exact ⟨0, 0, 0, 0, 0, by omega, rfl, HB, HP, HL, HBL, Lib.hid ⟨fun h => absurd h (by omega), fun h => absurd h (by omega), fun h => absurd h (by omega), fun h => absurd h (by omega)⟩⟩
  case round =>
    clear HB HP HL HBL
    obtain ⟨c, z0, z1, z2, z3, hc, rfl, HB, HP, HL, HBL, HZ⟩ := hrel
    by_cases hlt4 : c < 4
    · have h4 : c = 0 ∨ c = 1 ∨ c = 2 ∨ c = 3 := by omega
      clear hc hlt4
      obtain ⟨p0, p1, p2, p3⟩ := Four.cells HP.out
      obtain ⟨⟨l0, l1, l2, l3⟩, l4, l5, l6, l7⟩ := eight_cells HBL.out
      rcases h4 with rfl | rfl | rfl | rfl
      · have qx := fun W => (index_fourF (.float .f32 s0) (.float .f32 s1) (.float .f32 s2) (.float .f32 s3) W).1
        have iz := HSD.out.1.is
        have ff := fz_block HBL.out 4
        go_wp2_with (apply wpList_farith; rfl; rfl; rfl; rfl; (first | with_reducible assumption | exact Is.const rfl); (first | with_reducible assumption | exact Is.const rfl); intro r n hr)
        have HQ := Lib.hid (dv_is (HCD.out.mul32 HSD.out.1 (w := 140) (by decide) (by have := HBB.out.1; omega) (by decide)) hr)
        have HBN := Lib.hid (show ((wr.drewN n).setCell ⟨bl, 4, none⟩ (.float .f32 r)).heap[bl]? = some (.cells (LdC i0 i1 i2 i3 r z1 z2 z3) 122) from put_block (show (wr.drewN n).heap[bl]? = some (.cells (LdC i0 i1 i2 i3 z0 z1 z2 z3) 122) from HBL.out) 4 (.float .f32 r))
        go_roundw
        case rel => exact ⟨0 + 1, r, z1, z2, z3, by omega, rfl, Lib.hid ((below_drewN HB.out _).setCell (p := ⟨bl, 4, none⟩) (by have := HWL.out; show w.heap.size ≤ bl; omega) _), Lib.hid ((Below.heap_setCell _ ⟨bl, 4, none⟩ _ _ (by have := HWL.out; show w.heap.size + 1 ≠ bl; omega)).trans HP.out), Lib.hid ((Below.heap_setCell _ ⟨bl, 4, none⟩ _ _ (by have := HWL.out; show w.heap.size + 1 + 1 ≠ bl; omega)).trans HL.out), HBN, Lib.hid ⟨fun _ => HQ.out, fun h => absurd h (by omega), fun h => absurd h (by omega), fun h => absurd h (by omega)⟩⟩
        case measure => simp [intOf]
      · have qx := fun W => (index_fourF (.float .f32 s0) (.float .f32 s1) (.float .f32 s2) (.float .f32 s3) W).2.1
        have iz := HSD.out.2.1.is
        have ff := fz_block HBL.out 5
        go_wp2_with (apply wpList_farith; rfl; rfl; rfl; rfl; (first | with_reducible assumption | exact Is.const rfl); (first | with_reducible assumption | exact Is.const rfl); intro r n hr)
        have HQ := Lib.hid (dv_is (HCD.out.mul32 HSD.out.2.1 (w := 140) (by decide) (by have := HBB.out.2.1; omega) (by decide)) hr)
        have HBN := Lib.hid (show ((wr.drewN n).setCell ⟨bl, 5, none⟩ (.float .f32 r)).heap[bl]? = some (.cells (LdC i0 i1 i2 i3 z0 r z2 z3) 122) from put_block (show (wr.drewN n).heap[bl]? = some (.cells (LdC i0 i1 i2 i3 z0 z1 z2 z3) 122) from HBL.out) 5 (.float .f32 r))
        go_roundw
        case rel => exact ⟨1 + 1, z0, r, z2, z3, by omega, rfl, Lib.hid ((below_drewN HB.out _).setCell (p := ⟨bl, 5, none⟩) (by have := HWL.out; show w.heap.size ≤ bl; omega) _), Lib.hid ((Below.heap_setCell _ ⟨bl, 5, none⟩ _ _ (by have := HWL.out; show w.heap.size + 1 ≠ bl; omega)).trans HP.out), Lib.hid ((Below.heap_setCell _ ⟨bl, 5, none⟩ _ _ (by have := HWL.out; show w.heap.size + 1 + 1 ≠ bl; omega)).trans HL.out), HBN, Lib.hid ⟨fun _ => HZ.out.1 (by omega), fun _ => HQ.out, fun h => absurd h (by omega), fun h => absurd h (by omega)⟩⟩
        case measure => simp [intOf]
      · have qx := fun W => (index_fourF (.float .f32 s0) (.float .f32 s1) (.float .f32 s2) (.float .f32 s3) W).2.2.1
        have iz := HSD.out.2.2.1.is
        have ff := fz_block HBL.out 6
        go_wp2_with (apply wpList_farith; rfl; rfl; rfl; rfl; (first | with_reducible assumption | exact Is.const rfl); (first | with_reducible assumption | exact Is.const rfl); intro r n hr)
        have HQ := Lib.hid (dv_is (HCD.out.mul32 HSD.out.2.2.1 (w := 140) (by decide) (by have := HBB.out.2.2.1; omega) (by decide)) hr)
        have HBN := Lib.hid (show ((wr.drewN n).setCell ⟨bl, 6, none⟩ (.float .f32 r)).heap[bl]? = some (.cells (LdC i0 i1 i2 i3 z0 z1 r z3) 122) from put_block (show (wr.drewN n).heap[bl]? = some (.cells (LdC i0 i1 i2 i3 z0 z1 z2 z3) 122) from HBL.out) 6 (.float .f32 r))
        go_roundw
        case rel => exact ⟨2 + 1, z0, z1, r, z3, by omega, rfl, Lib.hid ((below_drewN HB.out _).setCell (p := ⟨bl, 6, none⟩) (by have := HWL.out; show w.heap.size ≤ bl; omega) _), Lib.hid ((Below.heap_setCell _ ⟨bl, 6, none⟩ _ _ (by have := HWL.out; show w.heap.size + 1 ≠ bl; omega)).trans HP.out), Lib.hid ((Below.heap_setCell _ ⟨bl, 6, none⟩ _ _ (by have := HWL.out; show w.heap.size + 1 + 1 ≠ bl; omega)).trans HL.out), HBN, Lib.hid ⟨fun _ => HZ.out.1 (by omega), fun _ => HZ.out.2.1 (by omega), fun _ => HQ.out, fun h => absurd h (by omega)⟩⟩
        case measure => simp [intOf]
      · have qx := fun W => (index_fourF (.float .f32 s0) (.float .f32 s1) (.float .f32 s2) (.float .f32 s3) W).2.2.2
        have iz := HSD.out.2.2.2.is
        have ff := fz_block HBL.out 7
        go_wp2_with (apply wpList_farith; rfl; rfl; rfl; rfl; (first | with_reducible assumption | exact Is.const rfl); (first | with_reducible assumption | exact Is.const rfl); intro r n hr)
        have HQ := Lib.hid (dv_is (HCD.out.mul32 HSD.out.2.2.2 (w := 140) (by decide) (by have := HBB.out.2.2.2; omega) (by decide)) hr)
        have HBN := Lib.hid (show ((wr.drewN n).setCell ⟨bl, 7, none⟩ (.float .f32 r)).heap[bl]? = some (.cells (LdC i0 i1 i2 i3 z0 z1 z2 r) 122) from put_block (show (wr.drewN n).heap[bl]? = some (.cells (LdC i0 i1 i2 i3 z0 z1 z2 z3) 122) from HBL.out) 7 (.float .f32 r))
        go_roundw
        case rel => exact ⟨3 + 1, z0, z1, z2, r, by omega, rfl, Lib.hid ((below_drewN HB.out _).setCell (p := ⟨bl, 7, none⟩) (by have := HWL.out; show w.heap.size ≤ bl; omega) _), Lib.hid ((Below.heap_setCell _ ⟨bl, 7, none⟩ _ _ (by have := HWL.out; show w.heap.size + 1 ≠ bl; omega)).trans HP.out), Lib.hid ((Below.heap_setCell _ ⟨bl, 7, none⟩ _ _ (by have := HWL.out; show w.heap.size + 1 + 1 ≠ bl; omega)).trans HL.out), HBN, Lib.hid ⟨fun _ => HZ.out.1 (by omega), fun _ => HZ.out.2.1 (by omega), fun _ => HZ.out.2.2.1 (by omega), fun _ => HQ.out⟩⟩
        case measure => simp [intOf]
    · obtain rfl : c = 4 := by omega
      clear hc hlt4
      have hrow := setRow_heap wr (w.heap.size + 1 + 1) _ (LdC i0 i1 i2 i3 z0 z1 z2 z3) _ _ HL.out
      obtain ⟨⟨l0, l1, l2, l3⟩, l4, l5, l6, l7⟩ := eight_cells hrow
      have HBR := Lib.hid (below_setRow (g := w.heap.size + 1 + 1) HB.out (by omega) (LdC i0 i1 i2 i3 z0 z1 z2 z3))
      clear hrow
      go_wp2_with (first
        | ((with_reducible show wpList _ _ _ (Oper.mk (some 29) _ _ _ _ _ :: _) _ _); refine wpList_load_row rfl 122 _ rfl bl rfl 122 (LdC i0 i1 i2 i3 z0 z1 z2 z3) (0, 0) _ HBL.out Try.underlying122 rfl info_load ?_)
        | ((with_reducible show wpList _ _ _ (Oper.mk none (Op.store _ (Operand.tmp 4) _) _ _ _ _ :: _) _ _); refine wpList_store_row rfl 122 _ _ rfl (w.heap.size + 1 + 1) (LdC i0 i1 i2 i3 z0 z1 z2 z3) rfl rfl 122 _ HL.out info_load rfl (one8 _ _ _ _ _ _ _ _) ?_))
      refine bodyPost_ret (v := .agg (LdC i0 i1 i2 i3 z0 z1 z2 z3)) (by simp [results, Try.results105, go_sem, l0, l1, l2, l3, l4, l5, l6, l7]) rfl ?_
      exact ⟨⟨i0, i1, i2, i3, z0, z1, z2, z3, rfl, _, _, _, _, ⟨HDP.out, HI.out, ⟨HZ.out.1 (by omega), HBB.out.1⟩, ⟨HZ.out.2.1 (by omega), HBB.out.2.1⟩, ⟨HZ.out.2.2.1 (by omega), HBB.out.2.2.1⟩, ⟨HZ.out.2.2.2 (by omega), HBB.out.2.2.2⟩⟩⟩, HBR.out⟩


set_option maxHeartbeats 2000000 in
set_option maxRecDepth 100000 in
theorem iAddTo_any (B g N : Nat) (xs : List Nat) (F : Nat → Int) (i0 i1 i2 i3 r0 r1 r2 r3 : Nat) (v0 v1 v2 v3 : Int) (w : World) (hR : FR B w g N xs) (hD : DyL xs F) (hl : i0 < N ∧ i1 < N ∧ i2 < N ∧ i3 < N)
    (d0 : Dv .f32 140 r0 v0 ∧ -1024 ≤ v0 ∧ v0 ≤ 1024) (d1 : Dv .f32 140 r1 v1 ∧ -1024 ≤ v1 ∧ v1 ≤ 1024) (d2 : Dv .f32 140 r2 v2 ∧ -1024 ≤ v2 ∧ v2 ≤ 1024) (d3 : Dv .f32 140 r3 v3 ∧ -1024 ≤ v3 ∧ v3 ≤ 1024) (hF : ∀ j, -262144 ≤ F j ∧ F j ≤ 262144) (hN : N ≤ 256) :
    Calls Try.prog 106 #[.agg (LdC i0 i1 i2 i3 r0 r1 r2 r3), .slice (some ⟨g, 0, none⟩) N N] w fun e w' => e = .returned (.tuple #[]) ∧ w.grownBy w' (some g) ∧ ∃ ys, FR B w' g N ys ∧ DyL ys (fun j => F j + cornTo i0 i1 i2 i3 v0 v1 v2 v3 4 j) := by
  have hgl := (hR.2.lt g rfl).2
  have hal := (Below.refl w.heap.size w).alloc (Nat.le_refl _) (.cells (LdC i0 i1 i2 i3 r0 r1 r2 r3) 122)
  have HL0 := Lib.hid (heap_alloc_new w (.cells (LdC i0 i1 i2 i3 r0 r1 r2 r3) 122))
  have HG0 := Lib.hid (grown_below (row := some g) hal)
  have HR0 := Lib.hid (hR.kept hal)
  have HGL := Lib.hid (show g ≠ w.heap.size from by omega)
  have HBD := Lib.hid (show ∀ c j : Nat, -270000 ≤ F j + cornTo i0 i1 i2 i3 v0 v1 v2 v3 c j ∧ F j + cornTo i0 i1 i2 i3 v0 v1 v2 v3 c j ≤ 270000 from fun c j => by
    have h1 := hF j
    have h2 := cornTo_in (i0 := i0) (i1 := i1) (i2 := i2) (i3 := i3) d0.2 d1.2 d2.2 d3.2 c j
    omega)
  have HI := Lib.hid hl
  have HSD := Lib.hid (show (Dv .f32 140 r0 v0 ∧ -1024 ≤ v0 ∧ v0 ≤ 1024) ∧ (Dv .f32 140 r1 v1 ∧ -1024 ≤ v1 ∧ v1 ≤ 1024) ∧ (Dv .f32 140 r2 v2 ∧ -1024 ≤ v2 ∧ v2 ≤ 1024) ∧ (Dv .f32 140 r3 v3 ∧ -1024 ≤ v3 ∧ v3 ≤ 1024) from ⟨d0, d1, d2, d3⟩)
  have HD0 := Lib.hid (show DyL xs (fun j => F j + cornTo i0 i1 i2 i3 v0 v1 v2 v3 0 j) from fun j hj => by
    show Dy .f32 140 _ (F j + 0)
    rw [Int.add_zero]; exact hD j hj)
  obtain ⟨⟨l0, l1, l2, l3⟩, l4, l5, l6, l7⟩ := eight_cells HL0.out
  clear hR hD hl d0 d1 d2 d3 hF hal hgl
  go_enter Try.func106, Try.ntmps106
  go_wp2_with fail
  generalize w.alloc (.cells (LdC i0 i1 i2 i3 r0 r1 r2 r3) 122) = w1 at HL0 HG0 HR0 l0 l1 l2 l3 l4 l5 l6 l7 ⊢
  clear l0 l1 l2 l3 l4 l5 l6 l7
  have HW1 := Lib.hid (show w.heap.size < w1.heap.size from (Array.getElem?_eq_some_iff.1 HL0.out).1)
  have HBX := Lib.hid (show ∀ W, w1.grownBy W (some g) → W.heap[w.heap.size]? = some (.cells (LdC i0 i1 i2 i3 r0 r1 r2 r3) 122) from fun W G => (G.block w.heap.size HW1.out (fun e => HGL.out (Option.some.inj e).symm)).trans HL0.out)
  go_loopw [8] (fun i wr => ∃ c : Nat, c ≤ 4 ∧ i = .int .i64 c ∧ Hid (w1.grownBy wr (some g)) ∧ ∃ xs, Hid (FR B wr g N xs) ∧ Hid (DyL xs (fun j => F j + cornTo i0 i1 i2 i3 v0 v1 v2 v3 c j))) (fun i _ => (4 - intOf i).toNat)
  case atStart => exact ⟨0, by omega, rfl, Lib.hid (grown_refl _ _), xs, HR0, HD0⟩
  case round =>
    clear HR0 HD0
    obtain ⟨c, hc, rfl, HG, xs, HR, HDY⟩ := hrel
    by_cases hlt4 : c < 4
    · have h4 : c = 0 ∨ c = 1 ∨ c = 2 ∨ c = 3 := by omega
      clear hc hlt4
      rcases h4 with rfl | rfl | rfl | rfl
      · have xk := HR.out.at HI.out.1
        have hf := HR.out.frozen i0
        have cs : wr.cell? ⟨w.heap.size, 4, none⟩ = some (.float .f32 r0) := (eight_cells (HBX.out wr HG.out)).2.1
        have HK1 := Lib.hid (HDY.out i0 (by rw [HR.out.1]; exact HI.out.1))
        have hj : (i0 : Int) < (N : Int) := by have := HI.out; omega
        have hj0 : (0 : Int) ≤ (i0 : Int) := Int.natCast_nonneg _
        have HP := Lib.hid (HSD.out.1)
        have ix := HK1.out.is; have iq := (HP.out).1.is
        generalize hz : xs.getD i0 0 = z at xk HK1 ix
        have HZ := Lib.hid hz
        clear hz
        have qx := fun W => (index_four' (.int .i64 (i0 : Int)) (.int .i64 (i1 : Int)) (.int .i64 (i2 : Int)) (.int .i64 (i3 : Int)) W).1
        go_wp2_with fail
        clear qx
        refine wp_region_noPanic ?_
        refine wp_region_held_drew (S := fun w' => w'.cell? ⟨w.heap.size, 4, none⟩ = some (.float .f32 r0)) (by kernel_rfl) cs (fun hHeld => ?_)
        ((refine wpAnyH_take (i := 0) (v := ?_) rfl (by kernel_rfl) (by kernel_rfl) (by kernel_rfl) (fun _ _ _ h => h) (Or.inl ⟨by rfl, ?_⟩) (by assumption) ?_; rotate_left; (· intro w hSw; (try dsimp only at hSw); go_simp; first | done | with_reducible rfl); (try simp only [List.getElem_toArray, List.getElem_cons_zero, List.getElem_cons_succ, Act.put, List.setIfInBounds_toArray, List.set_cons_zero, List.set_cons_succ])); (refine wpAnyH_take (i := 1) (v := ?_) rfl (by kernel_rfl) (by kernel_rfl) (by kernel_rfl) (fun _ _ _ h => h) (Or.inl ⟨by rfl, ?_⟩) (by assumption) ?_; rotate_left; (· intro w hSw; (try dsimp only at hSw); go_simp; first | done | with_reducible rfl); (try simp only [List.getElem_toArray, List.getElem_cons_zero, List.getElem_cons_succ, Act.put, List.setIfInBounds_toArray, List.set_cons_zero, List.set_cons_succ])); (refine wpAnyH_take (i := 2) (v := ?_) rfl (by kernel_rfl) (by kernel_rfl) (by kernel_rfl) (fun _ _ _ h => h) (Or.inl ⟨by rfl, ?_⟩) (by assumption) ?_; rotate_left; (· intro w hSw; (try dsimp only at hSw); go_simp; first | done | with_reducible rfl); (try simp only [List.getElem_toArray, List.getElem_cons_zero, List.getElem_cons_succ, Act.put, List.setIfInBounds_toArray, List.set_cons_zero, List.set_cons_succ])); (refine wpAnyH_take (i := 4) (v := ?_) rfl (by kernel_rfl) (by kernel_rfl) (by kernel_rfl) (fun _ _ _ h => h) (Or.inl ⟨by rfl, ?_⟩) (by assumption) ?_; rotate_left; (· intro w hSw; (try dsimp only at hSw); go_simp; first | done | with_reducible rfl); (try simp only [List.getElem_toArray, List.getElem_cons_zero, List.getElem_cons_succ, Act.put, List.setIfInBounds_toArray, List.set_cons_zero, List.set_cons_succ])); (refine wpAnyH_take (i := 5) (v := ?_) rfl (by kernel_rfl) (by kernel_rfl) (by kernel_rfl) (fun _ _ _ h => h) (Or.inl ⟨by rfl, ?_⟩) (by assumption) ?_; rotate_left; (· intro w hSw; (try dsimp only at hSw); go_simp; first | done | with_reducible rfl); (try simp only [List.getElem_toArray, List.getElem_cons_zero, List.getElem_cons_succ, Act.put, List.setIfInBounds_toArray, List.set_cons_zero, List.set_cons_succ])); (refine wpAnyH_take (i := 6) (v := ?_) rfl (by kernel_rfl) (by kernel_rfl) (by kernel_rfl) (fun _ _ _ h => h) (Or.inl ⟨by rfl, ?_⟩) (by assumption) ?_; rotate_left; (· intro w hSw; (try dsimp only at hSw); go_simp; first | done | with_reducible rfl); (try simp only [List.getElem_toArray, List.getElem_cons_zero, List.getElem_cons_succ, Act.put, List.setIfInBounds_toArray, List.set_cons_zero, List.set_cons_succ])); (refine wpAnyH_take (i := 7) (v := ?_) rfl (by kernel_rfl) (by kernel_rfl) (by kernel_rfl) (fun _ _ _ h => h) (Or.inl ⟨by rfl, ?_⟩) (by assumption) ?_; rotate_left; (· intro w hSw; (try dsimp only at hSw); go_simp; first | done | with_reducible rfl); (try simp only [List.getElem_toArray, List.getElem_cons_zero, List.getElem_cons_succ, Act.put, List.setIfInBounds_toArray, List.set_cons_zero, List.set_cons_succ])))
        (refine wpAnyH_ready (rs := [3]) (by kernel_rfl) (by simp) ?_; refine AllReadyH.cons (i := 3) rfl (fun K hK => ?_) AllReadyH.nil)
        go_simp
        (refine hK.out _ _ (cs) (fun hHeld => ?_); clear hK K; (try simp only [List.getElem_toArray, List.getElem_cons_zero, List.getElem_cons_succ, Act.put, List.setIfInBounds_toArray, List.set_cons_zero, List.set_cons_succ]))
        (refine wpAnyH_ready (rs := [8]) (by kernel_rfl) (by simp) ?_; refine AllReadyH.cons (i := 8) rfl (fun K hK => ?_) AllReadyH.nil)
        refine hstep_fa rfl .add 46 46 _ _ rfl rfl .f32 z r0 rfl rfl ix iq ?_
        intro r2_ n2 hr2
        (refine hK.out _ _ (cs) (fun hHeld => ?_); clear hK K; (try simp only [List.getElem_toArray, List.getElem_cons_zero, List.getElem_cons_succ, Act.put, List.setIfInBounds_toArray, List.set_cons_zero, List.set_cons_succ]))
        have HA := Lib.hid (dyis (HK1.out.addv32 HP.out.1 (by decide) (by have := HP.out.2; have := HBD.out 0 i0; omega)) hr2)
        have PT := FR.put (show FR B (wr.drewN (1 + n2)) g N xs from HR.out) (j := i0) HI.out.1 r2_
        have HR5 := Lib.hid PT.1
        have HG5 := Lib.hid (grown_trans (grown_trans HG.out (grown_below (row := some g) (below_drewN (Below.refl wr.heap.size wr) (1 + n2)))) PT.2)
        have cs5 := (eight_cells (HBX.out _ HG5.out)).2.1
        clear PT
        ((refine wpAnyH_take (i := 9) (v := ?_) rfl (by kernel_rfl) (by kernel_rfl) (by kernel_rfl) (fun _ _ _ h => h) (Or.inl ⟨by rfl, ?_⟩) (by assumption) ?_; rotate_left; (· intro w hSw; (try dsimp only at hSw); go_simp; first | done | with_reducible rfl); (try simp only [List.getElem_toArray, List.getElem_cons_zero, List.getElem_cons_succ, Act.put, List.setIfInBounds_toArray, List.set_cons_zero, List.set_cons_succ])))
        (refine wpAnyH_ready (rs := [10]) (by kernel_rfl) (by simp) ?_; refine AllReadyH.cons (i := 10) rfl (fun K hK => ?_) AllReadyH.nil)
        go_simp
        (refine hK.out _ _ (cs5) (fun hHeld => ?_); clear hK K; (try simp only [List.getElem_toArray, List.getElem_cons_zero, List.getElem_cons_succ, Act.put, List.setIfInBounds_toArray, List.set_cons_zero, List.set_cons_succ]))
        (refine wpAnyH_done (by kernel_rfl) ?_ _; refine NoPanic.normal ?_)
        clear hHeld xk hf cs cs5 ix iq hr2
        go_wp2_with fail
        go_roundw
        case rel => exact ⟨0 + 1, by omega, rfl, HG5, _, HR5, Lib.hid (DyL.put (F := fun j => F j + cornTo i0 i1 i2 i3 v0 v1 v2 v3 0 j) (G := fun j => F j + cornTo i0 i1 i2 i3 v0 v1 v2 v3 (0 + 1) j) HDY.out (by rw [HR.out.1]; exact HI.out.1) HA.out (fun j => by show _ + cornTo _ _ _ _ _ _ _ _ (0 + 1) j = _ + cornTo _ _ _ _ _ _ _ _ 0 j + at1 _ _ j; rw [corn_s0]; omega))⟩
        case measure => simp [intOf]
      · have xk := HR.out.at HI.out.2.1
        have hf := HR.out.frozen i1
        have cs : wr.cell? ⟨w.heap.size, 5, none⟩ = some (.float .f32 r1) := (eight_cells (HBX.out wr HG.out)).2.2.1
        have HK1 := Lib.hid (HDY.out i1 (by rw [HR.out.1]; exact HI.out.2.1))
        have hj : (i1 : Int) < (N : Int) := by have := HI.out; omega
        have hj0 : (0 : Int) ≤ (i1 : Int) := Int.natCast_nonneg _
        have HP := Lib.hid (HSD.out.2.1)
        have ix := HK1.out.is; have iq := (HP.out).1.is
        generalize hz : xs.getD i1 0 = z at xk HK1 ix
        have HZ := Lib.hid hz
        clear hz
        have qx := fun W => (index_four' (.int .i64 (i0 : Int)) (.int .i64 (i1 : Int)) (.int .i64 (i2 : Int)) (.int .i64 (i3 : Int)) W).2.1
        go_wp2_with fail
        clear qx
        refine wp_region_noPanic ?_
        refine wp_region_held_drew (S := fun w' => w'.cell? ⟨w.heap.size, 5, none⟩ = some (.float .f32 r1)) (by kernel_rfl) cs (fun hHeld => ?_)
        ((refine wpAnyH_take (i := 0) (v := ?_) rfl (by kernel_rfl) (by kernel_rfl) (by kernel_rfl) (fun _ _ _ h => h) (Or.inl ⟨by rfl, ?_⟩) (by assumption) ?_; rotate_left; (· intro w hSw; (try dsimp only at hSw); go_simp; first | done | with_reducible rfl); (try simp only [List.getElem_toArray, List.getElem_cons_zero, List.getElem_cons_succ, Act.put, List.setIfInBounds_toArray, List.set_cons_zero, List.set_cons_succ])); (refine wpAnyH_take (i := 1) (v := ?_) rfl (by kernel_rfl) (by kernel_rfl) (by kernel_rfl) (fun _ _ _ h => h) (Or.inl ⟨by rfl, ?_⟩) (by assumption) ?_; rotate_left; (· intro w hSw; (try dsimp only at hSw); go_simp; first | done | with_reducible rfl); (try simp only [List.getElem_toArray, List.getElem_cons_zero, List.getElem_cons_succ, Act.put, List.setIfInBounds_toArray, List.set_cons_zero, List.set_cons_succ])); (refine wpAnyH_take (i := 2) (v := ?_) rfl (by kernel_rfl) (by kernel_rfl) (by kernel_rfl) (fun _ _ _ h => h) (Or.inl ⟨by rfl, ?_⟩) (by assumption) ?_; rotate_left; (· intro w hSw; (try dsimp only at hSw); go_simp; first | done | with_reducible rfl); (try simp only [List.getElem_toArray, List.getElem_cons_zero, List.getElem_cons_succ, Act.put, List.setIfInBounds_toArray, List.set_cons_zero, List.set_cons_succ])); (refine wpAnyH_take (i := 4) (v := ?_) rfl (by kernel_rfl) (by kernel_rfl) (by kernel_rfl) (fun _ _ _ h => h) (Or.inl ⟨by rfl, ?_⟩) (by assumption) ?_; rotate_left; (· intro w hSw; (try dsimp only at hSw); go_simp; first | done | with_reducible rfl); (try simp only [List.getElem_toArray, List.getElem_cons_zero, List.getElem_cons_succ, Act.put, List.setIfInBounds_toArray, List.set_cons_zero, List.set_cons_succ])); (refine wpAnyH_take (i := 5) (v := ?_) rfl (by kernel_rfl) (by kernel_rfl) (by kernel_rfl) (fun _ _ _ h => h) (Or.inl ⟨by rfl, ?_⟩) (by assumption) ?_; rotate_left; (· intro w hSw; (try dsimp only at hSw); go_simp; first | done | with_reducible rfl); (try simp only [List.getElem_toArray, List.getElem_cons_zero, List.getElem_cons_succ, Act.put, List.setIfInBounds_toArray, List.set_cons_zero, List.set_cons_succ])); (refine wpAnyH_take (i := 6) (v := ?_) rfl (by kernel_rfl) (by kernel_rfl) (by kernel_rfl) (fun _ _ _ h => h) (Or.inl ⟨by rfl, ?_⟩) (by assumption) ?_; rotate_left; (· intro w hSw; (try dsimp only at hSw); go_simp; first | done | with_reducible rfl); (try simp only [List.getElem_toArray, List.getElem_cons_zero, List.getElem_cons_succ, Act.put, List.setIfInBounds_toArray, List.set_cons_zero, List.set_cons_succ])); (refine wpAnyH_take (i := 7) (v := ?_) rfl (by kernel_rfl) (by kernel_rfl) (by kernel_rfl) (fun _ _ _ h => h) (Or.inl ⟨by rfl, ?_⟩) (by assumption) ?_; rotate_left; (· intro w hSw; (try dsimp only at hSw); go_simp; first | done | with_reducible rfl); (try simp only [List.getElem_toArray, List.getElem_cons_zero, List.getElem_cons_succ, Act.put, List.setIfInBounds_toArray, List.set_cons_zero, List.set_cons_succ])))
        (refine wpAnyH_ready (rs := [3]) (by kernel_rfl) (by simp) ?_; refine AllReadyH.cons (i := 3) rfl (fun K hK => ?_) AllReadyH.nil)
        go_simp
        (refine hK.out _ _ (cs) (fun hHeld => ?_); clear hK K; (try simp only [List.getElem_toArray, List.getElem_cons_zero, List.getElem_cons_succ, Act.put, List.setIfInBounds_toArray, List.set_cons_zero, List.set_cons_succ]))
        (refine wpAnyH_ready (rs := [8]) (by kernel_rfl) (by simp) ?_; refine AllReadyH.cons (i := 8) rfl (fun K hK => ?_) AllReadyH.nil)
        refine hstep_fa rfl .add 46 46 _ _ rfl rfl .f32 z r1 rfl rfl ix iq ?_
        intro r2_ n2 hr2
        (refine hK.out _ _ (cs) (fun hHeld => ?_); clear hK K; (try simp only [List.getElem_toArray, List.getElem_cons_zero, List.getElem_cons_succ, Act.put, List.setIfInBounds_toArray, List.set_cons_zero, List.set_cons_succ]))
        have HA := Lib.hid (dyis (HK1.out.addv32 HP.out.1 (by decide) (by have := HP.out.2; have := HBD.out 1 i1; omega)) hr2)
        have PT := FR.put (show FR B (wr.drewN (1 + n2)) g N xs from HR.out) (j := i1) HI.out.2.1 r2_
        have HR5 := Lib.hid PT.1
        have HG5 := Lib.hid (grown_trans (grown_trans HG.out (grown_below (row := some g) (below_drewN (Below.refl wr.heap.size wr) (1 + n2)))) PT.2)
        have cs5 := (eight_cells (HBX.out _ HG5.out)).2.2.1
        clear PT
        ((refine wpAnyH_take (i := 9) (v := ?_) rfl (by kernel_rfl) (by kernel_rfl) (by kernel_rfl) (fun _ _ _ h => h) (Or.inl ⟨by rfl, ?_⟩) (by assumption) ?_; rotate_left; (· intro w hSw; (try dsimp only at hSw); go_simp; first | done | with_reducible rfl); (try simp only [List.getElem_toArray, List.getElem_cons_zero, List.getElem_cons_succ, Act.put, List.setIfInBounds_toArray, List.set_cons_zero, List.set_cons_succ])))
        (refine wpAnyH_ready (rs := [10]) (by kernel_rfl) (by simp) ?_; refine AllReadyH.cons (i := 10) rfl (fun K hK => ?_) AllReadyH.nil)
        go_simp
        (refine hK.out _ _ (cs5) (fun hHeld => ?_); clear hK K; (try simp only [List.getElem_toArray, List.getElem_cons_zero, List.getElem_cons_succ, Act.put, List.setIfInBounds_toArray, List.set_cons_zero, List.set_cons_succ]))
        (refine wpAnyH_done (by kernel_rfl) ?_ _; refine NoPanic.normal ?_)
        clear hHeld xk hf cs cs5 ix iq hr2
        go_wp2_with fail
        go_roundw
        case rel => exact ⟨1 + 1, by omega, rfl, HG5, _, HR5, Lib.hid (DyL.put (F := fun j => F j + cornTo i0 i1 i2 i3 v0 v1 v2 v3 1 j) (G := fun j => F j + cornTo i0 i1 i2 i3 v0 v1 v2 v3 (1 + 1) j) HDY.out (by rw [HR.out.1]; exact HI.out.2.1) HA.out (fun j => by show _ + cornTo _ _ _ _ _ _ _ _ (1 + 1) j = _ + cornTo _ _ _ _ _ _ _ _ 1 j + at1 _ _ j; rw [corn_s1]; omega))⟩
        case measure => simp [intOf]
      · have xk := HR.out.at HI.out.2.2.1
        have hf := HR.out.frozen i2
        have cs : wr.cell? ⟨w.heap.size, 6, none⟩ = some (.float .f32 r2) := (eight_cells (HBX.out wr HG.out)).2.2.2.1
        have HK1 := Lib.hid (HDY.out i2 (by rw [HR.out.1]; exact HI.out.2.2.1))
        have hj : (i2 : Int) < (N : Int) := by have := HI.out; omega
        have hj0 : (0 : Int) ≤ (i2 : Int) := Int.natCast_nonneg _
        have HP := Lib.hid (HSD.out.2.2.1)
        have ix := HK1.out.is; have iq := (HP.out).1.is
        generalize hz : xs.getD i2 0 = z at xk HK1 ix
        have HZ := Lib.hid hz
        clear hz
        have qx := fun W => (index_four' (.int .i64 (i0 : Int)) (.int .i64 (i1 : Int)) (.int .i64 (i2 : Int)) (.int .i64 (i3 : Int)) W).2.2.1
        go_wp2_with fail
        clear qx
        refine wp_region_noPanic ?_
        refine wp_region_held_drew (S := fun w' => w'.cell? ⟨w.heap.size, 6, none⟩ = some (.float .f32 r2)) (by kernel_rfl) cs (fun hHeld => ?_)
        ((refine wpAnyH_take (i := 0) (v := ?_) rfl (by kernel_rfl) (by kernel_rfl) (by kernel_rfl) (fun _ _ _ h => h) (Or.inl ⟨by rfl, ?_⟩) (by assumption) ?_; rotate_left; (· intro w hSw; (try dsimp only at hSw); go_simp; first | done | with_reducible rfl); (try simp only [List.getElem_toArray, List.getElem_cons_zero, List.getElem_cons_succ, Act.put, List.setIfInBounds_toArray, List.set_cons_zero, List.set_cons_succ])); (refine wpAnyH_take (i := 1) (v := ?_) rfl (by kernel_rfl) (by kernel_rfl) (by kernel_rfl) (fun _ _ _ h => h) (Or.inl ⟨by rfl, ?_⟩) (by assumption) ?_; rotate_left; (· intro w hSw; (try dsimp only at hSw); go_simp; first | done | with_reducible rfl); (try simp only [List.getElem_toArray, List.getElem_cons_zero, List.getElem_cons_succ, Act.put, List.setIfInBounds_toArray, List.set_cons_zero, List.set_cons_succ])); (refine wpAnyH_take (i := 2) (v := ?_) rfl (by kernel_rfl) (by kernel_rfl) (by kernel_rfl) (fun _ _ _ h => h) (Or.inl ⟨by rfl, ?_⟩) (by assumption) ?_; rotate_left; (· intro w hSw; (try dsimp only at hSw); go_simp; first | done | with_reducible rfl); (try simp only [List.getElem_toArray, List.getElem_cons_zero, List.getElem_cons_succ, Act.put, List.setIfInBounds_toArray, List.set_cons_zero, List.set_cons_succ])); (refine wpAnyH_take (i := 4) (v := ?_) rfl (by kernel_rfl) (by kernel_rfl) (by kernel_rfl) (fun _ _ _ h => h) (Or.inl ⟨by rfl, ?_⟩) (by assumption) ?_; rotate_left; (· intro w hSw; (try dsimp only at hSw); go_simp; first | done | with_reducible rfl); (try simp only [List.getElem_toArray, List.getElem_cons_zero, List.getElem_cons_succ, Act.put, List.setIfInBounds_toArray, List.set_cons_zero, List.set_cons_succ])); (refine wpAnyH_take (i := 5) (v := ?_) rfl (by kernel_rfl) (by kernel_rfl) (by kernel_rfl) (fun _ _ _ h => h) (Or.inl ⟨by rfl, ?_⟩) (by assumption) ?_; rotate_left; (· intro w hSw; (try dsimp only at hSw); go_simp; first | done | with_reducible rfl); (try simp only [List.getElem_toArray, List.getElem_cons_zero, List.getElem_cons_succ, Act.put, List.setIfInBounds_toArray, List.set_cons_zero, List.set_cons_succ])); (refine wpAnyH_take (i := 6) (v := ?_) rfl (by kernel_rfl) (by kernel_rfl) (by kernel_rfl) (fun _ _ _ h => h) (Or.inl ⟨by rfl, ?_⟩) (by assumption) ?_; rotate_left; (· intro w hSw; (try dsimp only at hSw); go_simp; first | done | with_reducible rfl); (try simp only [List.getElem_toArray, List.getElem_cons_zero, List.getElem_cons_succ, Act.put, List.setIfInBounds_toArray, List.set_cons_zero, List.set_cons_succ])); (refine wpAnyH_take (i := 7) (v := ?_) rfl (by kernel_rfl) (by kernel_rfl) (by kernel_rfl) (fun _ _ _ h => h) (Or.inl ⟨by rfl, ?_⟩) (by assumption) ?_; rotate_left; (· intro w hSw; (try dsimp only at hSw); go_simp; first | done | with_reducible rfl); (try simp only [List.getElem_toArray, List.getElem_cons_zero, List.getElem_cons_succ, Act.put, List.setIfInBounds_toArray, List.set_cons_zero, List.set_cons_succ])))
        (refine wpAnyH_ready (rs := [3]) (by kernel_rfl) (by simp) ?_; refine AllReadyH.cons (i := 3) rfl (fun K hK => ?_) AllReadyH.nil)
        go_simp
        (refine hK.out _ _ (cs) (fun hHeld => ?_); clear hK K; (try simp only [List.getElem_toArray, List.getElem_cons_zero, List.getElem_cons_succ, Act.put, List.setIfInBounds_toArray, List.set_cons_zero, List.set_cons_succ]))
        (refine wpAnyH_ready (rs := [8]) (by kernel_rfl) (by simp) ?_; refine AllReadyH.cons (i := 8) rfl (fun K hK => ?_) AllReadyH.nil)
        refine hstep_fa rfl .add 46 46 _ _ rfl rfl .f32 z r2 rfl rfl ix iq ?_
        intro r2_ n2 hr2
        (refine hK.out _ _ (cs) (fun hHeld => ?_); clear hK K; (try simp only [List.getElem_toArray, List.getElem_cons_zero, List.getElem_cons_succ, Act.put, List.setIfInBounds_toArray, List.set_cons_zero, List.set_cons_succ]))
        have HA := Lib.hid (dyis (HK1.out.addv32 HP.out.1 (by decide) (by have := HP.out.2; have := HBD.out 2 i2; omega)) hr2)
        have PT := FR.put (show FR B (wr.drewN (1 + n2)) g N xs from HR.out) (j := i2) HI.out.2.2.1 r2_
        have HR5 := Lib.hid PT.1
        have HG5 := Lib.hid (grown_trans (grown_trans HG.out (grown_below (row := some g) (below_drewN (Below.refl wr.heap.size wr) (1 + n2)))) PT.2)
        have cs5 := (eight_cells (HBX.out _ HG5.out)).2.2.2.1
        clear PT
        ((refine wpAnyH_take (i := 9) (v := ?_) rfl (by kernel_rfl) (by kernel_rfl) (by kernel_rfl) (fun _ _ _ h => h) (Or.inl ⟨by rfl, ?_⟩) (by assumption) ?_; rotate_left; (· intro w hSw; (try dsimp only at hSw); go_simp; first | done | with_reducible rfl); (try simp only [List.getElem_toArray, List.getElem_cons_zero, List.getElem_cons_succ, Act.put, List.setIfInBounds_toArray, List.set_cons_zero, List.set_cons_succ])))
        (refine wpAnyH_ready (rs := [10]) (by kernel_rfl) (by simp) ?_; refine AllReadyH.cons (i := 10) rfl (fun K hK => ?_) AllReadyH.nil)
        go_simp
        (refine hK.out _ _ (cs5) (fun hHeld => ?_); clear hK K; (try simp only [List.getElem_toArray, List.getElem_cons_zero, List.getElem_cons_succ, Act.put, List.setIfInBounds_toArray, List.set_cons_zero, List.set_cons_succ]))
        (refine wpAnyH_done (by kernel_rfl) ?_ _; refine NoPanic.normal ?_)
        clear hHeld xk hf cs cs5 ix iq hr2
        go_wp2_with fail
        go_roundw
        case rel => exact ⟨2 + 1, by omega, rfl, HG5, _, HR5, Lib.hid (DyL.put (F := fun j => F j + cornTo i0 i1 i2 i3 v0 v1 v2 v3 2 j) (G := fun j => F j + cornTo i0 i1 i2 i3 v0 v1 v2 v3 (2 + 1) j) HDY.out (by rw [HR.out.1]; exact HI.out.2.2.1) HA.out (fun j => by show _ + cornTo _ _ _ _ _ _ _ _ (2 + 1) j = _ + cornTo _ _ _ _ _ _ _ _ 2 j + at1 _ _ j; rw [corn_s2]; omega))⟩
        case measure => simp [intOf]
      · have xk := HR.out.at HI.out.2.2.2
        have hf := HR.out.frozen i3
        have cs : wr.cell? ⟨w.heap.size, 7, none⟩ = some (.float .f32 r3) := (eight_cells (HBX.out wr HG.out)).2.2.2.2
        have HK1 := Lib.hid (HDY.out i3 (by rw [HR.out.1]; exact HI.out.2.2.2))
        have hj : (i3 : Int) < (N : Int) := by have := HI.out; omega
        have hj0 : (0 : Int) ≤ (i3 : Int) := Int.natCast_nonneg _
        have HP := Lib.hid (HSD.out.2.2.2)
        have ix := HK1.out.is; have iq := (HP.out).1.is
        generalize hz : xs.getD i3 0 = z at xk HK1 ix
        have HZ := Lib.hid hz
        clear hz
        have qx := fun W => (index_four' (.int .i64 (i0 : Int)) (.int .i64 (i1 : Int)) (.int .i64 (i2 : Int)) (.int .i64 (i3 : Int)) W).2.2.2
        go_wp2_with fail
        clear qx
        refine wp_region_noPanic ?_
        refine wp_region_held_drew (S := fun w' => w'.cell? ⟨w.heap.size, 7, none⟩ = some (.float .f32 r3)) (by kernel_rfl) cs (fun hHeld => ?_)
        ((refine wpAnyH_take (i := 0) (v := ?_) rfl (by kernel_rfl) (by kernel_rfl) (by kernel_rfl) (fun _ _ _ h => h) (Or.inl ⟨by rfl, ?_⟩) (by assumption) ?_; rotate_left; (· intro w hSw; (try dsimp only at hSw); go_simp; first | done | with_reducible rfl); (try simp only [List.getElem_toArray, List.getElem_cons_zero, List.getElem_cons_succ, Act.put, List.setIfInBounds_toArray, List.set_cons_zero, List.set_cons_succ])); (refine wpAnyH_take (i := 1) (v := ?_) rfl (by kernel_rfl) (by kernel_rfl) (by kernel_rfl) (fun _ _ _ h => h) (Or.inl ⟨by rfl, ?_⟩) (by assumption) ?_; rotate_left; (· intro w hSw; (try dsimp only at hSw); go_simp; first | done | with_reducible rfl); (try simp only [List.getElem_toArray, List.getElem_cons_zero, List.getElem_cons_succ, Act.put, List.setIfInBounds_toArray, List.set_cons_zero, List.set_cons_succ])); (refine wpAnyH_take (i := 2) (v := ?_) rfl (by kernel_rfl) (by kernel_rfl) (by kernel_rfl) (fun _ _ _ h => h) (Or.inl ⟨by rfl, ?_⟩) (by assumption) ?_; rotate_left; (· intro w hSw; (try dsimp only at hSw); go_simp; first | done | with_reducible rfl); (try simp only [List.getElem_toArray, List.getElem_cons_zero, List.getElem_cons_succ, Act.put, List.setIfInBounds_toArray, List.set_cons_zero, List.set_cons_succ])); (refine wpAnyH_take (i := 4) (v := ?_) rfl (by kernel_rfl) (by kernel_rfl) (by kernel_rfl) (fun _ _ _ h => h) (Or.inl ⟨by rfl, ?_⟩) (by assumption) ?_; rotate_left; (· intro w hSw; (try dsimp only at hSw); go_simp; first | done | with_reducible rfl); (try simp only [List.getElem_toArray, List.getElem_cons_zero, List.getElem_cons_succ, Act.put, List.setIfInBounds_toArray, List.set_cons_zero, List.set_cons_succ])); (refine wpAnyH_take (i := 5) (v := ?_) rfl (by kernel_rfl) (by kernel_rfl) (by kernel_rfl) (fun _ _ _ h => h) (Or.inl ⟨by rfl, ?_⟩) (by assumption) ?_; rotate_left; (· intro w hSw; (try dsimp only at hSw); go_simp; first | done | with_reducible rfl); (try simp only [List.getElem_toArray, List.getElem_cons_zero, List.getElem_cons_succ, Act.put, List.setIfInBounds_toArray, List.set_cons_zero, List.set_cons_succ])); (refine wpAnyH_take (i := 6) (v := ?_) rfl (by kernel_rfl) (by kernel_rfl) (by kernel_rfl) (fun _ _ _ h => h) (Or.inl ⟨by rfl, ?_⟩) (by assumption) ?_; rotate_left; (· intro w hSw; (try dsimp only at hSw); go_simp; first | done | with_reducible rfl); (try simp only [List.getElem_toArray, List.getElem_cons_zero, List.getElem_cons_succ, Act.put, List.setIfInBounds_toArray, List.set_cons_zero, List.set_cons_succ])); (refine wpAnyH_take (i := 7) (v := ?_) rfl (by kernel_rfl) (by kernel_rfl) (by kernel_rfl) (fun _ _ _ h => h) (Or.inl ⟨by rfl, ?_⟩) (by assumption) ?_; rotate_left; (· intro w hSw; (try dsimp only at hSw); go_simp; first | done | with_reducible rfl); (try simp only [List.getElem_toArray, List.getElem_cons_zero, List.getElem_cons_succ, Act.put, List.setIfInBounds_toArray, List.set_cons_zero, List.set_cons_succ])))
        (refine wpAnyH_ready (rs := [3]) (by kernel_rfl) (by simp) ?_; refine AllReadyH.cons (i := 3) rfl (fun K hK => ?_) AllReadyH.nil)
        go_simp
        (refine hK.out _ _ (cs) (fun hHeld => ?_); clear hK K; (try simp only [List.getElem_toArray, List.getElem_cons_zero, List.getElem_cons_succ, Act.put, List.setIfInBounds_toArray, List.set_cons_zero, List.set_cons_succ]))
        (refine wpAnyH_ready (rs := [8]) (by kernel_rfl) (by simp) ?_; refine AllReadyH.cons (i := 8) rfl (fun K hK => ?_) AllReadyH.nil)
        refine hstep_fa rfl .add 46 46 _ _ rfl rfl .f32 z r3 rfl rfl ix iq ?_
        intro r2_ n2 hr2
        (refine hK.out _ _ (cs) (fun hHeld => ?_); clear hK K; (try simp only [List.getElem_toArray, List.getElem_cons_zero, List.getElem_cons_succ, Act.put, List.setIfInBounds_toArray, List.set_cons_zero, List.set_cons_succ]))
        have HA := Lib.hid (dyis (HK1.out.addv32 HP.out.1 (by decide) (by have := HP.out.2; have := HBD.out 3 i3; omega)) hr2)
        have PT := FR.put (show FR B (wr.drewN (1 + n2)) g N xs from HR.out) (j := i3) HI.out.2.2.2 r2_
        have HR5 := Lib.hid PT.1
        have HG5 := Lib.hid (grown_trans (grown_trans HG.out (grown_below (row := some g) (below_drewN (Below.refl wr.heap.size wr) (1 + n2)))) PT.2)
        have cs5 := (eight_cells (HBX.out _ HG5.out)).2.2.2.2
        clear PT
        ((refine wpAnyH_take (i := 9) (v := ?_) rfl (by kernel_rfl) (by kernel_rfl) (by kernel_rfl) (fun _ _ _ h => h) (Or.inl ⟨by rfl, ?_⟩) (by assumption) ?_; rotate_left; (· intro w hSw; (try dsimp only at hSw); go_simp; first | done | with_reducible rfl); (try simp only [List.getElem_toArray, List.getElem_cons_zero, List.getElem_cons_succ, Act.put, List.setIfInBounds_toArray, List.set_cons_zero, List.set_cons_succ])))
        (refine wpAnyH_ready (rs := [10]) (by kernel_rfl) (by simp) ?_; refine AllReadyH.cons (i := 10) rfl (fun K hK => ?_) AllReadyH.nil)
        go_simp
        (refine hK.out _ _ (cs5) (fun hHeld => ?_); clear hK K; (try simp only [List.getElem_toArray, List.getElem_cons_zero, List.getElem_cons_succ, Act.put, List.setIfInBounds_toArray, List.set_cons_zero, List.set_cons_succ]))
        (refine wpAnyH_done (by kernel_rfl) ?_ _; refine NoPanic.normal ?_)
        clear hHeld xk hf cs cs5 ix iq hr2
        go_wp2_with fail
        go_roundw
        case rel => exact ⟨3 + 1, by omega, rfl, HG5, _, HR5, Lib.hid (DyL.put (F := fun j => F j + cornTo i0 i1 i2 i3 v0 v1 v2 v3 3 j) (G := fun j => F j + cornTo i0 i1 i2 i3 v0 v1 v2 v3 (3 + 1) j) HDY.out (by rw [HR.out.1]; exact HI.out.2.2.2) HA.out (fun j => by show _ + cornTo _ _ _ _ _ _ _ _ (3 + 1) j = _ + cornTo _ _ _ _ _ _ _ _ 3 j + at1 _ _ j; rw [corn_s3]; omega))⟩
        case measure => simp [intOf]
    · obtain rfl : c = 4 := by omega
      clear hc hlt4
      go_wp2_with fail
      go_end0
      exact ⟨rfl, grown_trans HG0.out HG.out, xs, HR.out, HDY.out⟩


set_option maxHeartbeats 4000000 in
set_option maxRecDepth 100000 in
theorem iDeposit_pt (a b : Int) (ha : 4 ≤ a) (ha' : a ≤ 7) (hb : 4 ≤ b) (hb' : b ≤ 7) (B : Nat) (v : Value) (ts : List Pt) (w : World) (hv : POwn B w v ts) (h : oks ts) (hn : ts.length ≤ 64) :
    Calls Try.prog 55 #[GV a b, v] w fun e w' => (∃ r xs, e = .returned (.tuple #[r, .bool true]) ∧ FOwn w.heap.size w' r xs ∧ (xs.length : Int) = a * b ∧ DyL xs (fun j => sumI (depAt a b j) ts ts.length)) ∧ Below w.heap.size w w' := by
  obtain ⟨ti, hi, hz0, hz1, hz2⟩ := info_parts F32info
  obtain ⟨av, cap, rfl, hf⟩ := p_form hv
  have HV := Lib.hid hv; have HO := Lib.hid h
  have hm1 : a * b ≤ 7 * 7 := Int.mul_le_mul ha' hb' (by omega) (by omega)
  have hm0 : 4 * 4 ≤ a * b := Int.mul_le_mul ha hb (by omega) (by omega)
  obtain ⟨n, hnn⟩ := Int.eq_ofNat_of_zero_le (show 0 ≤ a * b by omega)
  have hw1 : IntKind.i64.wrap (a * b) = (n : Int) := by rw [wrap_i64, hnn]; exact wrap64_of (by omega) (by omega)
  have hN : 16 ≤ n ∧ n ≤ 49 := by omega
  have HW := Lib.hid hw1; have HNN := Lib.hid hnn
  have hb4 : ti.bytes * n ≤ 281474976710656 := by rw [hz2]; omega
  have hml : n ≤ maxLen := by unfold maxLen; omega
  have HI := Lib.hid hi; have HZ0 := Lib.hid hz0; have HZ1 := Lib.hid hz1
  have HP := Lib.hid (gp_new w a b 27)
  have HB0 := Lib.hid ((Below.refl w.heap.size w).alloc (Nat.le_refl _) (.cells #[.int .i64 a, .int .i64 b] 27))
  have HX0 := Lib.hid (heap_alloc_new w (.cells #[.int .i64 a, .int .i64 b] 27))
  have HZG := Lib.hid (show w.heap.size < (w.alloc (.cells #[.int .i64 a, .int .i64 b] 27)).heap.size by simp)
  clear hv h hi hz0 hz1 hz2 hm1 hm0 hw1 hnn
  go_enter Try.func55, Try.ntmps55
  go_wp2_with fail
  generalize w.alloc (.cells #[.int .i64 a, .int .i64 b] 27) = v1 at HP HB0 HZG ⊢
  refine (iValidGrid_any a b _).mono ?_
  rintro e v2 ⟨rfl, h2⟩
  rw [small_grid ha ha' hb hb']
  have HB2 := Lib.hid (HB0.out.trans (h2.mono HB0.out.size)); have HP2 := Lib.hid (HP.out.below h2); have HZG2 := Lib.hid (Nat.lt_of_lt_of_le HZG.out h2.size)
  clear h2 HP HB0 HZG
  go_wp2_with fail
  refine (iAre_pt B _ ts _ (r4_below HV.out HB2.out) HO.out hn).mono ?_
  rintro e v3 ⟨rfl, h3⟩
  have HB3 := Lib.hid (HB2.out.trans (h3.mono HB2.out.size)); have HP3 := Lib.hid (HP2.out.below h3); have HZG3 := Lib.hid (Nat.lt_of_lt_of_le HZG2.out h3.size)
  clear h3 HP2 HB2 HZG2
  obtain ⟨g0, g1⟩ := HP3.out.cells
  go_wp2_with fail
  refine (pointsOf_any a b _).mono ?_
  rintro e v4 ⟨rfl, h4⟩
  rw [HW.out]
  have HB4 := Lib.hid (HB3.out.trans (h4.mono HB3.out.size)); have HP4 := Lib.hid (HP3.out.below h4); have HZG4 := Lib.hid (Nat.lt_of_lt_of_le HZG3.out h4.size)
  clear h4 HP3 HB3 g0 g1 HZG3
  go_wp2_with (at_make; refine wpList_make_full _ rfl _ _ 24 rfl w.heap.size 46 ti (.float .f32 0) 1 Try.underlying24 HI.out HZ0.out HZ1.out _ _ _ _ n rfl rfl rfl rfl hb4 hml HB4.out.size ?_; intro v5 hown hgrow)
  rw [Nat.mul_one, show (madeCells (Value.float .f32 0).cells n).toList = (List.replicate n 0).map (Value.float .f32) by rw [List.map_replicate]; exact toList_madeCells_one _ _] at hown
  have HR0 := Lib.hid (show FR w.heap.size v5 v4.heap.size n (List.replicate n 0) from ⟨by simp, hown⟩)
  have HB5 := Lib.hid (HB4.out.grown hgrow HB4.out.size (fun k h => by cases h))
  have HP5 := Lib.hid (HP4.out.below (Below.grown (Below.refl v4.heap.size v4) hgrow (Nat.le_refl _) (fun k h => by cases h)))
  have HGF := Lib.hid (show w.heap.size < v4.heap.size from HZG4.out)
  have HDY0 := Lib.hid (show DyL (List.replicate n 0) (fun j => sumI (depAt a b j) ts 0) from fun j hj => by
    rw [List.length_replicate] at hj
    show Dy .f32 140 _ (sumI (depAt a b j) ts 0)
    rw [show sumI (depAt a b j) ts 0 = 0 by simp [sumI], List.getD_eq_getElem?_getD, List.getElem?_replicate, if_pos hj]
    exact dy_zero32 _)
  clear hown hgrow hb4 hml HI HZ0 HZ1 HB4 HP4 HZG4
  generalize v4.heap.size = gf at HR0 HGF ⊢
  have HVF := Lib.hid (fun w' (G : v5.grownBy w' (some gf)) => (show POwn B w' (.slice av ts.length cap) ts from by
    have h5 := r4_below HV.out HB5.out
    refine World.ownsRow.kept h5 G ?_
    rcases hf with rfl | ⟨g, rfl, _, hg⟩
    · rcases h5.2 with ⟨h6, _⟩ | ⟨g, _, _, h6, h7, _⟩
      · exact .inl (by rw [h6]; rfl)
      · have hl := HV.out.lt
        rw [h6] at hl ⊢
        exact .inr (fun e => by have := (hl g rfl).2; have h8 : g = gf := Option.some.inj e; have := HGF.out; omega)
    · exact .inr (fun e => by have h8 : g = gf := Option.some.inj e; have := HGF.out; omega)))
  have HPF := Lib.hid (fun w' (G : v5.grownBy w' (some gf)) => (show w'.cell? ⟨w.heap.size, 0, none⟩ = some (.int .i64 a) ∧ w'.cell? ⟨w.heap.size, 1, none⟩ = some (.int .i64 b) from by
    have hx := HGF.out
    obtain ⟨e0, e1⟩ := HP5.out.cells
    exact ⟨by rw [cell_grown G (block_lt_of_cell e0) (by show w.heap.size ≠ gf; omega)]; exact e0, by rw [cell_grown G (block_lt_of_cell e1) (by show w.heap.size ≠ gf; omega)]; exact e1⟩))
  have HSL := Lib.hid (fun j k (hk : k ≤ ts.length) => sumI_le (depAt a b j) ts 4096 (fun t ht => dep_in (HO.out t ht) j) k hk)
  go_wp2_with fail
  go_loopw [22] (fun i wr => ∃ k : Nat, k ≤ ts.length ∧ i = .int .i64 k ∧ Hid (v5.grownBy wr (some gf)) ∧ ∃ xs, Hid (FR w.heap.size wr gf n xs) ∧ Hid (DyL xs (fun j => sumI (depAt a b j) ts k))) (fun i _ => ts.length - (intOf i).toNat)
  case atStart => exact ⟨0, Nat.zero_le _, rfl, Lib.hid (grown_refl _ _), _, HR0, HDY0⟩
  case round =>
    clear HR0 HDY0
    obtain ⟨k, hk, rfl, HG, xs, HR, HDY⟩ := hrel
    by_cases hlt : k < ts.length
    · rcases hf with hf | ⟨g, rfl, _, _⟩
      · subst hf; simp at hlt
      obtain ⟨c0, c1, c2, c3⟩ := p_cells (HVF.out _ HG.out) hlt
      have HT := Lib.hid (oks_at HO.out hlt)
      have HSX := Lib.hid (fun j => sumI_succ (depAt a b j) ts hlt)
      have HSK := Lib.hid (fun j => HSL.out j k hk)
      have hk64 : k ≤ 64 := by omega
      generalize ts[k] = t at c0 c1 c2 c3 HT HSX
      have HR1 := Lib.hid (HR.out.kept ((Below.refl wr.heap.size wr).alloc (Nat.le_refl _) (.cells #[.complex .f32 (E8 t.n) (E8 t.m), .complex .f32 t.x t.y, .float .f32 (E8 t.c), .float .f32 (E8 t.s)] 72)))
      have HG1 := Lib.hid (grown_trans HG.out (grown_below (row := some gf) ((Below.refl wr.heap.size wr).alloc (Nat.le_refl _) (.cells #[.complex .f32 (E8 t.n) (E8 t.m), .complex .f32 t.x t.y, .float .f32 (E8 t.c), .float .f32 (E8 t.s)] 72))))
      obtain ⟨g0, g1⟩ := HPF.out _ HG1.out
      go_wp2_with fail
      generalize wr.alloc (.cells #[.complex .f32 (E8 t.n) (E8 t.m), .complex .f32 t.x t.y, .float .f32 (E8 t.c), .float .f32 (E8 t.s)] 72) = w1 at HR1 HG1 g0 g1 ⊢
      clear c0 c1 c2 c3 g0 g1 HR HG
      refine (iLoad_e8 a b ha ha' hb hb' n HNN.out t HT.out _).mono ?_
      rintro e w2 ⟨⟨i0, i1, i2, i3, r0, r1, r2, r3, rfl, v0, v1, v2, v3, hld⟩, h2⟩
      have HR2 := Lib.hid (HR1.out.kept h2); have HG2 := Lib.hid (grown_trans HG1.out (grown_below (row := some gf) h2))
      have HLD := Lib.hid hld
      have HSF := Lib.hid (show ∀ j, -262144 ≤ (fun j => sumI (depAt a b j) ts k) j ∧ (fun j => sumI (depAt a b j) ts k) j ≤ 262144 from fun j => by
        have h1 := HSK.out j
        have h3 : (4096 : Int) * (k : Int) ≤ 4096 * 64 := by omega
        show -262144 ≤ sumI (depAt a b j) ts k ∧ sumI (depAt a b j) ts k ≤ 262144
        omega)
      clear h2 hld HR1 HG1
      go_wp2_with fail
      refine (iAddTo_any w.heap.size gf n xs (fun j => sumI (depAt a b j) ts k) i0 i1 i2 i3 r0 r1 r2 r3 v0 v1 v2 v3 _ HR2.out HDY.out HLD.out.lt HLD.out.d0 HLD.out.d1 HLD.out.d2 HLD.out.d3 HSF.out (by omega)).mono ?_
      rintro e w3 ⟨rfl, hg3, ys, hr3, hd3⟩
      have HR3 := Lib.hid hr3; have HG3 := Lib.hid (grown_trans HG2.out hg3)
      have HD3 := Lib.hid (show DyL ys (fun j => sumI (depAt a b j) ts (k + 1)) from fun j hj => by
        have h5 := hd3 j hj
        show Dy .f32 140 _ (sumI (depAt a b j) ts (k + 1))
        rw [HSX.out j, HLD.out.sum j]
        exact h5)
      clear hr3 hg3 hd3
      go_wp2_with fail
      go_roundw
      case rel => exact ⟨k + 1, by omega, by go_num, HG3, ys, HR3, HD3⟩
      case measure => simp [intOf]; omega
    · obtain rfl : k = ts.length := by omega
      clear hlt
      go_wp2
      go_ret2
      exact ⟨⟨_, xs, rfl, by unfold FOwn; rw [HR.out.1]; exact HR.out.2, by rw [HR.out.1]; exact HNN.out.symm, HDY.out⟩, below_row HB5.out HB5.out.size (Nat.le_of_lt HGF.out) HG.out⟩
end Go.Proofs.Ytlfnbnhbobohlaa
