/-
  What the laws of the second part draw: lists of particles.
-/
import Derived.Test.YtnknhfhllifnhaaPtM
namespace Go.Proofs.Ytnknhfhllifnhaa
open Go.Fl Go.RowKit Go.Nl
set_option linter.unusedSimpArgs false
set_option linter.unusedVariables false

theorem PTinfo' : (Try.prog.info? 57).map (fun i => (i.zero, i.size, i.bytes)) = some (some (.agg ZC), 4, 24) := by kernel_rfl
/-- What is drawn: as many eighths, without signs of zeros. -/
def Pt.of (n m p q c s : Int) : Pt := ⟨n, m, E8 p, E8 q, p, q, c, s⟩
theorem of_ok {n m p q c s : Int} (hn : 0 ≤ n ∧ n < 64) (hm : 0 ≤ m ∧ m < 64) (hp : -8 ≤ p ∧ p ≤ 8) (hq : -8 ≤ q ∧ q ≤ 8) (hc : -4 ≤ c ∧ c ≤ 4) (hs : 1 ≤ s ∧ s ≤ 8) : (Pt.of n m p q (4 * c) (2 * s)).ok :=
  ⟨by show -112 ≤ n; omega, by show n < 248; omega, by show -112 ≤ m; omega, by show m < 248; omega, hp.1, hp.2, hq.1, hq.2, by show -16 ≤ 4 * c; omega, by show 4 * c ≤ 16; omega, by show 2 ≤ 2 * s; omega, by show 2 * s ≤ 16; omega, dy_e8' (by omega) (by omega), dy_e8' (by omega) (by omega)⟩
theorem p_own_lt {B : Nat} {w : World} {v : Value} {ts : List Pt} (h : POwn B w v ts) {g : Nat} (hg : g < B) : v.ownBlock = none ∨ v.ownBlock ≠ some g := by
  have hl := h.lt
  cases hb : v.ownBlock with
  | none => exact .inl rfl
  | some k => exact .inr (fun e => by have := hl k hb; have := Option.some.inj e; omega)
/-- Particles of small numbers, of those that R8List draws. -/
structure drawn (ts : List Pt) : Prop where
  oks : oks ts
  at0 : ∀ t ∈ ts, 0 ≤ t.n ∧ t.n < 64 ∧ 0 ≤ t.m ∧ t.m < 64

theorem p_app {B : Nat} {w : World} {v : Value} {ts : List Pt} {t : Pt} (h : w.ownsRow B 57 4 v (ts.length + 1) (cells4 (ts.map Pt.r4) ++ [.complex .f32 (E8 t.n) (E8 t.m), .complex .f32 t.x t.y, .float .f32 (E8 t.c), .float .f32 (E8 t.s)])) : POwn B w v (ts ++ [t]) := by
  unfold POwn R4Own
  rw [List.map_append, cells4_app, List.length_append, List.length_map]
  exact h
theorem drawn_app {ts : List Pt} {t : Pt} (h : drawn ts) (ht : t.ok) (h0 : 0 ≤ t.n ∧ t.n < 64 ∧ 0 ≤ t.m ∧ t.m < 64) : drawn (ts ++ [t]) := by
  refine ⟨fun u hu => ?_, fun u hu => ?_⟩
  · rcases List.mem_append.1 hu with hu | hu
    · exact h.oks u hu
    · rw [List.mem_singleton.1 hu]; exact ht
  · rcases List.mem_append.1 hu with hu | hu
    · exact h.at0 u hu
    · rw [List.mem_singleton.1 hu]; exact h0
theorem grown_cell (w : World) (b i : Nat) (v : Value) : w.grownBy (w.setCell ⟨b, i, none⟩ v) (some b) :=
  ⟨rfl, rfl, rfl, by simp, fun k hk hr => heap_setCell_other w ⟨b, i, none⟩ k v (fun e => hr (by rw [e]))⟩
theorem box_cells {W : World} {b : Nat} {v0 v1 v2 v3 : Value} {t : TypeId} (h : W.heap[b]? = some (.cells #[v0, v1, v2, v3] t)) : W.cell? ⟨b, 0, none⟩ = some v0 ∧ W.cell? ⟨b, 1, none⟩ = some v1 ∧ W.cell? ⟨b, 2, none⟩ = some v2 ∧ W.cell? ⟨b, 3, none⟩ = some v3 := by
  refine ⟨?_, ?_, ?_, ?_⟩ <;> (rw [Joins.cell_of_block h]; rfl)

set_option maxHeartbeats 2000000 in
set_option maxRecDepth 100000 in
theorem sList_any (c : Value) (bs : List Int) (w : World) (hc : NS .u8 w c bs) :
    Calls Try.prog 12 #[c] w fun e w' => ∃ v ts, e = .returned v ∧ ts.length ≤ 6 ∧ drawn ts ∧ POwn w.heap.size w' v ts ∧ Below w.heap.size w w' := by
  obtain ⟨i0, hi, hz0, hz1, hz2⟩ := info_parts PTinfo'
  have HI := Lib.hid hi; have HZ0 := Lib.hid hz0; have HZ1 := Lib.hid hz1; have HZ2 := Lib.hid hz2
  have HC := Lib.hid hc
  clear hc hi hz0 hz1 hz2
  go_enter Try.func12, Try.ntmps12
  go_wp2_with fail
  refine (sFrom_src c bs _ HC.out).mono ?_
  rintro e w1 ⟨g, rfl, S1⟩
  have HS1 := Lib.hid S1
  have HG := Lib.hid S1.lt
  have HG0 := Lib.hid S1.2.1
  clear S1
  go_wp2_with fail
  have HO1 := Lib.hid (show POwn w1.heap.size (w1.alloc (.cells #[] 57)) (.slice (some ⟨w1.heap.size, 0, none⟩) 0 0) [] from World.ownsRow_made w1 #[] 0 (Nat.le_refl _) (Nat.zero_le _) rfl)
  have HS2 := Lib.hid (HS1.out.below ((Below.refl w1.heap.size w1).alloc (Nat.le_refl _) (.cells #[] 57)))
  have HZ := Lib.hid (show w1.heap.size ≤ (w1.alloc (.cells #[] 57)).heap.size by simp)
  generalize w1.alloc (.cells #[] 57) = w2 at HO1 HS2 HZ ⊢
  generalize w1.heap.size = B at HO1 HG HZ ⊢
  clear HS1
  refine (sPick_any w g 0 c bs 7 _ HC.out (by omega) (by omega) (by omega) HS2.out).mono ?_
  rintro e w3 ⟨N, k, hn0, hn1, hk, rfl, S3, G3⟩
  have HS3 := Lib.hid S3
  have HO3 := Lib.hid (r4_grown (u := .slice (some ⟨g, 0, none⟩) 0 0) HO1.out G3 (p_own_lt HO1.out HG.out))
  have HZ3 := Lib.hid (Nat.le_trans HZ.out G3.size)
  clear S3 G3 HO1 HS2 HZ
  go_wp2_with fail
  go_loopw [4, 5] (fun v n wr => ∃ (ts : List Pt) (M k : Nat), n = .int .i64 (M : Int) ∧ ts.length + M ≤ 6 ∧ k + 14 * M ≤ 100 ∧ Hid (Src w g wr c k) ∧ Hid (drawn ts) ∧ (∃ gv cap, v = .slice (some ⟨gv, 0, none⟩) ts.length cap ∧ Hid (POwn B wr (.slice (some ⟨gv, 0, none⟩) ts.length cap) ts)) ∧ B ≤ wr.heap.size) (fun _ n _ => (intOf n).toNat)
  case atStart => exact ⟨[], N.toNat, k, by rw [show ((N.toNat : Nat) : Int) = N by omega], by simp; omega, by omega, HS3, Lib.hid ⟨fun t ht => (by cases ht), fun t ht => (by cases ht)⟩, ⟨_, _, rfl, HO3⟩, HZ3.out⟩
  case round =>
    clear HS3 HO3 HZ3
    obtain ⟨ts, M, k, rfl, hl, hk, HS, HD, ⟨gv, cap, rfl, HO⟩, hz⟩ := hrel
    by_cases hM : 0 < M
    · have HM := Lib.hid hM
      go_wp2_with fail
      refine (sDrawOne_any w g k c bs _ HC.out (by omega) HS.out).mono ?_
      rintro e w4 ⟨n, m, p, q, ch, ms, k4, hbd, hk4, rfl, S4, G4⟩
      have HT := Lib.hid (of_ok (n := n) (m := m) (p := p) (q := q) (c := ch) (s := ms) ⟨by omega, by omega⟩ ⟨by omega, by omega⟩ ⟨by omega, by omega⟩ ⟨by omega, by omega⟩ ⟨by omega, by omega⟩ ⟨by omega, by omega⟩)
      have HT0 := Lib.hid (show 0 ≤ (Pt.of n m p q (4 * ch) (2 * ms)).n ∧ (Pt.of n m p q (4 * ch) (2 * ms)).n < 64 ∧ 0 ≤ (Pt.of n m p q (4 * ch) (2 * ms)).m ∧ (Pt.of n m p q (4 * ch) (2 * ms)).m < 64 from ⟨by show 0 ≤ n; omega, by show n < 64; omega, by show 0 ≤ m; omega, by show m < 64; omega⟩)
      have HO4 := Lib.hid (r4_grown (u := .slice (some ⟨g, 0, none⟩) 0 0) HO.out G4 (p_own_lt HO.out HG.out))
      have HS4 := Lib.hid S4
      have hz4 := Nat.le_trans hz G4.size
      have e1 : (PV n m p q (4 * ch) (2 * ms)) = .agg #[.complex .f32 (E8 (Pt.of n m p q (4 * ch) (2 * ms)).n) (E8 (Pt.of n m p q (4 * ch) (2 * ms)).m), .complex .f32 (Pt.of n m p q (4 * ch) (2 * ms)).x (Pt.of n m p q (4 * ch) (2 * ms)).y, .float .f32 (E8 (Pt.of n m p q (4 * ch) (2 * ms)).c), .float .f32 (E8 (Pt.of n m p q (4 * ch) (2 * ms)).s)] := rfl
      rw [e1]
      clear S4 G4 HS HO hbd e1 hz
      generalize Pt.of n m p q (4 * ch) (2 * ms) = t at HT HT0 ⊢
      by_cases hpos : 0 < ts.length
      · have HP := Lib.hid hpos
        have HGB := Lib.hid (HO4.out.lt gv rfl).2
        have hgt : decide ((ts.length : Int) > 0) = true := decide_eq_true (by omega)
        have HO4 := Lib.hid (r4_below HO4.out ((Below.refl w4.heap.size w4).alloc (Nat.le_refl _) (.cells #[.complex .f32 (E8 t.n) (E8 t.m), .complex .f32 t.x t.y, .float .f32 (E8 t.c), .float .f32 (E8 t.s)] 57)))
        have HS4 := Lib.hid (HS4.out.below ((Below.refl w4.heap.size w4).alloc (Nat.le_refl _) (.cells #[.complex .f32 (E8 t.n) (E8 t.m), .complex .f32 t.x t.y, .float .f32 (E8 t.c), .float .f32 (E8 t.s)] 57)))
        have HX4 := Lib.hid (heap_alloc_new w4 (.cells #[.complex .f32 (E8 t.n) (E8 t.m), .complex .f32 t.x t.y, .float .f32 (E8 t.c), .float .f32 (E8 t.s)] 57))
        have HZ4 := Lib.hid (show w4.heap.size < (w4.alloc (.cells #[.complex .f32 (E8 t.n) (E8 t.m), .complex .f32 t.x t.y, .float .f32 (E8 t.c), .float .f32 (E8 t.s)] 57)).heap.size by simp)
        go_wp2_with fail
        generalize w4.alloc (.cells #[.complex .f32 (E8 t.n) (E8 t.m), .complex .f32 t.x t.y, .float .f32 (E8 t.c), .float .f32 (E8 t.s)] 57) = w5 at HO4 HS4 HX4 HZ4 ⊢
        generalize w4.heap.size = b at HX4 HZ4 hz4 HGB ⊢
        refine (sOne_any w g k4 c bs 2 _ HC.out (by omega) (by omega) (by omega) HS4.out).mono ?_
        rintro e w6 ⟨o, k6, hk6, rfl, S6, G6⟩
        have HSW := Lib.hid S6
        have HOW := Lib.hid (r4_grown (u := .slice (some ⟨g, 0, none⟩) 0 0) HO4.out G6 (p_own_lt HO4.out HG.out))
        have HX6 := Lib.hid ((G6.block b HZ4.out (fun e => by have h1 : g < B := HG.out; have h2 : b = g := Option.some.inj e; omega)).trans HX4.out)
        have hz6 : b < w6.heap.size := Nat.lt_of_lt_of_le HZ4.out G6.size
        obtain ⟨d0, d1, d2, d3⟩ := box_cells HX6.out
        have f0 : w6.frozen? ⟨b, 0, none⟩ = false := by simp [World.frozen?, HX6.out]
        clear S6 G6 HO4 HS4 HX4 HZ4
        cases o with
        | false =>
          have HTW := HT; have HTW0 := HT0
          have HA := Lib.hid (r4_below HOW.out ((Below.refl (w6).heap.size (w6)).alloc (Nat.le_refl _) (.cells #[.complex .f32 (E8 t.n) (E8 t.m), .complex .f32 t.x t.y, .float .f32 (E8 t.c), .float .f32 (E8 t.s)] 57)))
          have HSA := Lib.hid (HSW.out.below ((Below.refl (w6).heap.size (w6)).alloc (Nat.le_refl _) (.cells #[.complex .f32 (E8 t.n) (E8 t.m), .complex .f32 t.x t.y, .float .f32 (E8 t.c), .float .f32 (E8 t.s)] 57)))
          have hzA : B ≤ ((w6).alloc (.cells #[.complex .f32 (E8 t.n) (E8 t.m), .complex .f32 t.x t.y, .float .f32 (E8 t.c), .float .f32 (E8 t.s)] 57)).heap.size := by simp; omega
          have hnew := World.news_of_block (cs := #[.complex .f32 (E8 t.n) (E8 t.m), .complex .f32 t.x t.y, .float .f32 (E8 t.c), .float .f32 (E8 t.s)]) (t := 57) (fr := (0, 0)) (heap_alloc_new (w6) (.cells #[.complex .f32 (E8 t.n) (E8 t.m), .complex .f32 t.x t.y, .float .f32 (E8 t.c), .float .f32 (E8 t.s)] 57))
          rw [show (w6).heap.size = w6.heap.size by simp] at hnew
          go_wp2_with (at_builtin; refine wpList_append_own _ rfl _ _ 27 rfl B 57 i0 (.agg ZC) 4 24 Try.underlying27 HI.out HZ0.out HZ1.out HZ2.out rfl (by decide) _ _ _ rfl (by have h := HA.out; unfold POwn R4Own at h; rw [List.length_map] at h; exact h) ⟨w6.heap.size, 0, none⟩ 1 1 [.complex .f32 (E8 t.n) (E8 t.m), .complex .f32 t.x t.y, .float .f32 (E8 t.c), .float .f32 (E8 t.s)] rfl rfl hnew (by intro u hu; simp at hu; rcases hu with rfl | rfl | rfl | rfl <;> rfl) (by unfold maxLen; omega) (by omega) hzA ?_; intro v' w' hown hgrow _)
          obtain ⟨g2, cap2, rfl⟩ := Joins.ownsRow_form hown (by omega)
          have HON := Lib.hid (p_app (t := t) hown)
          have hgB : B ≤ gv := (HOW.out.lt gv rfl).1
          have hgne : gv ≠ g := by have h2 : g < B := HG.out; omega
          have hgw : w.heap.size ≤ gv := by have h2 : g < B := HG.out; have h3 : w.heap.size ≤ g := HG0.out; omega
          have HSN := Lib.hid (HSA.out.kept hgrow (fun e => hgne (Option.some.inj e)) (HSA.out.1.trans ⟨hgrow.os, hgrow.tape, hgrow.output, hgrow.size, fun i hi => hgrow.block i (Nat.lt_of_lt_of_le hi HSA.out.1.size) (fun e => by have h4 : gv = i := Option.some.inj e.symm; omega)⟩))
          have hzN : B ≤ w'.heap.size := Nat.le_trans hzA hgrow.size
          clear hown hgrow HA HSA hzA hnew hgB hgne hgw
          go_wp2_with fail
          go_roundw
          case rel => exact ⟨ts ++ [t], M - 1, k6, by have := HM.out; rw [Int.natCast_sub (by omega)]; go_num, by rw [List.length_append, List.length_singleton]; have := HM.out; omega, by have := HM.out; omega, HSN, Lib.hid (drawn_app HD.out HTW.out HTW0.out), ⟨_, _, by rw [List.length_append, List.length_singleton], by rw [List.length_append, List.length_singleton]; exact HON⟩, hzN⟩
          case measure => simp [intOf]; have := HM.out; omega
        | true =>
          have hk1 : ts.length - 1 < ts.length := by omega
          obtain ⟨a0, _, _, _⟩ := p_cells HOW.out hk1
          have HTU := Lib.hid (oks_at HD.out.oks hk1)
          have HTU0 := Lib.hid (HD.out.at0 _ (List.getElem_mem hk1))
          generalize ts[ts.length - 1] = u at a0 HTU HTU0
          have hgb0 : gv < b := HGB.out
          have HOW := Lib.hid (show POwn B (w6.setCell ⟨b, 0, none⟩ (.complex .f32 (E8 u.n) (E8 u.m))) (.slice (some ⟨gv, 0, none⟩) ts.length cap) ts from World.ownsRow.kept HOW.out (grown_cell w6 b 0 _) (.inr (fun e => by have h2 : gv = b := Option.some.inj e; omega)))
          have HSW := Lib.hid (HSW.out.set (p := ⟨b, 0, none⟩) (by have h1 : g < B := HG.out; show g < b; omega) (.complex .f32 (E8 u.n) (E8 u.m)))
          have HTW := Lib.hid (show ({ t with n := u.n, m := u.m } : Pt).ok from ⟨HTU.out.n0, HTU.out.n1, HTU.out.m0, HTU.out.m1, HT.out.p0, HT.out.p1, HT.out.q0, HT.out.q1, HT.out.c0, HT.out.c1, HT.out.s0, HT.out.s1, HT.out.dx, HT.out.dy⟩)
          have HTW0 := HTU0
          have HA := Lib.hid (r4_below HOW.out ((Below.refl (w6.setCell ⟨b, 0, none⟩ (.complex .f32 (E8 u.n) (E8 u.m))).heap.size (w6.setCell ⟨b, 0, none⟩ (.complex .f32 (E8 u.n) (E8 u.m)))).alloc (Nat.le_refl _) (.cells #[.complex .f32 (E8 u.n) (E8 u.m), .complex .f32 t.x t.y, .float .f32 (E8 t.c), .float .f32 (E8 t.s)] 57)))
          have HSA := Lib.hid (HSW.out.below ((Below.refl (w6.setCell ⟨b, 0, none⟩ (.complex .f32 (E8 u.n) (E8 u.m))).heap.size (w6.setCell ⟨b, 0, none⟩ (.complex .f32 (E8 u.n) (E8 u.m)))).alloc (Nat.le_refl _) (.cells #[.complex .f32 (E8 u.n) (E8 u.m), .complex .f32 t.x t.y, .float .f32 (E8 t.c), .float .f32 (E8 t.s)] 57)))
          have hzA : B ≤ ((w6.setCell ⟨b, 0, none⟩ (.complex .f32 (E8 u.n) (E8 u.m))).alloc (.cells #[.complex .f32 (E8 u.n) (E8 u.m), .complex .f32 t.x t.y, .float .f32 (E8 t.c), .float .f32 (E8 t.s)] 57)).heap.size := by simp; omega
          have hnew := World.news_of_block (cs := #[.complex .f32 (E8 u.n) (E8 u.m), .complex .f32 t.x t.y, .float .f32 (E8 t.c), .float .f32 (E8 t.s)]) (t := 57) (fr := (0, 0)) (heap_alloc_new (w6.setCell ⟨b, 0, none⟩ (.complex .f32 (E8 u.n) (E8 u.m))) (.cells #[.complex .f32 (E8 u.n) (E8 u.m), .complex .f32 t.x t.y, .float .f32 (E8 t.c), .float .f32 (E8 t.s)] 57))
          rw [show (w6.setCell ⟨b, 0, none⟩ (.complex .f32 (E8 u.n) (E8 u.m))).heap.size = w6.heap.size by simp] at hnew
          go_wp2_with (at_builtin; refine wpList_append_own _ rfl _ _ 27 rfl B 57 i0 (.agg ZC) 4 24 Try.underlying27 HI.out HZ0.out HZ1.out HZ2.out rfl (by decide) _ _ _ rfl (by have h := HA.out; unfold POwn R4Own at h; rw [List.length_map] at h; exact h) ⟨w6.heap.size, 0, none⟩ 1 1 [.complex .f32 (E8 u.n) (E8 u.m), .complex .f32 t.x t.y, .float .f32 (E8 t.c), .float .f32 (E8 t.s)] rfl rfl hnew (by intro u hu; simp at hu; rcases hu with rfl | rfl | rfl | rfl <;> rfl) (by unfold maxLen; omega) (by omega) hzA ?_; intro v' w' hown hgrow _)
          obtain ⟨g2, cap2, rfl⟩ := Joins.ownsRow_form hown (by omega)
          have HON := Lib.hid (p_app (t := ({ t with n := u.n, m := u.m } : Pt)) hown)
          have hgB : B ≤ gv := (HOW.out.lt gv rfl).1
          have hgne : gv ≠ g := by have h2 : g < B := HG.out; omega
          have hgw : w.heap.size ≤ gv := by have h2 : g < B := HG.out; have h3 : w.heap.size ≤ g := HG0.out; omega
          have HSN := Lib.hid (HSA.out.kept hgrow (fun e => hgne (Option.some.inj e)) (HSA.out.1.trans ⟨hgrow.os, hgrow.tape, hgrow.output, hgrow.size, fun i hi => hgrow.block i (Nat.lt_of_lt_of_le hi HSA.out.1.size) (fun e => by have h4 : gv = i := Option.some.inj e.symm; omega)⟩))
          have hzN : B ≤ w'.heap.size := Nat.le_trans hzA hgrow.size
          clear hown hgrow HA HSA hzA hnew hgB hgne hgw
          go_wp2_with fail
          go_roundw
          case rel => exact ⟨ts ++ [({ t with n := u.n, m := u.m } : Pt)], M - 1, k6, by have := HM.out; rw [Int.natCast_sub (by omega)]; go_num, by rw [List.length_append, List.length_singleton]; have := HM.out; omega, by have := HM.out; omega, HSN, Lib.hid (drawn_app HD.out HTW.out HTW0.out), ⟨_, _, by rw [List.length_append, List.length_singleton], by rw [List.length_append, List.length_singleton]; exact HON⟩, hzN⟩
          case measure => simp [intOf]; have := HM.out; omega
      · have HOW := Lib.hid (r4_below HO4.out ((Below.refl w4.heap.size w4).alloc (Nat.le_refl _) (.cells #[.complex .f32 (E8 t.n) (E8 t.m), .complex .f32 t.x t.y, .float .f32 (E8 t.c), .float .f32 (E8 t.s)] 57)))
        have HSW := Lib.hid (HS4.out.below ((Below.refl w4.heap.size w4).alloc (Nat.le_refl _) (.cells #[.complex .f32 (E8 t.n) (E8 t.m), .complex .f32 t.x t.y, .float .f32 (E8 t.c), .float .f32 (E8 t.s)] 57)))
        have HTW := HT; have HTW0 := HT0
        have hgt : decide ((ts.length : Int) > 0) = false := decide_eq_false (by omega)
        have HA := Lib.hid (r4_below HOW.out ((Below.refl (w4.alloc (.cells #[.complex .f32 (E8 t.n) (E8 t.m), .complex .f32 t.x t.y, .float .f32 (E8 t.c), .float .f32 (E8 t.s)] 57)).heap.size (w4.alloc (.cells #[.complex .f32 (E8 t.n) (E8 t.m), .complex .f32 t.x t.y, .float .f32 (E8 t.c), .float .f32 (E8 t.s)] 57))).alloc (Nat.le_refl _) (.cells #[.complex .f32 (E8 t.n) (E8 t.m), .complex .f32 t.x t.y, .float .f32 (E8 t.c), .float .f32 (E8 t.s)] 57)))
        have HSA := Lib.hid (HSW.out.below ((Below.refl (w4.alloc (.cells #[.complex .f32 (E8 t.n) (E8 t.m), .complex .f32 t.x t.y, .float .f32 (E8 t.c), .float .f32 (E8 t.s)] 57)).heap.size (w4.alloc (.cells #[.complex .f32 (E8 t.n) (E8 t.m), .complex .f32 t.x t.y, .float .f32 (E8 t.c), .float .f32 (E8 t.s)] 57))).alloc (Nat.le_refl _) (.cells #[.complex .f32 (E8 t.n) (E8 t.m), .complex .f32 t.x t.y, .float .f32 (E8 t.c), .float .f32 (E8 t.s)] 57)))
        have hzA : B ≤ ((w4.alloc (.cells #[.complex .f32 (E8 t.n) (E8 t.m), .complex .f32 t.x t.y, .float .f32 (E8 t.c), .float .f32 (E8 t.s)] 57)).alloc (.cells #[.complex .f32 (E8 t.n) (E8 t.m), .complex .f32 t.x t.y, .float .f32 (E8 t.c), .float .f32 (E8 t.s)] 57)).heap.size := by simp; omega
        have hnew := World.news_of_block (cs := #[.complex .f32 (E8 t.n) (E8 t.m), .complex .f32 t.x t.y, .float .f32 (E8 t.c), .float .f32 (E8 t.s)]) (t := 57) (fr := (0, 0)) (heap_alloc_new (w4.alloc (.cells #[.complex .f32 (E8 t.n) (E8 t.m), .complex .f32 t.x t.y, .float .f32 (E8 t.c), .float .f32 (E8 t.s)] 57)) (.cells #[.complex .f32 (E8 t.n) (E8 t.m), .complex .f32 t.x t.y, .float .f32 (E8 t.c), .float .f32 (E8 t.s)] 57))
        rw [show (w4.alloc (.cells #[.complex .f32 (E8 t.n) (E8 t.m), .complex .f32 t.x t.y, .float .f32 (E8 t.c), .float .f32 (E8 t.s)] 57)).heap.size = w4.heap.size + 1 by simp] at hnew
        go_wp2_with (at_builtin; refine wpList_append_own _ rfl _ _ 27 rfl B 57 i0 (.agg ZC) 4 24 Try.underlying27 HI.out HZ0.out HZ1.out HZ2.out rfl (by decide) _ _ _ rfl (by have h := HA.out; unfold POwn R4Own at h; rw [List.length_map] at h; exact h) ⟨w4.heap.size + 1, 0, none⟩ 1 1 [.complex .f32 (E8 t.n) (E8 t.m), .complex .f32 t.x t.y, .float .f32 (E8 t.c), .float .f32 (E8 t.s)] rfl rfl hnew (by intro u hu; simp at hu; rcases hu with rfl | rfl | rfl | rfl <;> rfl) (by unfold maxLen; omega) (by omega) hzA ?_; intro v' w' hown hgrow _)
        obtain ⟨g2, cap2, rfl⟩ := Joins.ownsRow_form hown (by omega)
        have HON := Lib.hid (p_app (t := t) hown)
        have hgB : B ≤ gv := (HOW.out.lt gv rfl).1
        have hgne : gv ≠ g := by have h2 : g < B := HG.out; omega
        have hgw : w.heap.size ≤ gv := by have h2 : g < B := HG.out; have h3 : w.heap.size ≤ g := HG0.out; omega
        have HSN := Lib.hid (HSA.out.kept hgrow (fun e => hgne (Option.some.inj e)) (HSA.out.1.trans ⟨hgrow.os, hgrow.tape, hgrow.output, hgrow.size, fun i hi => hgrow.block i (Nat.lt_of_lt_of_le hi HSA.out.1.size) (fun e => by have h4 : gv = i := Option.some.inj e.symm; omega)⟩))
        have hzN : B ≤ w'.heap.size := Nat.le_trans hzA hgrow.size
        clear hown hgrow HA HSA hzA hnew hgB hgne hgw
        go_wp2_with fail
        go_roundw
        case rel => exact ⟨ts ++ [t], M - 1, k4, by have := HM.out; rw [Int.natCast_sub (by omega)]; go_num, by rw [List.length_append, List.length_singleton]; have := HM.out; omega, by have := HM.out; omega, HSN, Lib.hid (drawn_app HD.out HTW.out HTW0.out), ⟨_, _, by rw [List.length_append, List.length_singleton], by rw [List.length_append, List.length_singleton]; exact HON⟩, hzN⟩
        case measure => simp [intOf]; have := HM.out; omega
    · obtain rfl : M = 0 := by omega
      clear hM
      go_wp2
      go_ret
      exact ⟨_, ts, rfl, by omega, HD.out, Joins.ownsRow_le HO.out (by have h2 : g < B := HG.out; have h3 : w.heap.size ≤ g := HG0.out; omega), HS.out.1⟩
end Go.Proofs.Ytnknhfhllifnhaa
