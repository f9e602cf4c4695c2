/-
  Lines back: of the program.
-/
import Derived.Test.YtpnmledanloboaaBki
import Derived.Test.YtpnmledanloboaaLma
import Derived.RangeFuncBox
namespace Go.Proofs.Ytpnmledanloboaa
open Go.Fl Go.RowKit
open Go.Shelf
open Go.Joins (ownsRow_le)
set_option linter.unusedSimpArgs false
set_option linter.unusedVariables false
attribute [local go_sem] Oper.semAt_some

abbrev SO (v : Value) : Obj := .cells #[v] 37
abbrev BO (b : Bool) : Obj := .cells #[.bool b] 4
theorem backward_any (a : Option Addr) (n c : Nat) (w : World) : Calls Try.prog 70 #[.slice a n c] w fun e w' => e = .returned (.func (.func 103) #[] #[.pointer (some ⟨w.heap.size, 0, none⟩)]) ∧ w' = w.alloc (.cells #[.slice a n c] 86) := by
  go_enter Try.func70, Try.ntmps70
  go_wp2
  go_ret
  exact ⟨rfl, rfl⟩
theorem ta_yes {P : Program} {t xT : TypeId} {fs : Array Field} (hu : P.underlying t = some (.struct fs)) (v : Value) (w : World) : (Instr.typeAssert (.iface t v) xT t true).run P w = .ok (.tuple #[v, .bool true]) w := by
  simp [Instr.typeAssert, run_underlying hu]
theorem ta_no {P : Program} {t asserted xT : TypeId} {z : Value} {fs : Array Field} (hu : P.underlying asserted = some (.struct fs)) (hne : t ≠ asserted) (hz : (P.info? asserted).map (·.zero) = some (some z)) (v : Value) (w : World) :
    (Instr.typeAssert (.iface t v) xT asserted true).run P w = .ok (.tuple #[z, .bool false]) w := by
  obtain ⟨j, hj, hz'⟩ := Option.map_eq_some_iff.1 hz
  simp [Instr.typeAssert, run_underlying hu, hne, zeroValue, typeInfo, hj, hz']
theorem z32k : (Try.prog.info? 97).map (·.zero) = some (some (.float .f32 0)) := by kernel_rfl
theorem z32r : (Try.prog.info? 99).map (·.zero) = some (some (.agg #[.float .f32 0, .float .f32 0])) := by kernel_rfl
theorem eown_apart {B : Nat} {W : World} {v : Value} {xs : List El} (h : EOwn B W v xs) {row : Option Nat} (hr : ∀ r, row = some r → ∃ o : Obj, W.heap[r]? = some o ∧ o.isCells = false) : v.ownBlock = none ∨ v.ownBlock ≠ row := by
  rcases h.2 with ⟨rfl, _⟩ | ⟨g, cap, cur, rfl, _, hg, _⟩
  · exact .inl rfl
  · refine .inr fun e => ?_
    obtain ⟨o, ho, hc⟩ := hr g e.symm
    rw [hg] at ho
    cases ho
    cases hc
theorem eown_ne {B : Nat} {W : World} {v : Value} {xs : List El} (h : EOwn B W v xs) {p : Nat} {cs : Array Value} {T : TypeId} (hp : W.heap[p]? = some (.cells cs T)) (hT : T ≠ 67) : some p ≠ v.ownBlock := by
  rcases h.2 with ⟨rfl, _⟩ | ⟨g, cap, cur, rfl, _, hg, _⟩
  · intro e; cases e
  · intro e
    have e1 : p = g := Option.some.inj e
    subst e1
    rw [hg] at hp
    simp only [Option.some.injEq, Obj.cells.injEq] at hp
    exact hT hp.2.1.symm
theorem bk_after {W w3 : World} {n0 pK pI : Nat} {v v' u : Value} {xs ys : List El} (hbox : W.heap[pK]? = some (SO v)) (hit : W.heap[pI]? = some (.cells #[u] 86)) (ho : EOwn n0 W v xs) (hn0 : n0 ≤ W.heap.size) (hK : n0 ≤ pK) (hne : pI ≠ pK)
    (Z Z2 : Obj) (hown : EOwn n0 w3 v' ys) (hg : ((W.alloc Z).alloc Z2).grownBy w3 v.ownBlock) :
    w3.heap[pK]? = some (SO v) ∧ (w3.setCell ⟨pK, 0, none⟩ v').heap[pK]? = some (SO v') ∧ EOwn n0 (w3.setCell ⟨pK, 0, none⟩ v') v' ys ∧ KeepsOthers W (w3.setCell ⟨pK, 0, none⟩ v') ∧ Below n0 W (w3.setCell ⟨pK, 0, none⟩ v') ∧
      (w3.setCell ⟨pK, 0, none⟩ v').heap[pI]? = some (.cells #[u] 86) := by
  unfold EOwn at ho hown ⊢
  have hb0 : Boxed W pK 37 v := hbox
  have hi0 : Boxed W pI 86 u := hit
  obtain ⟨b1, b2, b3, b4, b5⟩ := (hb0.alloc Z).appended (by decide) (ho.alloc Z) (by simp; omega) hK hown hg
  have hi3 : Boxed w3 pI 86 u := ((hi0.alloc Z).alloc Z2).kept hg (hi0.not_row (by decide) ho)
  exact ⟨b1, b2, b3, (KeepsOthers.alloc W Z).trans b4, ((Below.refl n0 W).alloc hn0 Z).trans b5, (Below.heap_setCell _ _ _ pI hne).trans hi3⟩
theorem wpListIn_appE {F : Fence} {nn : Nat} {ops : Array Oper} {rest : List Oper} {o : Oper} {a : Act} {w : World} {Q : Exit → Act → World → Prop} (hgd : o.guard = none) (s x : Operand) (ho : o.op = .call { callee := .builtin .append, args := #[s, x], argTypes := #[37, 37] })
    (B : Nat) (v : Value) (n : Nat) (xs : List El) (hs : a.eval s = v) (hown : EOwn B w v xs) (hl : xs.length = n) (g c : Nat) (hx : a.eval x = .slice (some ⟨g, 0, none⟩) 1 c) (k0 : Int) (n0 p0 : Nat) (hb : w.heap[g]? = some (.cells #[.int .i64 k0, .float .f32 n0, .float .f32 p0] 67))
    (hn : n ≤ 1000) (hB : B ≤ w.heap.size)
    (h : ∀ g' cap' w', EOwn B w' (.slice (some ⟨g', 0, none⟩) (n + 1) cap') (xs ++ [⟨k0, n0, p0⟩]) → w.grownBy w' v.ownBlock → wpListIn F nn Try.prog ops Q rest (a.put o.dst (.slice (some ⟨g', 0, none⟩) (n + 1) cap')) w') : wpListIn F nn Try.prog ops Q (o :: rest) a w := by
  obtain ⟨ti, hi, hz0, hz1, hz2⟩ := info_parts Einfo
  subst hl
  refine wpListIn_append_own w hgd s x 37 ho B 67 ti (.agg #[.int .i64 0, .float .f32 0, .float .f32 0]) 3 16 Try.underlying37 hi hz0 hz1 hz2 rfl (by decide) v xs.length (cells3 xs) hs hown ⟨g, 0, none⟩ 1 c [.int .i64 k0, .float .f32 n0, .float .f32 p0] hx rfl (World.news_of_block (cs := #[.int .i64 k0, .float .f32 n0, .float .f32 p0]) (t := 67) (fr := (0, 0)) hb) (by intro u hu; simp at hu; rcases hu with rfl | rfl | rfl <;> rfl) (by unfold maxLen; omega) (by omega) hB ?_
  intro v' w' hown' hgrow _
  obtain ⟨g2, cap2, rfl⟩ := Joins.ownsRow_form hown' (by omega)
  refine h g2 cap2 w' ?_ hgrow
  unfold EOwn
  rw [cells3_app, List.length_append, List.length_singleton]
  exact hown'
theorem okEl_kind {t : El} (h : okEl t = true) : 0 ≤ t.k ∧ t.k ≤ 4 := by
  unfold okEl at h
  simp only [Bool.and_eq_true, decide_eq_true_eq] at h
  first | exact h.1.2 | exact h.2.1 | exact ⟨h.1.2.1, h.1.2.2⟩ | exact ⟨h.1.1.2, h.1.2⟩ | omega
/-- What the body of the loop keeps. -/
structure BI (w2 : World) (pK pI : Nat) (ap : Option Addr) (cp : Nat) (ts : List El) (pre : List (Fin ts.length)) (W : World) : Prop where
  own : ∃ v, W.heap[pK]? = some (SO v) ∧ EOwn w2.heap.size W v (pre.map fun x => backE ts[x.val])
  it : W.heap[pI]? = some (.cells #[.slice ap ts.length cp] 86)
  bel : Below w2.heap.size w2 W
  non : ∀ x ∈ pre, ts[x.val].k ≠ 4
theorem bi_from (w2 : World) (pK pI : Nat) (ap : Option Addr) (cp : Nat) (ts : List El) (B : Nat) (hB : w2.heap.size ≤ B) : OwnFrom B (BI w2 pK pI ap cp ts) := by
  intro pre W W' row h hg hr
  have hc : ∀ (k : Nat) (cs : Array Value) (T : TypeId), W.heap[k]? = some (.cells cs T) → W'.heap[k]? = some (.cells cs T) := fun k cs T hk => by
    refine (hg.block k (Array.getElem?_eq_some_iff.1 hk).1 (fun e => ?_)).trans hk
    obtain ⟨_, o, ho, hoc⟩ := hr k e.symm
    rw [hk] at ho; cases ho; cases hoc
  obtain ⟨v, h1, h2⟩ := h.own
  exact ⟨⟨v, hc _ _ _ h1, World.ownsRow.kept h2 hg (eown_apart h2 (fun r e => (hr r e).2))⟩, hc _ _ _ h.it, h.bel.grown hg h.bel.size (fun k e => Nat.le_trans hB (hr k e).1), h.non⟩
/-- What holds where the body has left the function. -/
structure BX' (w : World) (ts : List El) (W : World) : Prop where
  res : W.heap[w.heap.size + 1]? = some (SO (.slice none 0 0))
  ok : W.heap[w.heap.size + 1 + 1]? = some (BO false)
  bel : Below w.heap.size w W
  non : noRes ts = false
theorem bx_from (w : World) (ts : List El) (B : Nat) (hB : w.heap.size ≤ B) : OwnFrom B (fun (_ : List (Fin ts.length)) W => BX' w ts W) := by
  intro pre W W' row h hg hr
  have hc : ∀ (k : Nat) (cs : Array Value) (T : TypeId), W.heap[k]? = some (.cells cs T) → W'.heap[k]? = some (.cells cs T) := fun k cs T hk => by
    refine (hg.block k (Array.getElem?_eq_some_iff.1 hk).1 (fun e => ?_)).trans hk
    obtain ⟨_, o, ho, hoc⟩ := hr k e.symm
    rw [hk] at ho; cases ho; cases hoc
  exact ⟨hc _ _ _ h.res, hc _ _ _ h.ok, h.bel.grown hg h.bel.size (fun k e => Nat.le_trans hB (hr k e).1), h.non⟩
theorem pf_map (ts : List El) : (pf ts.length 0).map (fun x => backE ts[x.val]) = bkTo ts 0 := by
  rw [bkTo_zero, pf, List.drop_zero, List.map_reverse]
  congr 1
  apply List.ext_getElem
  · simp
  · intro i h1 h2
    simp
/-- The two results that lie in memory. -/
def BackRes (w w' : World) (e : Ending) (ts : List El) (ok : Bool) (R : List El) : Prop := (∃ r, e = .returned (.tuple #[r, .bool ok]) ∧ EOwn w.heap.size w' r R) ∧ Below w.heap.size w w'
set_option maxHeartbeats 4000000 in
set_option maxRecDepth 100000 in
theorem iBackLine_any (B : Nat) (v : Value) (ts : List El) (w : World) (hv : EOwn B w v ts) (h : oksE ts) (hn : ts.length ≤ 1048576) :
    Calls Try.prog 32 #[v] w fun e w' => BackRes w w' e ts (okBackLine ts) (outBackLine ts) := by
  obtain ⟨a0, cap0, rfl, hf⟩ := e_form hv
  have hcm := e_cap hv
  unfold maxLen at hcm
  obtain ⟨ok, hok⟩ : ∃ ok, okBackLine ts = ok := ⟨_, rfl⟩
  obtain ⟨R, hR⟩ : ∃ R, outBackLine ts = R := ⟨_, rfl⟩
  rw [hok, hR]
  have HOK := Lib.hid hok; have HR := Lib.hid hR
  obtain ⟨p, hp⟩ : ∃ p, okLine ts = p := ⟨_, rfl⟩
  have HP := Lib.hid hp
  obtain ⟨n1, n2, n3, n4, n5⟩ := three_newM w (SO (.slice a0 ts.length cap0)) (SO (.slice none 0 0)) (BO false)
  have H1 := Lib.hid n1; have H2 := Lib.hid n2; have H3 := Lib.hid n3; have HB0 := Lib.hid n4; have HS0 := Lib.hid n5
  have HV := Lib.hid (e_below hv ((((Below.refl w.heap.size w).alloc (Nat.le_refl _) (SO (.slice a0 ts.length cap0))).alloc (by simp) (SO (.slice none 0 0))).alloc (by simp; omega) (BO false))); have HO := Lib.hid h
  clear hok hR hp n1 n2 n3 n4 n5 hv h
  refine (callsIn_wide (n := 5)).1 ?_
  refine callsIn_of_wp_marks Try.func32 rfl trivial ?_ rfl
  simp only [Try.ntmps32, List.size_toArray, List.length_cons, List.length_nil, Nat.reduceAdd, Nat.reduceSub, Array.replicate_succ, Array.replicate_zero, List.push_toArray, List.append_toArray, List.nil_append, List.cons_append]
  refine wpIn_wide.2 ?_
  go_wp2_with fail
  generalize (((w.alloc (SO (.slice a0 ts.length cap0))).alloc (SO (.slice none 0 0))).alloc (BO false)) = w1 at H1 H2 H3 HB0 HS0 HV ⊢
  refine (iParts_any B _ ts _ HV.out HO.out hn).mono ?_
  rw [HP.out]
  rintro e w2 hp
  unfold PartsRes at hp
  obtain ⟨⟨u, rfl, hu⟩, hb2⟩ := hp
  have HU := Lib.hid hu
  have HB2 := Lib.hid (HB0.out.trans (hb2.mono HB0.out.size))
  have K1 := Lib.hid ((hb2.block w.heap.size (by rw [HS0.out]; omega)).trans H1.out)
  have K2 := Lib.hid ((hb2.block (w.heap.size + 1) (by rw [HS0.out]; omega)).trans H2.out)
  have K3 := Lib.hid ((hb2.block (w.heap.size + 1 + 1) (by rw [HS0.out]; omega)).trans H3.out)
  have HV2 := Lib.hid (e_below HV.out hb2)
  have HS2 := Lib.hid (show w.heap.size + 3 ≤ w2.heap.size from by rw [← HS0.out]; exact hb2.size)
  have HPB := Lib.hid (show w1.heap.size = w.heap.size + 3 from HS0.out)
  clear hu hb2 H1 H2 H3 HV
  have k1 : w2.cell? ⟨w.heap.size, 0, none⟩ = some (.slice a0 ts.length cap0) := by rw [Joins.cell_of_block K1.out]; rfl
  have k2 : w2.cell? ⟨w.heap.size + 1, 0, none⟩ = some (.slice none 0 0) := by rw [Joins.cell_of_block K2.out]; rfl
  have k3 : w2.cell? ⟨w.heap.size + 1 + 1, 0, none⟩ = some (.bool false) := by rw [Joins.cell_of_block K3.out]; rfl
  have f2 : w2.frozen? ⟨w.heap.size + 1, 0, none⟩ = false := by simp [World.frozen?, K2.out]
  have f3 : w2.frozen? ⟨w.heap.size + 1 + 1, 0, none⟩ = false := by simp [World.frozen?, K3.out]
  have HRES := Lib.hid (show Try.f32.results = #[.cell 2 37, .cell 3 4] by kernel_rfl)
  cases p with
  | false =>
    have HN := Lib.hid (okB_no (.inl HP.out))
    obtain rfl : ok = false := HOK.out.symm.trans HN.out.1
    obtain rfl : R = [] := HR.out.symm.trans HN.out.2
    go_wp2_with fail
    have z2 : ((w2.setCell ⟨w.heap.size + 1, 0, none⟩ (.slice none 0 0)).setCell ⟨w.heap.size + 1 + 1, 0, none⟩ (.bool false)).cell? ⟨w.heap.size + 1, 0, none⟩ = some (.slice none 0 0) := by
      rw [World.cell?_setCell_far _ _ _ _ (by show w.heap.size + 1 + 1 ≠ w.heap.size + 1; omega)]
      exact World.cell?_setCell_same' _ _ _ (by rw [k2]; rfl)
    have z3 : ((w2.setCell ⟨w.heap.size + 1, 0, none⟩ (.slice none 0 0)).setCell ⟨w.heap.size + 1 + 1, 0, none⟩ (.bool false)).cell? ⟨w.heap.size + 1 + 1, 0, none⟩ = some (.bool false) := by
      refine World.cell?_setCell_same' _ _ _ ?_
      rw [World.cell?_setCell_far _ _ _ _ (by show w.heap.size + 1 ≠ w.heap.size + 1 + 1; omega), k3]; rfl
    refine ⟨.tuple #[.slice none 0 0, .bool false], ?_, ?_⟩
    · have hres := HRES.out
      simp only [results, hres]; go_simp
    · exact ⟨⟨_, rfl, eown_none _ _⟩, (HB2.out.setCell (p := ⟨w.heap.size + 1, 0, none⟩) (Nat.le_succ _) _).setCell (p := ⟨w.heap.size + 1 + 1, 0, none⟩) (by show w.heap.size ≤ w.heap.size + 1 + 1; omega) _⟩
  | true =>
    have HPO := Lib.hid (HU.out (by trivial))
    have HL := Lib.hid (okLine_len HP.out)
    obtain ⟨ap, cp, rfl, hpf⟩ := po_form HPO.out
    obtain ⟨i0, hi, hz0, hz1, hz2⟩ := info_parts Einfo
    have hb4 : i0.bytes * ts.length ≤ 281474976710656 := by rw [hz2]; have := HL.out; omega
    have hml : ts.length ≤ maxLen := by unfold maxLen; omega
    have HI := Lib.hid hi; have HZ0 := Lib.hid hz0; have HZ1 := Lib.hid hz1
    clear hi hz0 hz1 hz2
    go_wp2_with (at_make; refine wpList_make_own _ rfl _ _ 37 rfl w2.heap.size 67 i0 (.agg #[.int .i64 0, .float .f32 0, .float .f32 0]) 3 Try.underlying37 HI.out HZ0.out HZ1.out _ _ _ ts.length rfl rfl rfl hb4 hml (Nat.le_refl _) ?_; intro w3 hown hgrow)
    have HO3 := Lib.hid (show EOwn w2.heap.size w3 (.slice (some ⟨w2.heap.size, 0, none⟩) 0 ts.length) [] from hown)
    have HB3 := Lib.hid ((Below.refl w2.heap.size w2).grown hgrow (Nat.le_refl _) (fun k h => by cases h))
    clear hown hgrow hb4 hml HI HZ0 HZ1
    have HB4 := Lib.hid (HB3.out.alloc HB3.out.size (SO (.slice (some ⟨w2.heap.size, 0, none⟩) 0 ts.length)))
    have HK4 := Lib.hid (heap_alloc_new w3 (SO (.slice (some ⟨w2.heap.size, 0, none⟩) 0 ts.length)))
    have HO4 := Lib.hid (e_below HO3.out ((Below.refl w3.heap.size w3).alloc (Nat.le_refl _) (SO (.slice (some ⟨w2.heap.size, 0, none⟩) 0 ts.length))))
    have HS4 := Lib.hid (show (w3.alloc (SO (.slice (some ⟨w2.heap.size, 0, none⟩) 0 ts.length))).heap.size = w3.heap.size + 1 by simp)
    generalize w3.alloc (SO (.slice (some ⟨w2.heap.size, 0, none⟩) 0 ts.length)) = w4 at HB4 HK4 HO4 HS4 ⊢
    have HS3 := Lib.hid HB3.out.size
    generalize w3.heap.size = pK at HK4 HS4 HS3 ⊢
    refine (backward_any ap ts.length cp _).mono ?_
    rintro e w' ⟨rfl, rfl⟩
    have HB5 := Lib.hid (HB4.out.alloc HB4.out.size (.cells #[.slice ap ts.length cp] 86))
    have HI5 := Lib.hid (heap_alloc_new w4 (.cells #[.slice ap ts.length cp] 86))
    have HK5 := Lib.hid ((heap_alloc_old w4 (.cells #[.slice ap ts.length cp] 86) pK (show pK < w4.heap.size by rw [HS4.out]; omega)).trans HK4.out)
    have HO5 := Lib.hid (e_below HO4.out ((Below.refl w4.heap.size w4).alloc (Nat.le_refl _) (.cells #[.slice ap ts.length cp] 86)))
    have HS5 := Lib.hid (show w4.heap.size < (w4.alloc (.cells #[.slice ap ts.length cp] 86)).heap.size by simp)
    go_wp2_with fail
    generalize w4.alloc (.cells #[.slice ap ts.length cp] 86) = w5 at HB5 HI5 HK5 HO5 HS5 ⊢
    have HPI := Lib.hid (show w4.heap.size = pK + 1 from HS4.out)
    generalize w4.heap.size = pI at HI5 HS5 HPI ⊢
    have HP5 := Lib.hid (show ∀ j (h : j < ts.length), ∃ g, ap = some ⟨g, 0, none⟩ ∧ g < w2.heap.size ∧ w5.cell? ⟨g, j, none⟩ = some (partV ts[j]) from fun j hj => by
      rcases hpf with h | ⟨g, rfl, _, hg⟩
      · exact absurd hj (by simp [h])
      · exact ⟨g, rfl, hg, (HB5.out.cell (p := ⟨g, j, none⟩) hg).trans (po_cell HPO.out hj)⟩)
    have hpI : pI < w5.heap.size := HS5.out
    have hcI : w5.cell? ⟨pI, 0, none⟩ = some (.slice ap ts.length cp) := by rw [Joins.cell_of_block HI5.out]; rfl
    have HW5 := Lib.hid (show w.heap.size ≤ w5.heap.size from Nat.le_trans (Nat.le_trans (Nat.le_add_right _ 3) HS2.out) HB5.out.size)
    rename_i KK hKK
    have HKK := Lib.hid hKK
    clear hKK
    refine (wpIn_wide (n := 5)).1 ?_
    refine wpIn_rangeFunc_ownF rfl (by omega) (gf := 103) (lb := #[.pointer (some ⟨pI, 0, none⟩)]) rfl trivial
      (enters_of Try.func103 (by kernel_rfl) rfl)
      (back_stops (5 - 1) (by omega) pI ap cp w2.heap.size ts w5 hpI HB5.out.size HL.out hcI HP5.out)
      (fun h k => ⟨k.1.trans h.1, h.2.trans k.2⟩)
      (fun W l o o' hl h hc hw => ⟨(belowK_b (n₀ := w5.heap.size) (w := w5) (Nat.le_refl _) W l o o' hl h hc hw).cell (p := ⟨pI, 0, none⟩) hpI, belowK_b (w := w5) HB5.out.size W l o o' hl h hc hw⟩)
      (Below.refl _ _) (fun _ => rfl)
      (BI w2 pK pI ap cp ts) (fun c _ W => c = .ret ∧ BX' w ts W)
      (bi_from _ _ _ _ _ _ _ HB5.out.size)
      (fun c pre W W' row h hg hr => ⟨h.1, bx_from w ts _ HW5.out pre W W' row h.2 hg hr⟩)
      ⟨⟨_, HK5.out, HO5.out⟩, HI5.out, HB5.out, fun _ h => by cases h⟩
      ?a1 ?assign ?body ?done ?stop
    case assign =>
      intro l x W K hK
      gi_wp2
      exact hK
    case body =>
      rintro l pre ⟨j, hj⟩ W HI hpl
      obtain ⟨⟨v, hc, ho⟩, hit, hbel, hnon⟩ := HI
      have HOW := Lib.hid ho; have HBW := Lib.hid hbel; have HCK := Lib.hid hc; have HNON := Lib.hid hnon; have HIT := Lib.hid hit
      obtain ⟨av, cv, ev, _⟩ := e_form ho
      rw [List.length_map] at ev
      subst ev
      have j1 : W.heap[w.heap.size]? = some (SO (.slice a0 ts.length cap0)) := (hbel.block w.heap.size (by have := HS2.out; omega)).trans K1.out
      have j2 : W.heap[w.heap.size + 1]? = some (SO (.slice none 0 0)) := (hbel.block (w.heap.size + 1) (by have := HS2.out; omega)).trans K2.out
      have j3 : W.heap[w.heap.size + 1 + 1]? = some (BO false) := (hbel.block (w.heap.size + 1 + 1) (by have := HS2.out; omega)).trans K3.out
      have c1 : W.cell? ⟨w.heap.size, 0, none⟩ = some (.slice a0 ts.length cap0) := by rw [Joins.cell_of_block j1]; rfl
      have c2 : W.cell? ⟨w.heap.size + 1, 0, none⟩ = some (.slice none 0 0) := by rw [Joins.cell_of_block j2]; rfl
      have c3 : W.cell? ⟨w.heap.size + 1 + 1, 0, none⟩ = some (.bool false) := by rw [Joins.cell_of_block j3]; rfl
      have f2 : W.frozen? ⟨w.heap.size + 1, 0, none⟩ = false := by simp [World.frozen?, j2]
      have f3 : W.frozen? ⟨w.heap.size + 1 + 1, 0, none⟩ = false := by simp [World.frozen?, j3]
      have c6 : W.cell? ⟨pK, 0, none⟩ = some (.slice av pre.length cv) := by rw [Joins.cell_of_block hc]; rfl
      have hws : w.heap.size + 1 + 1 < W.heap.size := (Array.getElem?_eq_some_iff.1 j3).1
      have c2A : ∀ Z, (W.alloc Z).cell? ⟨w.heap.size + 1, 0, none⟩ = some (.slice none 0 0) := fun Z => (((Below.refl W.heap.size W).alloc (Nat.le_refl _) Z).cell (p := ⟨w.heap.size + 1, 0, none⟩) (Nat.lt_of_succ_lt hws)).trans c2
      have c3A : ∀ Z, (W.alloc Z).cell? ⟨w.heap.size + 1 + 1, 0, none⟩ = some (.bool false) := fun Z => (((Below.refl W.heap.size W).alloc (Nat.le_refl _) Z).cell (p := ⟨w.heap.size + 1 + 1, 0, none⟩) hws).trans c3
      have f2A : ∀ Z, (W.alloc Z).frozen? ⟨w.heap.size + 1, 0, none⟩ = false := fun Z => by simp [World.frozen?, heap_alloc_old W Z _ (Nat.lt_of_succ_lt hws), j2]
      have f3A : ∀ Z, (W.alloc Z).frozen? ⟨w.heap.size + 1 + 1, 0, none⟩ = false := fun Z => by simp [World.frozen?, heap_alloc_old W Z _ hws, j3]
      have HJ2 := Lib.hid (show ∀ Z, (W.alloc Z).heap[w.heap.size + 1]? = some (SO (.slice none 0 0)) from fun Z => (heap_alloc_old W Z _ (Nat.lt_of_succ_lt hws)).trans j2)
      have HJ3 := Lib.hid (show ∀ Z, (W.alloc Z).heap[w.heap.size + 1 + 1]? = some (BO false) from fun Z => (heap_alloc_old W Z _ hws).trans j3)
      have hkl : pK < W.heap.size := (Array.getElem?_eq_some_iff.1 hc).1
      have c6A : ∀ Z, (W.alloc Z).cell? ⟨pK, 0, none⟩ = some (.slice av pre.length cv) := fun Z => (((Below.refl W.heap.size W).alloc (Nat.le_refl _) Z).cell (p := ⟨pK, 0, none⟩) hkl).trans c6
      have hlj := hj
      have hlj2 : (j : Int) < (ts.length : Int) := by omega
      rcases hf with hf | ⟨g, rfl, _, hg⟩
      · exact absurd hj (by simp [hf])
      obtain ⟨e0, e1, e2⟩ := (e_cells (e_below HV2.out hbel) hlj).1
      have HLJ := Lib.hid hlj
      have HNR := Lib.hid (show ts[j].k = 4 → noRes ts = false from noRes_no hlj)
      have HTO := Lib.hid (HO.out ts[j] (List.getElem_mem hlj))
      generalize htj : ts[j] = t at e0 e1 e2 HNR HTO ⊢
      have HTJ := Lib.hid htj
      have HOA := Lib.hid (show ∀ Z Z2, EOwn w2.heap.size ((W.alloc Z).alloc Z2) (.slice av pre.length cv) (pre.map fun x => backE ts[x.val]) from fun Z Z2 => e_below HOW.out (((Below.refl W.heap.size W).alloc (Nat.le_refl _) Z).alloc (by simp) Z2))
      have HNB := Lib.hid (show ∀ Z Z2, ((W.alloc Z).alloc Z2).heap[W.heap.size + 1]? = some Z2 from fun Z Z2 => by
        have := heap_alloc_new (W.alloc Z) Z2
        rwa [World.size_alloc] at this)
      have HSB := Lib.hid (show ∀ Z Z2, w2.heap.size ≤ ((W.alloc Z).alloc Z2).heap.size from fun Z Z2 => by have := HBW.out.size; simp; omega)
      have HPL := Lib.hid (show pre.length ≤ 1000 from by have := HL.out; omega)
      have HNE := Lib.hid (show pI ≠ pK from by have := HPI.out; omega)
      clear k1 k2 k3 hcI hc ho hit hbel hnon htj j1 j2 j3
      have hk := okEl_kind (t := t) (HTJ.out ▸ okLine_at HP.out HLJ.out)
      obtain ⟨k, n, p⟩ := t
      have hcs : k = 0 ∨ k = 1 ∨ k = 2 ∨ k = 3 ∨ k = 4 := by have h0 : 0 ≤ k := hk.1; have h1 : k ≤ 4 := hk.2; omega
      clear hk
      rcases hcs with rfl | rfl | rfl | rfl | rfl
      · skip
        have HPT : encP ts ⟨j, hj⟩ = #[.int .i64 (j : Int), .iface 95 (.float .f32 n)] := by show #[_, partV ts[j]] = _; rw [HTJ.out]; rfl
        have t0 : ∀ v w, (Instr.typeAssert (.iface 95 v) 94 95 true).run Try.prog w = .ok (.tuple #[v, .bool true]) w := run_ta_yes Try.underlying95
        have t1 : ∀ v w, (Instr.typeAssert (.iface 95 v) 94 96 true).run Try.prog w = .ok (.tuple #[.float .f32 0, .bool false]) w := run_ta_no Try.underlying96 (by decide) z32l
        have t2 : ∀ v w, (Instr.typeAssert (.iface 95 v) 94 97 true).run Try.prog w = .ok (.tuple #[.float .f32 0, .bool false]) w := run_ta_no Try.underlying97 (by decide) z32k
        have HBE := Lib.hid (show ((pre ++ [(⟨j, HLJ.out⟩ : Fin ts.length)]).map fun x => backE ts[x.val]) = (pre.map fun x => backE ts[x.val]) ++ [⟨0, Op.negFloat .f32 n, p⟩] from by rw [List.map_append, List.map_singleton]; show _ ++ [backE ts[j]] = _; rw [HTJ.out]; rfl)
        have HN4 := Lib.hid (show ∀ x ∈ pre ++ [(⟨j, HLJ.out⟩ : Fin ts.length)], ts[x.val].k ≠ 4 from fun x hx => by
          rcases List.mem_append.1 hx with h | h
          · exact HNON.out x h
          · rw [List.mem_singleton.1 h]; show ts[j].k ≠ 4; rw [HTJ.out]; show (0 : Int) ≠ 4; decide)
        gi_wp2_with (gi_at_builtin; refine haltE ?_)
        unfold HaltE
        refine wpListIn_appE rfl _ _ rfl w2.heap.size _ pre.length (pre.map fun x => backE ts[x.val]) rfl (HOA.out _ _) (List.length_map _) (W.heap.size + 1) 1 rfl _ _ _ (HNB.out _ _) HPL.out (HSB.out _ _) ?_
        intro g2 cap2 w3 hO3 hg3
        obtain ⟨b1, b2, b3, b4, b5, b6⟩ := bk_after HCK.out HIT.out HOW.out HBW.out.size HS3.out HNE.out _ _ hO3 hg3
        have c63 : w3.cell? ⟨pK, 0, none⟩ = some (.slice av pre.length cv) := by rw [Joins.cell_of_block b1]; rfl
        have f63 : w3.frozen? ⟨pK, 0, none⟩ = false := by simp [World.frozen?, b1]
        have HX := Lib.hid (And.intro b2 (And.intro b3 (And.intro b4 (And.intro b5 b6))))
        clear b1 b2 b3 b4 b5 b6 hO3 hg3
        gi_wp2_with fail
        obtain ⟨b2, b3, b4, b5, b6⟩ := HX.out
        refine ⟨b4, ⟨?_, b5⟩, ⟨_, b2, ?_⟩, b6, HBW.out.trans b5, HN4.out⟩
        · rw [Joins.cell_of_block b6, Joins.cell_of_block HIT.out]
        · rw [HBE.out]; exact b3
      · skip
        have HPT : encP ts ⟨j, hj⟩ = #[.int .i64 (j : Int), .iface 96 (.float .f32 n)] := by show #[_, partV ts[j]] = _; rw [HTJ.out]; rfl
        have t0 : ∀ v w, (Instr.typeAssert (.iface 96 v) 94 95 true).run Try.prog w = .ok (.tuple #[.float .f32 0, .bool false]) w := run_ta_no Try.underlying95 (by decide) z32d
        have t1 : ∀ v w, (Instr.typeAssert (.iface 96 v) 94 96 true).run Try.prog w = .ok (.tuple #[v, .bool true]) w := run_ta_yes Try.underlying96
        have t2 : ∀ v w, (Instr.typeAssert (.iface 96 v) 94 97 true).run Try.prog w = .ok (.tuple #[.float .f32 0, .bool false]) w := run_ta_no Try.underlying97 (by decide) z32k
        have HBE := Lib.hid (show ((pre ++ [(⟨j, HLJ.out⟩ : Fin ts.length)]).map fun x => backE ts[x.val]) = (pre.map fun x => backE ts[x.val]) ++ [⟨1, Op.negFloat .f32 n, p⟩] from by rw [List.map_append, List.map_singleton]; show _ ++ [backE ts[j]] = _; rw [HTJ.out]; rfl)
        have HN4 := Lib.hid (show ∀ x ∈ pre ++ [(⟨j, HLJ.out⟩ : Fin ts.length)], ts[x.val].k ≠ 4 from fun x hx => by
          rcases List.mem_append.1 hx with h | h
          · exact HNON.out x h
          · rw [List.mem_singleton.1 h]; show ts[j].k ≠ 4; rw [HTJ.out]; show (1 : Int) ≠ 4; decide)
        gi_wp2_with (gi_at_builtin; refine haltE ?_)
        unfold HaltE
        refine wpListIn_appE rfl _ _ rfl w2.heap.size _ pre.length (pre.map fun x => backE ts[x.val]) rfl (HOA.out _ _) (List.length_map _) (W.heap.size + 1) 1 rfl _ _ _ (HNB.out _ _) HPL.out (HSB.out _ _) ?_
        intro g2 cap2 w3 hO3 hg3
        obtain ⟨b1, b2, b3, b4, b5, b6⟩ := bk_after HCK.out HIT.out HOW.out HBW.out.size HS3.out HNE.out _ _ hO3 hg3
        have c63 : w3.cell? ⟨pK, 0, none⟩ = some (.slice av pre.length cv) := by rw [Joins.cell_of_block b1]; rfl
        have f63 : w3.frozen? ⟨pK, 0, none⟩ = false := by simp [World.frozen?, b1]
        have HX := Lib.hid (And.intro b2 (And.intro b3 (And.intro b4 (And.intro b5 b6))))
        clear b1 b2 b3 b4 b5 b6 hO3 hg3
        gi_wp2_with fail
        obtain ⟨b2, b3, b4, b5, b6⟩ := HX.out
        refine ⟨b4, ⟨?_, b5⟩, ⟨_, b2, ?_⟩, b6, HBW.out.trans b5, HN4.out⟩
        · rw [Joins.cell_of_block b6, Joins.cell_of_block HIT.out]
        · rw [HBE.out]; exact b3
      · skip
        have HPT : encP ts ⟨j, hj⟩ = #[.int .i64 (j : Int), .iface 151 (.float .f32 n)] := by show #[_, partV ts[j]] = _; rw [HTJ.out]; rfl
        have t0 : ∀ v w, (Instr.typeAssert (.iface 151 v) 94 95 true).run Try.prog w = .ok (.tuple #[.float .f32 0, .bool false]) w := run_ta_no Try.underlying95 (by decide) z32d
        have t1 : ∀ v w, (Instr.typeAssert (.iface 151 v) 94 96 true).run Try.prog w = .ok (.tuple #[.float .f32 0, .bool false]) w := run_ta_no Try.underlying96 (by decide) z32l
        have t2 : ∀ v w, (Instr.typeAssert (.iface 151 v) 94 97 true).run Try.prog w = .ok (.tuple #[.float .f32 0, .bool false]) w := run_ta_no Try.underlying97 (by decide) z32k
        have t9 : ∀ v w, (Instr.typeAssert (.iface 151 v) 94 99 true).run Try.prog w = .ok (.tuple #[.agg #[.float .f32 0, .float .f32 0], .bool false]) w := ta_no Try.underlying99 (by decide) z32r
        have HBE := Lib.hid (show ((pre ++ [(⟨j, HLJ.out⟩ : Fin ts.length)]).map fun x => backE ts[x.val]) = (pre.map fun x => backE ts[x.val]) ++ [⟨2, n, p⟩] from by rw [List.map_append, List.map_singleton]; show _ ++ [backE ts[j]] = _; rw [HTJ.out]; rfl)
        have HN4 := Lib.hid (show ∀ x ∈ pre ++ [(⟨j, HLJ.out⟩ : Fin ts.length)], ts[x.val].k ≠ 4 from fun x hx => by
          rcases List.mem_append.1 hx with h | h
          · exact HNON.out x h
          · rw [List.mem_singleton.1 h]; show ts[j].k ≠ 4; rw [HTJ.out]; show (2 : Int) ≠ 4; decide)
        gi_wp2_with (gi_at_builtin; refine haltE ?_)
        unfold HaltE
        refine wpListIn_appE rfl _ _ rfl w2.heap.size _ pre.length (pre.map fun x => backE ts[x.val]) rfl (HOA.out _ _) (List.length_map _) (W.heap.size + 1) 1 rfl _ _ _ (HNB.out _ _) HPL.out (HSB.out _ _) ?_
        intro g2 cap2 w3 hO3 hg3
        obtain ⟨b1, b2, b3, b4, b5, b6⟩ := bk_after HCK.out HIT.out HOW.out HBW.out.size HS3.out HNE.out _ _ hO3 hg3
        have c63 : w3.cell? ⟨pK, 0, none⟩ = some (.slice av pre.length cv) := by rw [Joins.cell_of_block b1]; rfl
        have f63 : w3.frozen? ⟨pK, 0, none⟩ = false := by simp [World.frozen?, b1]
        have HX := Lib.hid (And.intro b2 (And.intro b3 (And.intro b4 (And.intro b5 b6))))
        clear b1 b2 b3 b4 b5 b6 hO3 hg3
        gi_wp2_with fail
        obtain ⟨b2, b3, b4, b5, b6⟩ := HX.out
        refine ⟨b4, ⟨?_, b5⟩, ⟨_, b2, ?_⟩, b6, HBW.out.trans b5, HN4.out⟩
        · rw [Joins.cell_of_block b6, Joins.cell_of_block HIT.out]
        · rw [HBE.out]; exact b3
      · skip
        have HPT : encP ts ⟨j, hj⟩ = #[.int .i64 (j : Int), .iface 97 (.float .f32 n)] := by show #[_, partV ts[j]] = _; rw [HTJ.out]; rfl
        have t0 : ∀ v w, (Instr.typeAssert (.iface 97 v) 94 95 true).run Try.prog w = .ok (.tuple #[.float .f32 0, .bool false]) w := run_ta_no Try.underlying95 (by decide) z32d
        have t1 : ∀ v w, (Instr.typeAssert (.iface 97 v) 94 96 true).run Try.prog w = .ok (.tuple #[.float .f32 0, .bool false]) w := run_ta_no Try.underlying96 (by decide) z32l
        have t2 : ∀ v w, (Instr.typeAssert (.iface 97 v) 94 97 true).run Try.prog w = .ok (.tuple #[v, .bool true]) w := run_ta_yes Try.underlying97
        have HBE := Lib.hid (show ((pre ++ [(⟨j, HLJ.out⟩ : Fin ts.length)]).map fun x => backE ts[x.val]) = (pre.map fun x => backE ts[x.val]) ++ [⟨3, Op.negFloat .f32 n, p⟩] from by rw [List.map_append, List.map_singleton]; show _ ++ [backE ts[j]] = _; rw [HTJ.out]; rfl)
        have HN4 := Lib.hid (show ∀ x ∈ pre ++ [(⟨j, HLJ.out⟩ : Fin ts.length)], ts[x.val].k ≠ 4 from fun x hx => by
          rcases List.mem_append.1 hx with h | h
          · exact HNON.out x h
          · rw [List.mem_singleton.1 h]; show ts[j].k ≠ 4; rw [HTJ.out]; show (3 : Int) ≠ 4; decide)
        gi_wp2_with (gi_at_builtin; refine haltE ?_)
        unfold HaltE
        refine wpListIn_appE rfl _ _ rfl w2.heap.size _ pre.length (pre.map fun x => backE ts[x.val]) rfl (HOA.out _ _) (List.length_map _) (W.heap.size + 1) 1 rfl _ _ _ (HNB.out _ _) HPL.out (HSB.out _ _) ?_
        intro g2 cap2 w3 hO3 hg3
        obtain ⟨b1, b2, b3, b4, b5, b6⟩ := bk_after HCK.out HIT.out HOW.out HBW.out.size HS3.out HNE.out _ _ hO3 hg3
        have c63 : w3.cell? ⟨pK, 0, none⟩ = some (.slice av pre.length cv) := by rw [Joins.cell_of_block b1]; rfl
        have f63 : w3.frozen? ⟨pK, 0, none⟩ = false := by simp [World.frozen?, b1]
        have HX := Lib.hid (And.intro b2 (And.intro b3 (And.intro b4 (And.intro b5 b6))))
        clear b1 b2 b3 b4 b5 b6 hO3 hg3
        gi_wp2_with fail
        obtain ⟨b2, b3, b4, b5, b6⟩ := HX.out
        refine ⟨b4, ⟨?_, b5⟩, ⟨_, b2, ?_⟩, b6, HBW.out.trans b5, HN4.out⟩
        · rw [Joins.cell_of_block b6, Joins.cell_of_block HIT.out]
        · rw [HBE.out]; exact b3
      · skip
        have HPT : encP ts ⟨j, hj⟩ = #[.int .i64 (j : Int), .iface 99 (.agg #[.float .f32 n, .float .f32 p])] := by show #[_, partV ts[j]] = _; rw [HTJ.out]; rfl
        have t0 : ∀ v w, (Instr.typeAssert (.iface 99 v) 94 95 true).run Try.prog w = .ok (.tuple #[.float .f32 0, .bool false]) w := run_ta_no Try.underlying95 (by decide) z32d
        have t1 : ∀ v w, (Instr.typeAssert (.iface 99 v) 94 96 true).run Try.prog w = .ok (.tuple #[.float .f32 0, .bool false]) w := run_ta_no Try.underlying96 (by decide) z32l
        have t2 : ∀ v w, (Instr.typeAssert (.iface 99 v) 94 97 true).run Try.prog w = .ok (.tuple #[.float .f32 0, .bool false]) w := run_ta_no Try.underlying97 (by decide) z32k
        have t9 : ∀ v w, (Instr.typeAssert (.iface 99 v) 94 99 true).run Try.prog w = .ok (.tuple #[v, .bool true]) w := ta_yes Try.underlying99
        gi_wp2_with fail
        have b2 : Boxed (W.alloc (EO ⟨4, n, p⟩)) (w.heap.size + 1) 37 (.slice none 0 0) := HJ2.out _
        have b3 : Boxed ((W.alloc (EO ⟨4, n, p⟩)).setCell ⟨w.heap.size + 1, 0, none⟩ (.slice none 0 0)) (w.heap.size + 1 + 1) 4 (.bool false) := (Below.heap_setCell _ _ _ (w.heap.size + 1 + 1) (by show w.heap.size + 1 + 1 ≠ w.heap.size + 1; omega)).trans (HJ3.out _)
        have hB := ((HB2.out.trans (HBW.out.mono HB2.out.size)).alloc (Nat.le_trans HB2.out.size HBW.out.size) (EO ⟨4, n, p⟩))
        exact ⟨((KeepsOthers.alloc W _).trans (KeepsOthers.setCell _ _ _)).trans (KeepsOthers.setCell _ _ _), rfl, (Below.heap_setCell _ _ _ (w.heap.size + 1) (by show w.heap.size + 1 ≠ w.heap.size + 1 + 1; omega)).trans (b2.set _), b3.set _,
          (hB.setCell (p := ⟨w.heap.size + 1, 0, none⟩) (Nat.le_succ _) _).setCell (p := ⟨w.heap.size + 1 + 1, 0, none⟩) (by show w.heap.size ≤ w.heap.size + 1 + 1; omega) _, HNR.out trivial⟩
    case done =>
      rintro D ys W hD rfl HI hK
      simp only [Exit.inBlock, Exit.then]
      refine HKK.out _ _ ?_
      obtain ⟨⟨v, hc, ho⟩, hit, hbel, hnon⟩ := HI
      have HPF := Lib.hid (pf_map ts)
      have HN := Lib.hid (okB_yes HP.out (noRes_all (fun j hj => hnon ⟨j, hj⟩ (by simp [pf]))))
      obtain rfl : ok = true := HOK.out.symm.trans HN.out.1
      obtain rfl : R = bkTo ts 0 := HR.out.symm.trans HN.out.2
      have HOW := Lib.hid (show EOwn w2.heap.size W v (bkTo ts 0) from by rw [← HPF.out]; exact ho)
      have HBW := Lib.hid hbel
      have j2 : W.heap[w.heap.size + 1]? = some (SO (.slice none 0 0)) := (HBW.out.block (w.heap.size + 1) (by have := HS2.out; omega)).trans K2.out
      have j3 : W.heap[w.heap.size + 1 + 1]? = some (BO false) := (HBW.out.block (w.heap.size + 1 + 1) (by have := HS2.out; omega)).trans K3.out
      have c6 : W.cell? ⟨pK, 0, none⟩ = some v := by rw [Joins.cell_of_block hc]; rfl
      have c2 : W.cell? ⟨w.heap.size + 1, 0, none⟩ = some (.slice none 0 0) := by rw [Joins.cell_of_block j2]; rfl
      have c3 : W.cell? ⟨w.heap.size + 1 + 1, 0, none⟩ = some (.bool false) := by rw [Joins.cell_of_block j3]; rfl
      have f2 : W.frozen? ⟨w.heap.size + 1, 0, none⟩ = false := by simp [World.frozen?, j2]
      have f3 : W.frozen? ⟨w.heap.size + 1 + 1, 0, none⟩ = false := by simp [World.frozen?, j3]
      have HJ2 := Lib.hid j2; have HJ3 := Lib.hid j3
      obtain ⟨av, cv, rfl, _⟩ := e_form HOW.out
      clear k1 k2 k3 hcI hit hc ho hnon hbel j2 j3
      go_wp2_with fail
      have z2 : ((W.setCell ⟨w.heap.size + 1, 0, none⟩ (.slice av (bkTo ts 0).length cv)).setCell ⟨w.heap.size + 1 + 1, 0, none⟩ (.bool true)).cell? ⟨w.heap.size + 1, 0, none⟩ = some (.slice av (bkTo ts 0).length cv) := by
        rw [World.cell?_setCell_far _ _ _ _ (by show w.heap.size + 1 + 1 ≠ w.heap.size + 1; omega)]
        exact World.cell?_setCell_same' _ _ _ (by rw [c2]; rfl)
      have z3 : ((W.setCell ⟨w.heap.size + 1, 0, none⟩ (.slice av (bkTo ts 0).length cv)).setCell ⟨w.heap.size + 1 + 1, 0, none⟩ (.bool true)).cell? ⟨w.heap.size + 1 + 1, 0, none⟩ = some (.bool true) := by
        refine World.cell?_setCell_same' _ _ _ ?_
        rw [World.cell?_setCell_far _ _ _ _ (by show w.heap.size + 1 ≠ w.heap.size + 1 + 1; omega), c3]; rfl
      have hKf : ((W.setCell ⟨w.heap.size + 1, 0, none⟩ (.slice av (bkTo ts 0).length cv)).setCell ⟨w.heap.size + 1 + 1, 0, none⟩ (.bool true)).heap[D]? = some (.deferred (some [])) := (KeepsOthers.setCell _ _ _).same D _ ((KeepsOthers.setCell _ _ _).same D _ hK rfl) rfl
      have n1 := (eown_ne HOW.out HJ2.out (by decide)).symm
      have n2 := (eown_ne HOW.out HJ3.out (by decide)).symm
      have hOf : EOwn w2.heap.size ((W.setCell ⟨w.heap.size + 1, 0, none⟩ (.slice av (bkTo ts 0).length cv)).setCell ⟨w.heap.size + 1 + 1, 0, none⟩ (.bool true)) (.slice av (bkTo ts 0).length cv) (bkTo ts 0) :=
        World.ownsRow.kept (World.ownsRow.kept HOW.out (grownBy_setCell' W (w.heap.size + 1) _) (.inr n1)) (grownBy_setCell' _ (w.heap.size + 1 + 1) _) (.inr n2)
      have hBf := ((HB2.out.trans (HBW.out.mono HB2.out.size)).setCell (p := ⟨w.heap.size + 1, 0, none⟩) (Nat.le_succ _) (.slice av (bkTo ts 0).length cv)).setCell (p := ⟨w.heap.size + 1 + 1, 0, none⟩) (by show w.heap.size ≤ w.heap.size + 1 + 1; omega) (.bool true)
      generalize (W.setCell ⟨w.heap.size + 1, 0, none⟩ (.slice av (bkTo ts 0).length cv)).setCell ⟨w.heap.size + 1 + 1, 0, none⟩ (.bool true) = Wf at hKf hOf hBf z2 z3 ⊢
      have hg := grownBy_putObj' Wf D (.deferred none)
      have hr : ∀ r, some D = some r → ∃ o : Obj, Wf.heap[r]? = some o ∧ o.isCells = false := fun r e => by cases e; exact ⟨_, hKf, rfl⟩
      have y2 := cell_kept z2 hg hr
      have y3 := cell_kept z3 hg hr
      refine ⟨by simp, .inl ⟨_, _, rfl, run_takeDeferred hKf, ?_⟩⟩
      refine ⟨.tuple #[.slice av (bkTo ts 0).length cv, .bool true], ?_, ?_⟩
      · have hres := HRES.out
        simp only [results, hres]; go_simp
      · refine ⟨⟨_, rfl, ownsRow_le (World.ownsRow.kept hOf hg (eown_apart hOf hr)) (Nat.le_trans (Nat.le_add_right _ 3) HS2.out)⟩, hBf.grown hg hBf.size (fun k e => by cases e; exact Nat.le_trans HW5.out hD)⟩
    case stop =>
      rintro D c pre W h5 _ ⟨rfl, hX⟩ hK
      have HX := Lib.hid hX
      have c2 : W.cell? ⟨w.heap.size + 1, 0, none⟩ = some (.slice none 0 0) := by rw [Joins.cell_of_block hX.res]; rfl
      have c3 : W.cell? ⟨w.heap.size + 1 + 1, 0, none⟩ = some (.bool false) := by rw [Joins.cell_of_block hX.ok]; rfl
      have HN := Lib.hid (okB_no (ts := ts) (.inr hX.non))
      obtain rfl : ok = false := HOK.out.symm.trans HN.out.1
      obtain rfl : R = [] := HR.out.symm.trans HN.out.2
      refine wpIn_wide.2 ?_
      clear k1 k2 k3 hcI hX
      go_wp2_with fail
      have hg := grownBy_putObj' W D (.deferred none)
      have hr : ∀ r, some D = some r → ∃ o : Obj, W.heap[r]? = some o ∧ o.isCells = false := fun r e => by cases e; exact ⟨_, hK, rfl⟩
      have y2 := cell_kept c2 hg hr
      have y3 := cell_kept c3 hg hr
      refine ⟨by simp, .inl ⟨_, _, rfl, run_takeDeferred hK, ?_⟩⟩
      refine ⟨.tuple #[.slice none 0 0, .bool false], ?_, ?_⟩
      · have hres := HRES.out
        simp only [results, hres]; go_simp
      · exact ⟨⟨_, rfl, eown_none _ _⟩, HX.out.bel.grown hg HX.out.bel.size (fun k e => by cases e; exact Nat.le_trans HW5.out h5)⟩
end Go.Proofs.Ytpnmledanloboaa
