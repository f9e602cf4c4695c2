/-
  Lines back: of the model.
-/
import Derived.Test.YtpnmledanloboaaPrt
import Derived.Test.YtpnmledanloboaaNg
namespace Go.Proofs.Ytpnmledanloboaa
open Go.Fl Go.RowKit
open Go.Joins (ownsRow_le)
set_option linter.unusedSimpArgs false
set_option linter.unusedVariables false

/-- An element, back. -/
def backE (t : El) : El := if t.k = 2 then t else { t with n := Op.negFloat .f32 t.n }
def noRes (ts : List El) : Bool := ts.all fun t => decide (t.k ≠ 4)
def okBackLine (ts : List El) : Bool := okLine ts && noRes ts
def outBackLine (ts : List El) : List El := if okBackLine ts then (ts.map backE).reverse else []
theorem outBackLine_le (ts : List El) : (outBackLine ts).length ≤ 32 := by
  unfold outBackLine
  split
  · rename_i h
    unfold okBackLine at h
    rw [Bool.and_eq_true] at h
    have := okLine_len h.1
    simpa using this
  · simp
theorem backE_ok {t : El} (h : t.ok) : (backE t).ok := by
  unfold backE
  split
  · exact h
  · exact ⟨h.k0, h.k1, (ng_bits h.wn).2.2, h.wp⟩
theorem outBackLine_ok (ts : List El) (h : oksE ts) : oksE (outBackLine ts) := by
  unfold outBackLine
  split
  · intro t ht
    obtain ⟨u, hu, rfl⟩ := List.mem_map.1 (List.mem_reverse.1 ht)
    exact backE_ok (h u hu)
  · intro t ht; cases ht
/-- What is made when the first k are still to come. -/
def bkTo (ts : List El) (k : Nat) : List El := ((ts.drop k).map backE).reverse
theorem bkTo_len (ts : List El) : bkTo ts ts.length = [] := by simp [bkTo]
theorem bkTo_zero (ts : List El) : bkTo ts 0 = (ts.map backE).reverse := by simp [bkTo]
theorem bkTo_step (ts : List El) {k : Nat} (h : k < ts.length) : bkTo ts k = bkTo ts (k + 1) ++ [backE ts[k]] := by
  unfold bkTo
  rw [List.drop_eq_getElem_cons h, List.map_cons, List.reverse_cons]
theorem bkTo_size (ts : List El) {k : Nat} (h : k ≤ ts.length) : (bkTo ts k).length = ts.length - k := by simp [bkTo]
theorem noRes_no {ts : List El} {k : Nat} (hk : k < ts.length) (h : ts[k].k = 4) : noRes ts = false := by
  unfold noRes
  rw [List.all_eq_false]
  exact ⟨ts[k], List.getElem_mem hk, by simp [h]⟩
theorem noRes_all {ts : List El} (h : ∀ j (hj : j < ts.length), ts[j].k ≠ 4) : noRes ts = true := by
  unfold noRes
  rw [List.all_eq_true]
  intro t ht
  obtain ⟨j, hj, rfl⟩ := List.mem_iff_getElem.1 ht
  simpa using h j hj
theorem okB_no {ts : List El} (h : okLine ts = false ∨ noRes ts = false) : okBackLine ts = false ∧ outBackLine ts = [] := by
  have e : okBackLine ts = false := by unfold okBackLine; rcases h with h | h <;> rw [h] <;> simp
  exact ⟨e, by unfold outBackLine; rw [e]; rfl⟩
theorem okB_yes {ts : List El} (h : okLine ts = true) (h2 : noRes ts = true) : okBackLine ts = true ∧ outBackLine ts = bkTo ts 0 := by
  have e : okBackLine ts = true := by unfold okBackLine; rw [h, h2]; rfl
  exact ⟨e, by unfold outBackLine; rw [e, bkTo_zero]; rfl⟩
theorem eown_none (B : Nat) (w : World) : EOwn B w (.slice none 0 0) [] := World.ownsRow_nil w B 67 3
theorem info_e3 : (Try.prog.info? 67).map (·.size) = some 3 := by kernel_rfl
theorem eone (k : Int) (x y : Nat) : (#[Value.int .i64 k, .float .f32 x, .float .f32 y] : Array Value).all (·.oneCell') = true := by first | rfl | (simp [Value.oneCell']; done)

def HaltE (p : Prop) : Prop := p
theorem haltE {p : Prop} (h : HaltE p) : p := h
theorem wpList_appE {ops : Array Oper} {rest : List Oper} {o : Oper} {a : Act} {w : World} {Q : Exit → Act → World → Prop} (hgd : o.guard = none) (s x : Operand) (ho : o.op = .call { callee := .builtin .append, args := #[s, x], argTypes := #[37, 37] })
    (B : Nat) (v : Value) (n : Nat) (xs : List El) (hs : a.eval s = v) (hown : EOwn B w v xs) (hl : xs.length = n) (g c : Nat) (hx : a.eval x = .slice (some ⟨g, 0, none⟩) 1 c) (k0 : Int) (n0 p0 : Nat) (hb : w.heap[g]? = some (.cells #[.int .i64 k0, .float .f32 n0, .float .f32 p0] 67))
    (hn : n ≤ 1000) (hB : B ≤ w.heap.size)
    (h : ∀ g' cap' w', EOwn B w' (.slice (some ⟨g', 0, none⟩) (n + 1) cap') (xs ++ [⟨k0, n0, p0⟩]) → w.grownBy w' v.ownBlock → wpList Try.prog ops Q rest (a.put o.dst (.slice (some ⟨g', 0, none⟩) (n + 1) cap')) w') : wpList Try.prog ops Q (o :: rest) a w := by
  obtain ⟨ti, hi, hz0, hz1, hz2⟩ := info_parts Einfo
  subst hl
  refine wpList_append_own w hgd s x 37 ho B 67 ti (.agg #[.int .i64 0, .float .f32 0, .float .f32 0]) 3 16 Try.underlying37 hi hz0 hz1 hz2 rfl (by decide) v xs.length (cells3 xs) hs hown ⟨g, 0, none⟩ 1 c [.int .i64 k0, .float .f32 n0, .float .f32 p0] hx rfl (World.news_of_block (cs := #[.int .i64 k0, .float .f32 n0, .float .f32 p0]) (t := 67) (fr := (0, 0)) hb) (by intro u hu; simp at hu; rcases hu with rfl | rfl | rfl <;> rfl) (by unfold maxLen; omega) (by omega) hB ?_
  intro v' w' hown' hgrow _
  obtain ⟨g2, cap2, rfl⟩ := Joins.ownsRow_form hown' (by omega)
  refine h g2 cap2 w' ?_ hgrow
  unfold EOwn
  rw [cells3_app, List.length_append, List.length_singleton]
  exact hown'

set_option maxHeartbeats 2000000 in
set_option maxRecDepth 100000 in
theorem sBackLine_any (B : Nat) (v : Value) (ts : List El) (w : World) (hv : EOwn B w v ts) (h : oksE ts) (hn : ts.length ≤ 1048576) :
    Calls Try.prog 31 #[v] w fun e w' => (∃ r, e = .returned (.tuple #[r, .bool (okBackLine ts)]) ∧ EOwn w.heap.size w' r (outBackLine ts)) ∧ Below w.heap.size w w' := by
  obtain ⟨a0, cap0, rfl, hf⟩ := e_form hv
  have hcm := e_cap hv
  unfold maxLen at hcm
  have HV := Lib.hid hv; have HO := Lib.hid h
  obtain ⟨ok, hok⟩ : ∃ ok, okBackLine ts = ok := ⟨_, rfl⟩
  obtain ⟨R, hR⟩ : ∃ R, outBackLine ts = R := ⟨_, rfl⟩
  rw [hok, hR]
  have HOK := Lib.hid hok; have HR := Lib.hid hR
  clear hok hR hv h
  obtain ⟨p, hp⟩ : ∃ p, okLine ts = p := ⟨_, rfl⟩
  have HP := Lib.hid hp
  clear hp
  go_enter Try.func31, Try.ntmps31
  go_wp2_with fail
  refine (sLine_any B _ ts _ HV.out HO.out hn).mono ?_
  rw [HP.out]
  rintro e w' ⟨rfl, m, rfl⟩
  cases p with
  | false =>
    have HN := Lib.hid (okB_no (.inl HP.out))
    obtain rfl : ok = false := HOK.out.symm.trans HN.out.1
    obtain rfl : R = [] := HR.out.symm.trans HN.out.2
    go_wp2_with fail
    go_ret2
    exact ⟨⟨_, rfl, eown_none _ _⟩, below_drewN (Below.refl _ _) _⟩
  | true =>
    have hL := okLine_len HP.out
    have HB5 := Lib.hid ((below_drewN (Below.refl w.heap.size w) m).alloc (Nat.le_refl _) (.cells #[] 67))
    have HO5 := Lib.hid (show EOwn w.heap.size ((w.drewN m).alloc (.cells #[] 67)) (.slice (some ⟨w.heap.size, 0, none⟩) 0 0) (bkTo ts ts.length) from by rw [bkTo_len]; exact World.ownsRow_made (w.drewN m) #[] 0 (Nat.le_refl _) (Nat.zero_le _) rfl)
    have hw : wrap64 ((ts.length : Int) - 1) = (ts.length : Int) - 1 := by unfold wrap64; omega
    go_wp2_with fail
    go_loopw [4, 5] (fun v i wr => ∃ k : Nat, k ≤ ts.length ∧ i = .int .i64 ((k : Int) - 1) ∧ Hid (Below w.heap.size w wr) ∧ Hid (∀ j (hj : j < ts.length), k ≤ j → ts[j].k ≠ 4) ∧ Hid (EOwn w.heap.size wr v (bkTo ts k))) (fun _ i _ => (intOf i + 1).toNat)
    case atStart => exact ⟨ts.length, Nat.le_refl _, rfl, HB5, Lib.hid (fun j hj h => absurd hj (by omega)), HO5⟩
    case round =>
      clear HB5 HO5 hw
      obtain ⟨k, hk, rfl, HB, HA, HW⟩ := hrel
      obtain ⟨a, cap, ev, _⟩ := e_form HW.out
      rw [bkTo_size ts hk] at ev
      subst ev
      by_cases hlt : 0 < k
      · obtain ⟨j, rfl⟩ : ∃ j, k = j + 1 := ⟨k - 1, by omega⟩
        rw [show (((j + 1 : Nat) : Int) - 1) = (j : Int) by omega] at *
        have hlj : j < ts.length := by omega
        rcases hf with hf | ⟨g, rfl, _, hg⟩
        · subst hf; simp at hlj
        obtain ⟨c0, c1, c2⟩ := (e_cells (e_below HV.out HB.out) hlj).1
        have HLJ := Lib.hid hlj
        have HST := Lib.hid (bkTo_step ts hlj)
        have HNR := Lib.hid (show ts[j].k = 4 → noRes ts = false from noRes_no hlj)
        generalize htj : ts[j] = t at c0 c1 c2 HST HNR
        have HTJ := Lib.hid htj
        have HSZ := Lib.hid (bkTo_size ts hk)
        have HOA := Lib.hid (show ∀ Z Z2, EOwn w.heap.size ((wr.alloc Z).alloc Z2) (.slice a (ts.length - (j + 1)) cap) (bkTo ts (j + 1)) from fun Z Z2 => e_below HW.out (((Below.refl wr.heap.size wr).alloc (Nat.le_refl _) Z).alloc (by simp) Z2))
        have HNB := Lib.hid (show ∀ Z Z2, ((wr.alloc Z).alloc Z2).heap[wr.heap.size + 1]? = some Z2 from fun Z Z2 => by
          have := heap_alloc_new (wr.alloc Z) Z2
          rwa [World.size_alloc] at this)
        have HSB := Lib.hid (show ∀ Z Z2, w.heap.size ≤ ((wr.alloc Z).alloc Z2).heap.size from fun Z Z2 => by have := HB.out.size; simp; omega)
        have HBA := Lib.hid (show ∀ Z Z2 W, ((wr.alloc Z).alloc Z2).grownBy W (Value.slice a (ts.length - (j + 1)) cap).ownBlock → Below w.heap.size w W from fun Z Z2 W hg => ((HB.out.alloc HB.out.size Z).alloc (by have := HB.out.size; simp; omega) Z2).grown hg (HSB.out Z Z2) (fun i hi => (HW.out.lt i hi).1))
        clear htj hlj
        by_cases e4 : t.k = 4
        · have HN := Lib.hid (okB_no (ts := ts) (.inr (HNR.out e4)))
          obtain rfl : ok = false := HOK.out.symm.trans HN.out.1
          obtain rfl : R = [] := HR.out.symm.trans HN.out.2
          go_wp2_with fail
          go_ret2
          exact ⟨⟨_, rfl, eown_none _ _⟩, HB.out.alloc HB.out.size _⟩
        · have HA2 := Lib.hid (show ∀ i (hi : i < ts.length), j ≤ i → ts[i].k ≠ 4 from fun i hi h1 => by
            by_cases e : i = j
            · subst e; exact fun h => e4 ((congrArg El.k HTJ.out).symm.trans h)
            · exact HA.out i hi (by omega))
          by_cases e2 : t.k = 2
          · have HBE := Lib.hid (show bkTo ts j = bkTo ts (j + 1) ++ [⟨2, t.n, t.p⟩] from HST.out.trans (by unfold backE; rw [if_pos e2, ← e2]))
            go_wp2_with (at_builtin; refine haltE ?_)
            unfold HaltE
            refine wpList_appE rfl _ _ rfl w.heap.size _ (ts.length - (j + 1)) (bkTo ts (j + 1)) rfl (HOA.out _ _) HSZ.out (wr.heap.size + 1) 1 rfl _ _ _ (HNB.out _ _) (by omega) (HSB.out _ _) ?_
            intro g2 cap2 w2 hO2 hg2
            have HO2 := Lib.hid (show EOwn w.heap.size w2 (.slice (some ⟨g2, 0, none⟩) (ts.length - (j + 1) + 1) cap2) (bkTo ts j) from by rw [HBE.out]; exact hO2)
            have HB2 := Lib.hid (HBA.out _ _ _ hg2)
            clear hO2 hg2
            go_wp2_with fail
            go_roundw
            case rel => exact ⟨j, by omega, by go_num, HB2, HA2, HO2⟩
            case measure => simp [intOf]
          · have HBE := Lib.hid (show bkTo ts j = bkTo ts (j + 1) ++ [⟨t.k, Op.negFloat .f32 t.n, t.p⟩] from HST.out.trans (by unfold backE; rw [if_neg e2]))
            go_wp2_with (at_builtin; refine haltE ?_)
            unfold HaltE
            refine wpList_appE rfl _ _ rfl w.heap.size _ (ts.length - (j + 1)) (bkTo ts (j + 1)) rfl (HOA.out _ _) HSZ.out (wr.heap.size + 1) 1 rfl _ _ _ (HNB.out _ _) (by omega) (HSB.out _ _) ?_
            intro g2 cap2 w2 hO2 hg2
            have HO2 := Lib.hid (show EOwn w.heap.size w2 (.slice (some ⟨g2, 0, none⟩) (ts.length - (j + 1) + 1) cap2) (bkTo ts j) from by rw [HBE.out]; exact hO2)
            have HB2 := Lib.hid (HBA.out _ _ _ hg2)
            clear hO2 hg2
            go_wp2_with fail
            go_roundw
            case rel => exact ⟨j, by omega, by go_num, HB2, HA2, HO2⟩
            case measure => simp [intOf]
      · obtain rfl : k = 0 := by omega
        have HN := Lib.hid (okB_yes HP.out (noRes_all (fun j hj => HA.out j hj (Nat.zero_le _))))
        obtain rfl : ok = true := HOK.out.symm.trans HN.out.1
        obtain rfl : R = bkTo ts 0 := HR.out.symm.trans HN.out.2
        clear hlt
        go_wp2_with fail
        go_ret2
        exact ⟨⟨_, rfl, HW.out⟩, HB.out⟩
end Go.Proofs.Ytpnmledanloboaa
