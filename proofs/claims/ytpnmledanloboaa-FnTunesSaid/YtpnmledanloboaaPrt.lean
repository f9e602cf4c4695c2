/-
  Lines as lists of parts, of the program; which lines are valid.
-/
import Derived.Test.YtpnmledanloboaaEvp
namespace Go.Proofs.Ytpnmledanloboaa
open Go.Fl Go.RowKit
set_option linter.unusedSimpArgs false
set_option linter.unusedVariables false

theorem Pinfo : (Try.prog.info? 94).map (fun i => (i.zero, i.size, i.bytes)) = some (some .nilIface, 1, 16) := by kernel_rfl
/-- The parts of a line, in memory of the call's own. -/
def PO (B : Nat) (w : World) (v : Value) (ts : List El) : Prop := w.ownsRow B 94 1 v ts.length (ts.map partV)
theorem po_form {B : Nat} {w : World} {v : Value} {xs : List El} (h : PO B w v xs) : ∃ a cap, v = .slice a xs.length cap ∧ (xs = [] ∨ ∃ g, a = some ⟨g, 0, none⟩ ∧ B ≤ g ∧ g < w.heap.size) := by
  have hl := h.lt
  rcases h.2 with ⟨rfl, h0⟩ | ⟨g, cap, cur, rfl, hB, _⟩
  · exact ⟨none, 0, by rw [h0], .inl (List.length_eq_zero_iff.1 h0)⟩
  · exact ⟨_, _, rfl, .inr ⟨g, rfl, hl g rfl⟩⟩
theorem po_below {B : Nat} {w w' : World} {v : Value} {xs : List El} (h : PO B w v xs) (hb : Below w.heap.size w w') : PO B w' v xs :=
  World.ownsRow.kept h (grown_below (row := none) hb) (by cases v.ownBlock <;> simp)
theorem po_cell {B : Nat} {w : World} {g n cap : Nat} {xs : List El} (h : PO B w (.slice (some ⟨g, 0, none⟩) n cap) xs) {k : Nat} (hk : k < xs.length) : w.cell? ⟨g, k, none⟩ = some (partV xs[k]) := by
  obtain ⟨a, cap', e, _⟩ := po_form h
  simp only [Value.slice.injEq] at e
  obtain ⟨_, rfl, _⟩ := e
  unfold PO at h
  rw [h.cellAt k (by omega)]
  simp [hk]
theorem okLine_at {ts : List El} (h : okLine ts = true) {k : Nat} (hk : k < ts.length) : okEl ts[k] = true := by
  unfold okLine at h
  rw [Bool.and_eq_true] at h
  exact List.all_eq_true.1 h.2 _ (List.getElem_mem hk)
theorem okLine_len {ts : List El} (h : okLine ts = true) : ts.length ≤ 32 := by
  unfold okLine at h
  rw [Bool.and_eq_true] at h
  exact of_decide_eq_true h.1

theorem partV_form (t : El) : ∃ T u, partV t = .iface T u := by
  unfold partV
  split <;> (try split) <;> (try split) <;> (try split) <;> exact ⟨_, _, rfl⟩
def PartsRes (w w' : World) (e : Ending) (ts : List El) (q : Bool) : Prop := (∃ v, e = .returned (.tuple #[v, .bool q]) ∧ (q = true → PO w.heap.size w' v ts)) ∧ Below w.heap.size w w'
set_option maxHeartbeats 2000000 in
set_option maxRecDepth 100000 in
theorem iParts_any (B : Nat) (v : Value) (ts : List El) (w : World) (hv : EOwn B w v ts) (h : oksE ts) (hn : ts.length ≤ 1048576) : Calls Try.prog 68 #[v] w fun e w' => PartsRes w w' e ts (okLine ts) := by
  obtain ⟨a, cap, rfl, hf⟩ := e_form hv
  have hcm := e_cap hv
  unfold maxLen at hcm
  have HU := Lib.hid hv; have HO := Lib.hid h
  clear hv h
  obtain ⟨q, hq⟩ : ∃ q, okLine ts = q := ⟨_, rfl⟩
  rw [hq]
  have HQ := Lib.hid hq
  clear hq
  by_cases hl : ts.length ≤ 32
  · have hd : decide ((32 : Int) < (ts.length : Int)) = false := by simp; omega
    obtain ⟨i0, hi, hz0, hz1, hz2⟩ := info_parts Pinfo
    have hb4 : i0.bytes * ts.length ≤ 281474976710656 := by rw [hz2]; omega
    have hml : ts.length ≤ maxLen := by unfold maxLen; omega
    have HI := Lib.hid hi; have HZ0 := Lib.hid hz0; have HZ1 := Lib.hid hz1
    clear hi hz0 hz1 hz2
    go_enter Try.func68, Try.ntmps68
    go_wp2_with (at_make; refine wpList_make_full _ rfl _ _ 86 rfl w.heap.size 94 i0 .nilIface 1 Try.underlying86 HI.out HZ0.out HZ1.out _ _ _ _ ts.length rfl rfl rfl rfl hb4 hml (Nat.le_refl _) ?_; intro w4 hown hgrow)
    rw [Nat.mul_one, show (madeCells (Value.nilIface).cells ts.length).toList = cpv (ts.map partV) .nilIface 0 by
      rw [cpv_zero, List.length_map]; exact toList_madeCells_one _ _] at hown
    have HO0 := Lib.hid hown
    have HB0 := Lib.hid ((Below.refl w.heap.size w).grown hgrow (Nat.le_refl _) (fun k h => by cases h))
    clear hown hgrow hb4 hml HI HZ0 HZ1
    go_loopw [17] (fun i wr => ∃ k : Nat, k ≤ ts.length ∧ i = .int .i64 k ∧ Hid (Below w.heap.size w wr) ∧ Hid (w.heap.size < wr.heap.size) ∧ Hid (∀ j (hj : j < ts.length), j < k → okEl ts[j] = true) ∧ Hid (wr.ownsRow w.heap.size 94 1 (.slice (some ⟨w.heap.size, 0, none⟩) ts.length ts.length) ts.length (cpv (ts.map partV) .nilIface k))) (fun i _ => ts.length - (intOf i).toNat)
    case atStart => exact ⟨0, Nat.zero_le _, rfl, HB0, Lib.hid ((HO0.out.lt w.heap.size rfl).2), Lib.hid (fun j _ h => absurd h (Nat.not_lt_zero _)), HO0⟩
    case round =>
      clear HB0 HO0
      obtain ⟨k, hk, rfl, HB, HW, HA, HR⟩ := hrel
      by_cases hlt : k < ts.length
      · rcases hf with hf | ⟨g, rfl, _, hg⟩
        · subst hf; simp at hlt
        have HT := Lib.hid (oksE_at HO.out hlt)
        obtain ⟨c0, c1, c2⟩ := (e_cells (e_below HU.out HB.out) hlt).1
        have HLT := Lib.hid hlt
        have HX := Lib.hid (show (ts.map partV)[k]? = some (partV ts[k]) from by rw [List.getElem?_map, List.getElem?_eq_getElem hlt]; rfl)
        have HN := Lib.hid (show okEl ts[k] = false → okLine ts = false from fun hh => okLine_no hlt hh)
        generalize htk : ts[k] = t at HT HX c0 c1 c2 HN
        have HTK := Lib.hid htk
        clear htk
        obtain ⟨r, hr⟩ : ∃ r, okEl t = r := ⟨_, rfl⟩
        have HRQ := Lib.hid hr
        clear hr
        go_wp2_with fail
        refine (iPart_any t HT.out _).mono ?_
        rw [HRQ.out]
        rintro e w5 hp
        unfold PartRes at hp
        obtain ⟨⟨V, rfl, hV⟩, hb5⟩ := hp
        have HV := Lib.hid hV
        have hba := HB.out.alloc HB.out.size (.cells #[.int .i64 t.k, .float .f32 t.n, .float .f32 t.p] 67)
        have hbb := (Below.refl wr.heap.size wr).alloc (Nat.le_refl _) (.cells #[.int .i64 t.k, .float .f32 t.n, .float .f32 t.p] 67)
        have HB5 := Lib.hid (hba.trans (hb5.mono hba.size))
        have hbk := hbb.trans (hb5.mono hbb.size)
        have HR5 := Lib.hid (World.ownsRow.kept HR.out (grown_below (row := none) hbk) (by simp [Value.ownBlock]))
        have HW5 := Lib.hid (Nat.lt_of_lt_of_le HW.out hbk.size)
        clear hV hb5 hba hbb hbk c0 c1 c2
        cases r with
        | false =>
          have HF := Lib.hid (show q = false from HQ.out.symm.trans (HN.out HRQ.out))
          go_wp2_with fail
          go_ret2
          rw [HF.out]
          unfold PartsRes
          exact ⟨⟨_, rfl, fun h => by cases h⟩, HB5.out⟩
        | true =>
          obtain ⟨T, u, hpv⟩ := partV_form t
          obtain rfl : V = .iface T u := (HV.out rfl).trans hpv
          have hw0 := HR5.out.cellAt k (by have := HLT.out; omega)
          rw [cpv_get _ _ k (by simpa using HLT.out)] at hw0
          have hfz := HR5.out.frozenAt k
          have hst := (HR5.out.stored k (partV t)).1
          rw [cpv_set _ _ _ k (by simpa using HLT.out) HX.out] at hst
          rw [hpv] at hst
          have HST := Lib.hid hst
          clear hst hpv
          go_wp2_with fail
          go_roundw
          case rel => exact ⟨k + 1, by omega, by go_num, Lib.hid (HB5.out.setCell (p := ⟨w.heap.size, k, none⟩) (Nat.le_refl _) _), Lib.hid (by simpa using HW5.out), Lib.hid (fun j hj h1 => by
            by_cases e : j < k
            · exact HA.out j hj e
            · obtain rfl : j = k := by omega
              exact (congrArg okEl HTK.out).trans HRQ.out), HST⟩
          case measure => simp [intOf]; omega
      · obtain rfl : k = ts.length := by omega
        have HR2 := HR.out
        rw [show cpv (ts.map partV) .nilIface ts.length = ts.map partV by rw [← List.length_map (f := partV)]; exact cpv_all _ _] at HR2
        have HR3 := Lib.hid HR2
        have HF := Lib.hid (show q = true from HQ.out.symm.trans ((okLine_all (fun j hj => HA.out j hj hj)).trans (by simpa using hl)))
        clear hlt HR2
        go_wp2
        go_ret2
        rw [HF.out]
        unfold PartsRes
        exact ⟨⟨_, rfl, fun _ => HR3.out⟩, HB.out⟩
  · have hd : decide ((32 : Int) < (ts.length : Int)) = true := by simp; omega
    have HF := Lib.hid (show q = false from HQ.out.symm.trans (by unfold okLine; rw [decide_eq_false hl]; rfl))
    go_enter Try.func68, Try.ntmps68
    go_wp2
    go_ret2
    rw [HF.out]
    unfold PartsRes
    exact ⟨⟨_, rfl, fun h => by cases h⟩, Below.refl _ _⟩
abbrev okValidLine (ts : List El) : Bool := okLine ts
theorem iValidLine_any (B : Nat) (v : Value) (ts : List El) (w : World) (hv : EOwn B w v ts) (h : oksE ts) (hn : ts.length ≤ 1048576) : Calls Try.prog 29 #[v] w fun e w' => e = .returned (.bool (okValidLine ts)) ∧ Below w.heap.size w w' := by
  have HV := Lib.hid hv; have HO := Lib.hid h
  clear hv h
  go_enter Try.func29, Try.ntmps29
  go_wp2_with fail
  refine (iParts_any B v ts _ HV.out HO.out hn).mono ?_
  rintro e w1 hp
  unfold PartsRes at hp
  obtain ⟨⟨p, rfl, _⟩, hb⟩ := hp
  go_wp2_with fail
  go_ret
  exact ⟨rfl, hb⟩
theorem sValidLine_any (B : Nat) (v : Value) (ts : List El) (w : World) (hv : EOwn B w v ts) (h : oksE ts) (hn : ts.length ≤ 1048576) : Calls Try.prog 27 #[v] w fun e w' => e = .returned (.bool (okValidLine ts)) ∧ Below w.heap.size w w' := by
  have HV := Lib.hid hv; have HO := Lib.hid h
  clear hv h
  go_enter Try.func27, Try.ntmps27
  go_wp2_with fail
  refine (sLine_any B v ts _ HV.out HO.out hn).mono ?_
  rintro e w1 ⟨rfl, n, rfl⟩
  go_wp2_with fail
  go_ret
  exact ⟨rfl, below_drewN (Below.refl _ _) _⟩
end Go.Proofs.Ytpnmledanloboaa
