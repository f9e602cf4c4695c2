/-
  Lines that begin anywhere in memory: parts, matrices, rays behind them.
-/
import Derived.Test.YtpnmledanloboaaPas
import Derived.Test.YtpnmledanloboaaLmb
namespace Go.Proofs.Ytpnmledanloboaa
open Go.Fl Go.RowKit
set_option linter.unusedSimpArgs false
set_option linter.unusedVariables false

theorem es_oks {w : World} {v : Value} {xs : List El} (h : ES w v xs) : oksE xs := by obtain ⟨_, _, _, _, _, h, _⟩ := h; exact h
theorem es_cells {w : World} {g off n cap : Nat} {xs : List El} (h : ES w (.slice (some ⟨g, off, none⟩) n cap) xs) {k : Nat} (hk : k < xs.length) :
    w.cell? ⟨g, off + k * 3, none⟩ = some (.int .i64 xs[k].k) ∧ w.cell? ⟨g, off + k * 3 + 1, none⟩ = some (.float .f32 xs[k].n) ∧ w.cell? ⟨g, off + k * 3 + 2, none⟩ = some (.float .f32 xs[k].p) := by
  obtain ⟨a, c, e, _, _, _, h4⟩ := h
  simp only [Value.slice.injEq] at e
  rcases h4 with h4 | ⟨b, o, ha, _, hc⟩
  · subst h4; simp at hk
  · rw [← e.1] at ha
    simp only [Option.some.injEq, Addr.mk.injEq] at ha
    obtain ⟨rfl, rfl, _⟩ := ha
    exact hc k hk
set_option maxHeartbeats 2000000 in
set_option maxRecDepth 100000 in
theorem iPartsE_any (v : Value) (ts : List El) (w : World) (hv : ES w v ts) (hn : ts.length ≤ 1048576) : Calls Try.prog 68 #[v] w fun e w' => PartsRes w w' e ts (okLine ts) := by
  have HU := Lib.hid hv
  obtain ⟨a, cap, rfl, hlc, hcm, hoks, hf⟩ := hv
  unfold maxLen at hcm
  have HO := Lib.hid hoks
  clear hoks
  obtain ⟨q, hq⟩ : ∃ q, okLine ts = q := ⟨_, rfl⟩
  rw [hq]
  have HQ := Lib.hid hq
  clear hq
  by_cases hl : ts.length ≤ 32
  · have hd : decide ((32 : Int) < (ts.length : Int)) = false := by simp; omega
    obtain ⟨i0, hi, hz0, hz1, hz2⟩ := info_parts Pinfo
    have hb4 : i0.bytes * ts.length ≤ 281474976710656 := by rw [hz2]; omega
    have hml : ts.length ≤ maxLen := by unfold maxLen; omega
    have HI := Lib.hid hi; have HZ0 := Lib.hid hz0; have HZ1 := Lib.hid hz1
    clear hi hz0 hz1 hz2
    go_enter Try.func68, Try.ntmps68
    go_wp2_with (at_make; refine wpList_make_full _ rfl _ _ 86 rfl w.heap.size 94 i0 .nilIface 1 Try.underlying86 HI.out HZ0.out HZ1.out _ _ _ _ ts.length rfl rfl rfl rfl hb4 hml (Nat.le_refl _) ?_; intro w4 hown hgrow)
    rw [Nat.mul_one, show (madeCells (Value.nilIface).cells ts.length).toList = cpv (ts.map partV) .nilIface 0 by
      rw [cpv_zero, List.length_map]; exact toList_madeCells_one _ _] at hown
    have HO0 := Lib.hid hown
    have HB0 := Lib.hid ((Below.refl w.heap.size w).grown hgrow (Nat.le_refl _) (fun k h => by cases h))
    clear hown hgrow hb4 hml HI HZ0 HZ1
    go_loopw [17] (fun i wr => ∃ k : Nat, k ≤ ts.length ∧ i = .int .i64 k ∧ Hid (Below w.heap.size w wr) ∧ Hid (w.heap.size < wr.heap.size) ∧ Hid (∀ j (hj : j < ts.length), j < k → okEl ts[j] = true) ∧ Hid (wr.ownsRow w.heap.size 94 1 (.slice (some ⟨w.heap.size, 0, none⟩) ts.length ts.length) ts.length (cpv (ts.map partV) .nilIface k))) (fun i _ => ts.length - (intOf i).toNat)
    case atStart => exact ⟨0, Nat.zero_le _, rfl, HB0, Lib.hid ((HO0.out.lt w.heap.size rfl).2), Lib.hid (fun j _ h => absurd h (Nat.not_lt_zero _)), HO0⟩
    case round =>
      clear HB0 HO0
      obtain ⟨k, hk, rfl, HB, HW, HA, HR⟩ := hrel
      by_cases hlt : k < ts.length
      · rcases hf with hf | ⟨g, off, rfl, hg, _⟩
        · subst hf; simp at hlt
        have HT := Lib.hid (oksE_at HO.out hlt)
        obtain ⟨c0, c1, c2⟩ := es_cells (HU.out.below HB.out) hlt
        have HLT := Lib.hid hlt
        have HX := Lib.hid (show (ts.map partV)[k]? = some (partV ts[k]) from by rw [List.getElem?_map, List.getElem?_eq_getElem hlt]; rfl)
        have HN := Lib.hid (show okEl ts[k] = false → okLine ts = false from fun hh => okLine_no hlt hh)
        generalize htk : ts[k] = t at HT HX c0 c1 c2 HN
        have HTK := Lib.hid htk
        clear htk
        obtain ⟨r, hr⟩ : ∃ r, okEl t = r := ⟨_, rfl⟩
        have HRQ := Lib.hid hr
        clear hr
        go_wp2_with fail
        refine (iPart_any t HT.out _).mono ?_
        rw [HRQ.out]
        rintro e w5 hp
        unfold PartRes at hp
        obtain ⟨⟨V, rfl, hV⟩, hb5⟩ := hp
        have HV := Lib.hid hV
        have hba := HB.out.alloc HB.out.size (.cells #[.int .i64 t.k, .float .f32 t.n, .float .f32 t.p] 67)
        have hbb := (Below.refl wr.heap.size wr).alloc (Nat.le_refl _) (.cells #[.int .i64 t.k, .float .f32 t.n, .float .f32 t.p] 67)
        have HB5 := Lib.hid (hba.trans (hb5.mono hba.size))
        have hbk := hbb.trans (hb5.mono hbb.size)
        have HR5 := Lib.hid (World.ownsRow.kept HR.out (grown_below (row := none) hbk) (by simp [Value.ownBlock]))
        have HW5 := Lib.hid (Nat.lt_of_lt_of_le HW.out hbk.size)
        clear hV hb5 hba hbb hbk c0 c1 c2
        cases r with
        | false =>
          have HF := Lib.hid (show q = false from HQ.out.symm.trans (HN.out HRQ.out))
          go_wp2_with fail
          go_ret2
          rw [HF.out]
          unfold PartsRes
          exact ⟨⟨_, rfl, fun h => by cases h⟩, HB5.out⟩
        | true =>
          obtain ⟨T, u, hpv⟩ := partV_form t
          obtain rfl : V = .iface T u := (HV.out rfl).trans hpv
          have hw0 := HR5.out.cellAt k (by have := HLT.out; omega)
          rw [cpv_get _ _ k (by simpa using HLT.out)] at hw0
          have hfz := HR5.out.frozenAt k
          have hst := (HR5.out.stored k (partV t)).1
          rw [cpv_set _ _ _ k (by simpa using HLT.out) HX.out] at hst
          rw [hpv] at hst
          have HST := Lib.hid hst
          clear hst hpv
          go_wp2_with fail
          go_roundw
          case rel => exact ⟨k + 1, by omega, by go_num, Lib.hid (HB5.out.setCell (p := ⟨w.heap.size, k, none⟩) (Nat.le_refl _) _), Lib.hid (by simpa using HW5.out), Lib.hid (fun j hj h1 => by
            by_cases e : j < k
            · exact HA.out j hj e
            · obtain rfl : j = k := by omega
              exact (congrArg okEl HTK.out).trans HRQ.out), HST⟩
          case measure => simp [intOf]; omega
      · obtain rfl : k = ts.length := by omega
        have HR2 := HR.out
        rw [show cpv (ts.map partV) .nilIface ts.length = ts.map partV by rw [← List.length_map (f := partV)]; exact cpv_all _ _] at HR2
        have HR3 := Lib.hid HR2
        have HF := Lib.hid (show q = true from HQ.out.symm.trans ((okLine_all (fun j hj => HA.out j hj hj)).trans (by simpa using hl)))
        clear hlt HR2
        go_wp2
        go_ret2
        rw [HF.out]
        unfold PartsRes
        exact ⟨⟨_, rfl, fun _ => HR3.out⟩, HB.out⟩
  · have hd : decide ((32 : Int) < (ts.length : Int)) = true := by simp; omega
    have HF := Lib.hid (show q = false from HQ.out.symm.trans (by unfold okLine; rw [decide_eq_false hl]; rfl))
    go_enter Try.func68, Try.ntmps68
    go_wp2
    go_ret2
    rw [HF.out]
    unfold PartsRes
    exact ⟨⟨_, rfl, fun h => by cases h⟩, Below.refl _ _⟩
set_option maxHeartbeats 2000000 in
set_option maxRecDepth 100000 in
theorem iLineE_any (v : Value) (ts : List El) (w : World) (hv : ES w v ts) (hn : ts.length ≤ 1048576) : Calls Try.prog 72 #[v] w fun e w' => LineRes w w' e ts (okLine ts) := by
  have h := es_oks hv
  have HRES := Lib.hid (show Try.f72.results = #[.cell 2 78, .tmp 3] by kernel_rfl)
  have HB0 := Lib.hid ((Below.refl w.heap.size w).alloc (Nat.le_refl _) (MO 0 0 0 0))
  have HZ0 := Lib.hid (heap_alloc_new w (MO 0 0 0 0))
  have HV := Lib.hid (hv.below ((Below.refl w.heap.size w).alloc (Nat.le_refl _) (MO 0 0 0 0))); have HO := Lib.hid h
  have HS0 := Lib.hid (show (w.alloc (MO 0 0 0 0)).heap.size = w.heap.size + 1 by simp)
  clear hv h
  obtain ⟨q, hq⟩ : ∃ q, okLine ts = q := ⟨_, rfl⟩
  rw [hq]
  have HQ := Lib.hid hq
  clear hq
  go_enter Try.func72, Try.ntmps72
  go_wp2_with fail
  generalize w.alloc (MO 0 0 0 0) = w1 at HB0 HZ0 HV HS0 ⊢
  refine (iPartsE_any v ts _ HV.out hn).mono ?_
  rw [HQ.out]
  rintro e w2 hp
  unfold PartsRes at hp
  obtain ⟨⟨u, rfl, hu⟩, hb2⟩ := hp
  have HU := Lib.hid hu
  have HB2 := Lib.hid (HB0.out.trans (hb2.mono HB0.out.size))
  have HZ2 := Lib.hid ((hb2.block w.heap.size (by rw [HS0.out]; omega)).trans HZ0.out)
  have HS2 := Lib.hid (show w.heap.size < w2.heap.size from Nat.lt_of_lt_of_le (by rw [HS0.out]; omega) hb2.size)
  clear hu hb2
  cases q with
  | false =>
    go_wp2_with ((with_reducible show wpList _ _ _ (Oper.mk none (Op.store _ _ _) _ _ _ _ :: _) _ _); refine wpList_store_row rfl 78 _ _ rfl w.heap.size (MC 0 0 0 0) rfl rfl 78 _ HZ2.out info_m4 rfl (mone _ _ _ _) ?_)
    have HZ3 := Lib.hid (setRow_heap w2 w.heap.size _ (MC 0 0 0 0) _ _ HZ2.out)
    refine bodyPost_ret (v := .tuple #[MV 0 0 0 0, .bool false]) ?_ rfl ?_
    · have z0 : (w2.setRow w.heap.size (MC 0 0 0 0)).cell? ⟨w.heap.size, 0, none⟩ = some (.float .f32 0) := by rw [Joins.cell_of_block HZ3.out]; rfl
      have z1 : (w2.setRow w.heap.size (MC 0 0 0 0)).cell? ⟨w.heap.size, 1, none⟩ = some (.float .f32 0) := by rw [Joins.cell_of_block HZ3.out]; rfl
      have z2 : (w2.setRow w.heap.size (MC 0 0 0 0)).cell? ⟨w.heap.size, 2, none⟩ = some (.float .f32 0) := by rw [Joins.cell_of_block HZ3.out]; rfl
      have z3 : (w2.setRow w.heap.size (MC 0 0 0 0)).cell? ⟨w.heap.size, 3, none⟩ = some (.float .f32 0) := by rw [Joins.cell_of_block HZ3.out]; rfl
      have hres := HRES.out
      simp only [results, hres]; go_simp
    · unfold LineRes
      refine ⟨⟨0, 0, 0, 0, rfl, ?_, ?_⟩, below_setRow HB2.out (Nat.le_refl _) _⟩
      · intro h; cases h
      · intro _; exact ⟨rfl, rfl, rfl, rfl⟩
  | true => 
    obtain ⟨a0, cap0, rfl, hf⟩ := po_form (HU.out rfl)
    have HP := Lib.hid (HU.out rfl)
    have HL32 := Lib.hid (okLine_len HQ.out)
    go_wp2_with fail
    have HB3 := Lib.hid (HB2.out.alloc HB2.out.size (MO 1065353216 0 0 1065353216))
    have HX3 := Lib.hid ((Below.refl w2.heap.size w2).alloc (Nat.le_refl _) (MO 1065353216 0 0 1065353216))
    have HM3 := Lib.hid (heap_alloc_new w2 (MO 1065353216 0 0 1065353216))
    go_loopw [20] (fun i wr => ∃ k : Nat, k ≤ ts.length ∧ i = .int .i64 k ∧ Hid (Below w.heap.size w wr) ∧ Hid (Below w2.heap.size w2 wr) ∧ ∃ a b c d, Hid (wr.heap[w2.heap.size]? = some (MO a b c d)) ∧ Hid (Is4 a b c d (lineM ts k))) (fun i _ => ts.length - (intOf i).toNat)
    case atStart => exact ⟨0, Nat.zero_le _, rfl, HB3, HX3, _, _, _, _, HM3, Lib.hid id4⟩
    case round =>
      clear HB3 HX3 HM3
      obtain ⟨k, hk, rfl, HB, HX, a, b, c, d, HM, HI⟩ := hrel
      by_cases hlt : k < ts.length
      · rcases hf with hf | ⟨g, rfl, hg1, hg2⟩
        · subst hf; simp at hlt
        have HT := Lib.hid (oksE_at HO.out hlt)
        have p0 := po_cell (po_below HP.out HX.out) hlt
        have HSU := Lib.hid (show lineM ts (k + 1) = timesF (matP ts[k]) (lineM ts k) from by simp [lineM, List.getD, hlt])
        generalize ts[k] = t at HT p0 HSU
        have c0 : wr.cell? ⟨w2.heap.size, 0, none⟩ = some (.float .f32 a) := by rw [Joins.cell_of_block HM.out]; rfl
        have c1 : wr.cell? ⟨w2.heap.size, 1, none⟩ = some (.float .f32 b) := by rw [Joins.cell_of_block HM.out]; rfl
        have c2 : wr.cell? ⟨w2.heap.size, 2, none⟩ = some (.float .f32 c) := by rw [Joins.cell_of_block HM.out]; rfl
        have c3 : wr.cell? ⟨w2.heap.size, 3, none⟩ = some (.float .f32 d) := by rw [Joins.cell_of_block HM.out]; rfl
        have hlu : w2.heap.size < wr.heap.size := (Array.getElem?_eq_some_iff.1 HM.out).1
        have HLU := Lib.hid hlu
        have hd := (Below.refl wr.heap.size wr).drew
        have HD := Lib.hid hd
        have HCC := Lib.hid (show ∀ W, Below wr.heap.size wr W → (W.cell? ⟨w2.heap.size, 0, none⟩ = some (.float .f32 a) ∧ W.cell? ⟨w2.heap.size, 1, none⟩ = some (.float .f32 b) ∧ W.cell? ⟨w2.heap.size, 2, none⟩ = some (.float .f32 c) ∧ W.cell? ⟨w2.heap.size, 3, none⟩ = some (.float .f32 d)) ∧ W.heap[w2.heap.size]? = some (MO a b c d) from fun W hW => by
          have h1 := (hW.block w2.heap.size hlu).trans HM.out
          exact ⟨⟨by rw [Joins.cell_of_block h1]; rfl, by rw [Joins.cell_of_block h1]; rfl, by rw [Joins.cell_of_block h1]; rfl, by rw [Joins.cell_of_block h1]; rfl⟩, h1⟩)
        clear hd hlu
        go_wp2_with fail
        refine wp_region_noPanic ?_
        refine region_runB_drew (S := fun W => W.cell? ⟨w2.heap.size, 0, none⟩ = some (.float .f32 a) ∧ W.cell? ⟨w2.heap.size, 1, none⟩ = some (.float .f32 b) ∧ W.cell? ⟨w2.heap.size, 2, none⟩ = some (.float .f32 c) ∧ W.cell? ⟨w2.heap.size, 3, none⟩ = some (.float .f32 d)) (by kernel_rfl) ⟨c0, c1, c2, c3⟩ (fun hHeld => ?_)
        clear c0 c1 c2 c3 p0
        ((refine runB_take (i := 0) (v := ?_) rfl (by kernel_rfl) (by kernel_rfl) (by kernel_rfl) (by kernel_rfl) (fun _ _ _ h => h) (Or.inl ⟨by rfl, ?_⟩) (by assumption) ?_; rotate_left; (· intro w hSw; (try dsimp only at hSw); go_simp; first | done | with_reducible rfl); (try simp only [List.getElem_toArray, List.getElem_cons_zero, List.getElem_cons_succ, Act.put, List.setIfInBounds_toArray, List.set_cons_zero, List.set_cons_succ])); (refine runB_take (i := 2) (v := ?_) rfl (by kernel_rfl) (by kernel_rfl) (by kernel_rfl) (by kernel_rfl) (fun _ _ _ h => h) (Or.inl ⟨by rfl, ?_⟩) (by assumption) ?_; rotate_left; (· intro w hSw; (try dsimp only at hSw); go_simp; first | done | with_reducible rfl); (try simp only [List.getElem_toArray, List.getElem_cons_zero, List.getElem_cons_succ, Act.put, List.setIfInBounds_toArray, List.set_cons_zero, List.set_cons_succ])))
        (refine runB_next (rs := [1]) (by kernel_rfl) (by simp) ?_; refine NextB.cons (i := 1) rfl (fun K hK => ?_) NextB.nil)
        go_simp
        refine (iMat1_any t HT.out _).mono ?_; rintro e w5 ⟨⟨x0, x1, x2, x3, rfl, h4⟩, hb5⟩
        have H4 := Lib.hid h4
        have HD5 := Lib.hid (HD.out.trans (hb5.mono HD.out.size))
        clear h4 hb5
        go_wp2_with fail
        (refine hK.out _ _ (fun _ => (HCC.out _ HD5.out).1) ?_; clear hK K; (try simp only [List.getElem_toArray, List.getElem_cons_zero, List.getElem_cons_succ, Act.put, List.setIfInBounds_toArray, List.set_cons_zero, List.set_cons_succ]))
        (refine runB_next (rs := [3]) (by kernel_rfl) (by simp) ?_; refine NextB.cons (i := 3) rfl (fun K hK => ?_) NextB.nil)
        go_simp
        refine (iTimes_any x0 x1 x2 x3 a b c d _ _ H4.out HI.out _).mono ?_; rintro e w6 ⟨⟨y0, y1, y2, y3, rfl, h4⟩, hb6⟩
        have H6 := Lib.hid h4
        have HD6 := Lib.hid (HD5.out.trans (hb6.mono HD5.out.size))
        clear h4 hb6
        go_wp2_with fail
        (refine hK.out _ _ (fun _ => (HCC.out _ HD6.out).1) ?_; clear hK K; (try simp only [List.getElem_toArray, List.getElem_cons_zero, List.getElem_cons_succ, Act.put, List.setIfInBounds_toArray, List.set_cons_zero, List.set_cons_succ]))
        have HM6 := Lib.hid (HCC.out _ HD6.out).2
        (refine runB_next (rs := [4]) (by kernel_rfl) (by simp) ?_; refine NextB.cons (i := 4) rfl (fun K hK => ?_) NextB.nil)
        refine hstep_storeM rfl 78 _ _ rfl w2.heap.size (MC y0 y1 y2 y3) rfl rfl 78 _ HM6.out info_m4 rfl (mone _ _ _ _) ?_
        (refine hK.out _ _ (no_due (by kernel_rfl) _) ?_; clear hK K; (try simp only [List.getElem_toArray, List.getElem_cons_zero, List.getElem_cons_succ, Act.put, List.setIfInBounds_toArray, List.set_cons_zero, List.set_cons_succ]))
        (refine runB_done (by kernel_rfl) ?_ _; refine NoPanic.normal ?_)
        clear hHeld
        go_wp2_with fail
        go_roundw
        case rel => exact ⟨k + 1, by omega, by go_num, Lib.hid (below_setRow (HB.out.trans (HD6.out.mono HB.out.size)) (by have := HS2.out; omega) _), Lib.hid (below_setRow (HX.out.trans (HD6.out.mono HX.out.size)) (Nat.le_refl _) _), _, _, _, _, Lib.hid (setRow_heap _ _ _ _ _ _ HM6.out), Lib.hid (by rw [HSU.out]; exact H6.out)⟩
        case measure => simp [intOf]; omega
      · obtain rfl : k = ts.length := by omega
        clear hlt
        have c0 : wr.cell? ⟨w2.heap.size, 0, none⟩ = some (.float .f32 a) := by rw [Joins.cell_of_block HM.out]; rfl
        have c1 : wr.cell? ⟨w2.heap.size, 1, none⟩ = some (.float .f32 b) := by rw [Joins.cell_of_block HM.out]; rfl
        have c2 : wr.cell? ⟨w2.heap.size, 2, none⟩ = some (.float .f32 c) := by rw [Joins.cell_of_block HM.out]; rfl
        have c3 : wr.cell? ⟨w2.heap.size, 3, none⟩ = some (.float .f32 d) := by rw [Joins.cell_of_block HM.out]; rfl
        have HZR := Lib.hid ((HX.out.block w.heap.size HS2.out).trans HZ2.out)
        go_wp2_with ((with_reducible show wpList _ _ _ (Oper.mk none (Op.store _ _ _) _ _ _ _ :: _) _ _); refine wpList_store_row rfl 78 _ _ rfl w.heap.size (MC a b c d) rfl rfl 78 _ HZR.out info_m4 rfl (mone _ _ _ _) ?_)
        have HZ3 := Lib.hid (setRow_heap wr w.heap.size _ (MC a b c d) _ _ HZR.out)
        refine bodyPost_ret (v := .tuple #[MV a b c d, .bool true]) ?_ rfl ?_
        · have z0 : (wr.setRow w.heap.size (MC a b c d)).cell? ⟨w.heap.size, 0, none⟩ = some (.float .f32 a) := by rw [Joins.cell_of_block HZ3.out]; rfl
          have z1 : (wr.setRow w.heap.size (MC a b c d)).cell? ⟨w.heap.size, 1, none⟩ = some (.float .f32 b) := by rw [Joins.cell_of_block HZ3.out]; rfl
          have z2 : (wr.setRow w.heap.size (MC a b c d)).cell? ⟨w.heap.size, 2, none⟩ = some (.float .f32 c) := by rw [Joins.cell_of_block HZ3.out]; rfl
          have z3 : (wr.setRow w.heap.size (MC a b c d)).cell? ⟨w.heap.size, 3, none⟩ = some (.float .f32 d) := by rw [Joins.cell_of_block HZ3.out]; rfl
          have hres := HRES.out
          simp only [results, hres]; go_simp
        · unfold LineRes
          refine ⟨⟨a, b, c, d, rfl, ?_, ?_⟩, below_setRow HB.out (Nat.le_refl _) _⟩
          · intro _; exact HI.out
          · intro h; cases h
theorem iMatrixOfE_any (v : Value) (ts : List El) (w : World) (hv : ES w v ts) (hn : ts.length ≤ 1048576) :
    Calls Try.prog 36 #[v] w fun e w' => (∃ r, e = .returned (.tuple #[r, .bool (okMatrixOf ts)]) ∧ FResE w.heap.size w' r (lenMatrixOf ts) (lineM ts ts.length)) ∧ Below w.heap.size w w' := by
  have HV := Lib.hid hv
  clear hv
  obtain ⟨q, hq⟩ : ∃ q, okLine ts = q := ⟨_, rfl⟩
  have HN := Lib.hid (show lenMatrixOf ts = if q then 4 else 0 by unfold lenMatrixOf; rw [hq])
  unfold okMatrixOf
  rw [hq]
  have HQ := Lib.hid hq
  clear hq
  obtain ⟨N, hN⟩ : ∃ N, lenMatrixOf ts = N := ⟨_, rfl⟩
  rw [hN] at HN ⊢
  clear hN
  go_enter Try.func36, Try.ntmps36
  go_wp2_with fail
  refine (iLineE_any v ts _ HV.out hn).mono ?_
  rw [HQ.out]
  rintro e w2 hp
  unfold LineRes at hp
  obtain ⟨⟨a, b, c, d, rfl, hi, _⟩, hb⟩ := hp
  have HI := Lib.hid hi; have HB := Lib.hid hb
  clear hi hb
  cases q with
  | false =>
    obtain rfl : N = 0 := HN.out
    go_wp2_with fail
    go_ret2
    exact ⟨⟨_, rfl, (fres_none _ _ _).toE⟩, HB.out.alloc HB.out.size _⟩
  | true =>
    obtain rfl : N = 4 := HN.out
    go_wp2_with fail
    go_ret2
    exact ⟨⟨_, rfl, _, rfl, eqs4 (HI.out (by trivial)), fownE4 _ _ _ _ _ _ HB.out.size⟩, HB.out.alloc HB.out.size _⟩
set_option maxHeartbeats 2000000 in
set_option maxRecDepth 100000 in
theorem iPassLine_any (v : Value) (ts : List El) (r R : Ry) (w : World) (hv : ES w v ts) (hp : ∀ t ∈ ts, plainE t) (hok : okLine ts = true) (hr : Ry.is r R) (hn : ts.length ≤ 1048576) :
    Calls Try.prog 52 #[v, r.val] w fun e w' => (∃ r, e = .returned (.tuple #[Ry.val r, .int .i64 (-1), .bool true]) ∧ Ry.is r (passL ts R ts.length)) ∧ Below w.heap.size w w' := by
  have HV := Lib.hid hv; have HP := Lib.hid hp; have HOK := Lib.hid hok; have HI := Lib.hid hr
  clear hv hp hok hr
  have HRES := Lib.hid (show Try.f52.results = #[.cell 4 61, .tmp 5, .tmp 6] by kernel_rfl)
  have HO := Lib.hid (es_oks HV.out)
  have HB0 := Lib.hid (((Below.refl w.heap.size w).alloc (Nat.le_refl _) (RO r)).alloc (by simp) (RO ⟨0, 0, 0, 0⟩))
  have HX0 := Lib.hid (show ((w.alloc (RO r)).alloc (RO ⟨0, 0, 0, 0⟩)).heap[w.heap.size]? = some (RO r) from by rw [heap_alloc_old _ _ (by simp), heap_alloc_new])
  have HX1 := Lib.hid (show ((w.alloc (RO r)).alloc (RO ⟨0, 0, 0, 0⟩)).heap[w.heap.size + 1]? = some (RO ⟨0, 0, 0, 0⟩) from by
    have := heap_alloc_new (w.alloc (RO r)) (RO ⟨0, 0, 0, 0⟩)
    rwa [World.size_alloc] at this)
  unfold Ry.val
  go_enter Try.func52, Try.ntmps52
  go_wp2_with fail
  generalize (w.alloc (RO r)).alloc (RO ⟨0, 0, 0, 0⟩) = w2 at HB0 HX0 HX1 ⊢
  refine (iPartsE_any v ts _ (HV.out.below HB0.out) hn).mono ?_
  rw [HOK.out]
  rintro e w3 hp
  unfold PartsRes at hp
  obtain ⟨⟨u, rfl, hu⟩, hb3⟩ := hp
  have hs1 : w.heap.size + 1 < w2.heap.size := (Array.getElem?_eq_some_iff.1 HX1.out).1
  have HU := Lib.hid (hu rfl)
  have HB3 := Lib.hid (HB0.out.trans (hb3.mono HB0.out.size))
  have HX03 := Lib.hid ((hb3.block w.heap.size (by omega)).trans HX0.out)
  have HX13 := Lib.hid ((hb3.block (w.heap.size + 1) hs1).trans HX1.out)
  clear hu hb3 HX0 HX1
  have d0 : w3.cell? ⟨w.heap.size, 0, none⟩ = some (.complex .f32 r.x r.y) := by rw [Joins.cell_of_block HX03.out]; rfl
  have d1 : w3.cell? ⟨w.heap.size, 1, none⟩ = some (.float .f32 r.p) := by rw [Joins.cell_of_block HX03.out]; rfl
  have d2 : w3.cell? ⟨w.heap.size, 2, none⟩ = some (.float .f32 r.e) := by rw [Joins.cell_of_block HX03.out]; rfl
  go_wp2_with fail
  refine (iPassParts_any _ _ ts r R _ HU.out HO.out HP.out HI.out hn).mono ?_
  rintro e w4 hp
  unfold PassLRes at hp
  obtain ⟨⟨⟨x5, y5, p5, e5⟩, rfl, hi⟩, hb4⟩ := hp
  have HI4 := Lib.hid hi
  have HB4 := Lib.hid (HB3.out.trans (hb4.mono HB3.out.size))
  have hs3 : w.heap.size + 1 < w3.heap.size := (Array.getElem?_eq_some_iff.1 HX13.out).1
  have HW := Lib.hid (show ∀ Z, (w4.alloc Z).heap[w.heap.size + 1]? = some (RO ⟨0, 0, 0, 0⟩) from fun Z => (heap_alloc_old w4 Z (Nat.lt_of_lt_of_le hs3 hb4.size)).trans ((hb4.block (w.heap.size + 1) hs3).trans HX13.out))
  clear hi hb4 hs3 hs1 d0 d1 d2
  have d0 : ∀ Z, (w4.alloc Z).cell? ⟨w.heap.size + 1, 0, none⟩ = some (.complex .f32 0 0) := fun Z => by rw [Joins.cell_of_block (HW.out Z)]; rfl
  have d1 : ∀ Z, (w4.alloc Z).cell? ⟨w.heap.size + 1, 1, none⟩ = some (.float .f32 0) := fun Z => by rw [Joins.cell_of_block (HW.out Z)]; rfl
  have d2 : ∀ Z, (w4.alloc Z).cell? ⟨w.heap.size + 1, 2, none⟩ = some (.float .f32 0) := fun Z => by rw [Joins.cell_of_block (HW.out Z)]; rfl
  have f0 : ∀ Z, (w4.alloc Z).frozen? ⟨w.heap.size + 1, 0, none⟩ = false := fun Z => by simp [World.frozen?, HW.out Z]
  have f1 : ∀ Z, (w4.alloc Z).frozen? ⟨w.heap.size + 1, 1, none⟩ = false := fun Z => by simp [World.frozen?, HW.out Z]
  have f2 : ∀ Z, (w4.alloc Z).frozen? ⟨w.heap.size + 1, 2, none⟩ = false := fun Z => by simp [World.frozen?, HW.out Z]
  unfold Ry.val
  go_wp2_with fail
  refine bodyPost_ret (v := .tuple #[.agg #[.complex .f32 x5 y5, .float .f32 p5, .float .f32 e5], .int .i64 (-1), .bool true]) ?_ rfl ?_
  · have hres := HRES.out
    simp only [results, hres]; go_simp
  · exact ⟨⟨⟨x5, y5, p5, e5⟩, rfl, HI4.out⟩, (((HB4.out.alloc HB4.out.size _).setCell (p := ⟨w.heap.size + 1, 0, none⟩) (Nat.le_succ _) _).setCell (p := ⟨w.heap.size + 1, 1, none⟩) (Nat.le_succ _) _).setCell (p := ⟨w.heap.size + 1, 2, none⟩) (Nat.le_succ _) _⟩
end Go.Proofs.Ytpnmledanloboaa
