/- FnWalls: for all two lists of bytes the law returns true: what they draw is a list of particles and two walls; walls throw back who is beyond them, and nobody else; who is taken takes all of its charge, and the others keep theirs. No condition. -/
import Derived.Test.YtahgnjmdlhidpaaRows
import Derived.WalkKit
import Derived.ProofKit
import Derived.OpenShut
import Derived.ShutString
import Derived.ChangeOld
import Derived.Below
import Derived.Laws.Cover2
import Derived.Test.YtahgnjmdlhidpaaWlM
import Derived.Test.YtahgnjmdlhidpaaRfA
import Derived.Test.YtahgnjmdlhidpaaPqQ
import Derived.Test.YtahgnjmdlhidpaaYf
import Derived.Test.YtahgnjmdlhidpaaAt8
import Derived.Test.YtahgnjmdlhidpaaLng
import Derived.Deep.CutRange
namespace Go.Proofs.Ytahgnjmdlhidpaa.fnWalls
open Go.ChangeShapes Go.WideShapes Go.ChangeAt Go.RowKit Go.Fl
open Go.ChangeMaps (open_string shut_string)
set_option linter.unusedVariables false
open Go.Nl (NS)
set_option linter.unusedSimpArgs false

set_option maxHeartbeats 2000000 in
set_option maxRecDepth 100000 in
theorem walk (a0 : Option Addr) (len0 cap0 : Nat) (z0 : List Int) (a1 : Option Addr) (len1 cap1 : Nat) (z1 : List Int) (w : World) (w0 : NS .u8 w (.slice a0 len0 cap0) z0) (w1 : NS .u8 w (.slice a1 len1 cap1) z1) :
    Calls Try.prog 4 #[.slice a0 len0 cap0, .slice a1 len1 cap1] w fun e w' => e = .returned (.bool true) ∧ Below w.heap.size w w' := by
  have HC := Lib.hid w0
  have HM := Lib.hid w1
  clear w0 w1
  by_cases hl : (48 < len0 ∨ 48 < len1)
  · have HL := Lib.hid (show decide (48 < len0 ∨ 48 < len1) = true from decide_eq_true hl)
    clear hl
    go_enter Try.func4, Try.ntmps4
    go_wp2_with fail
    refine (lLong_any _ _ _ _ _ _ _).mono ?_; rw [HL.out]; rintro e w' ⟨rfl, rfl⟩
    go_wp2_with fail
    go_ret
    exact ⟨rfl, Below.refl _ _⟩
  have HL := Lib.hid (show decide (48 < len0 ∨ 48 < len1) = false from decide_eq_false hl)
  clear hl
  go_enter Try.func4, Try.ntmps4
  go_wp2_with fail
  refine (lLong_any _ _ _ _ _ _ _).mono ?_; rw [HL.out]; rintro e w' ⟨rfl, rfl⟩
  go_wp2_with fail
  refine (sList_any _ z0 _ HC.out).mono ?_
  rintro e v1 ⟨V1, ts, rfl, hts, hdr, O1, hb1⟩
  have HO1 := Lib.hid O1
  have HK := Lib.hid (show ∀ t ∈ ts, Here t from fun t ht => ⟨hdr.oks t ht, (hdr.at0 t ht).1, (hdr.at0 t ht).2.1⟩)
  have HOK := Lib.hid hdr.oks
  have D1 := Lib.hid hb1
  clear O1 hb1 hdr
  go_wp2_with fail
  refine (lAt8_any _ _ _ z1 0 (.inl rfl) _ (HM.out.below D1.out)).mono ?_
  rintro e w' ⟨⟨x, rfl, hx0, hx1⟩, rfl⟩
  have ix := is_int32 x (by omega) (by omega)
  have h4 := half_two x hx0 (by omega)
  have HW0 := Lib.hid (fun r (h : Is .f32 r (fop .quo .f32 (floatOfInt .f32 x) 1073741824)) => show Dy .f32 146 r (4 * x) from by
    rw [h4] at h
    exact dyis (dy_e8 _ (by omega) (by omega)) h)
  clear h4
  go_wp2_with (apply wpList_farith; rfl; rfl; rfl; rfl; (first | with_reducible assumption | exact Is.const rfl); (first | with_reducible assumption | exact Is.const rfl); intro r n hr)
  have HLO := Lib.hid (HW0.out _ hr)
  clear hr HW0 ix
  generalize r = lo at HLO ⊢
  generalize n = m1 at *
  refine (lAt8_any _ _ _ z1 1 (.inr rfl) _ (HM.out.below (below_drewN D1.out m1))).mono ?_
  rintro e w2 ⟨⟨y, rfl, hy0, hy1⟩, rfl⟩
  have hwy : wrap64 (1 + y) = 1 + y := wrap64_of (by omega) (by omega)
  have iy := is_int32 (1 + y) (by omega) (by omega)
  have h4 := half_two (1 + y) (by omega) (by omega)
  have ir := HLO.out.is
  have HXY := Lib.hid (And.intro (And.intro hx0 hx1) (And.intro hy0 hy1))
  have H4 := Lib.hid h4
  clear h4 hx0 hx1 hy0 hy1
  go_wp2_with (apply wpList_farith; rfl; rfl; rfl; rfl; (first | with_reducible assumption | exact Is.const rfl); (first | with_reducible assumption | exact Is.const rfl); intro r n hr)
  rw [H4.out] at hr
  have HW := Lib.hid (show Wl lo r (4 * x) (4 * x + 4 * (1 + y)) from by
    have h1 := HXY.out
    exact ⟨HLO.out, dyis (HLO.out.add32 (dy_e8 _ (by omega) (by omega)) (by decide) (by omega)) hr, by omega, by omega, by omega⟩)
  clear hr ir iy hwy H4 HLO
  generalize r = hi at HW ⊢
  generalize 4 * x + 4 * (1 + y) = B at HW ⊢
  generalize 4 * x = A at HW ⊢
  have HNL := Lib.hid (dv_num HW.out.l.dv); have HNH := Lib.hid (dv_num HW.out.h.dv); have HNK := Lib.hid (dv_num half_dv)
  have HR := Lib.hid (show ∀ q ∈ ts.map Pt.pq, (reflF lo hi 1056964608 q).ok from fun q hq => by
    obtain ⟨t, ht, rfl⟩ := List.mem_map.1 hq
    exact refl_ok HW.out (HK.out t ht))
  have HQ := Lib.hid (oks_pq HOK.out)
  obtain ⟨av, cv, rfl, hfv⟩ := p_form HO1.out
  have HO2 := Lib.hid (fun d => own_pq (r4_below HO1.out (below_drewN (Below.refl w'.heap.size w') d)))
  have HD2 := Lib.hid (fun d => below_drewN D1.out d)
  have HCN := Lib.hid (show cntO lo hi (ts.map Pt.pq) (ts.map Pt.pq).length = (ts.length : Int) - ((stayTo lo hi ts ts.length).length : Int) from by rw [List.length_map]; exact counts lo hi ts)
  have HSL := Lib.hid (stayTo_le lo hi ts ts.length)
  have HCH := Lib.hid (charges lo hi ts)
  have HSO := Lib.hid (show oks (stayTo lo hi ts ts.length) from by
    rw [stay_all]; intro t ht; exact HOK.out t (List.mem_filter.1 ht).1)
  refine (iReflectAll_pq _ _ (ts.map Pt.pq) lo hi _ _ (HO2.out _) HNL.out HNH.out HNK.out HW.out.ordered HQ.out HR.out (by rw [List.length_map]; omega)).mono ?_
  rw [HCN.out]
  rintro e w3 ⟨⟨V2, rfl, O2⟩, hb3⟩
  have HB3 := Lib.hid O2
  have HO3 := Lib.hid (r4_below (r4_below HO1.out (below_drewN (Below.refl w'.heap.size w') _)) hb3)
  have D3 := Lib.hid ((HD2.out _).trans (hb3.mono (HD2.out _).size))
  clear O2 hb3 HO1 HO2 HD2 D1
  obtain ⟨bv, cb, rfl, hfb⟩ := q_form HB3.out
  rw [List.length_map, List.length_map] at *
  go_wp2_with fail
  refine (iTake_pt _ _ ts lo hi _ HO3.out HOK.out (by omega) HNL.out HNH.out HW.out.ordered).mono ?_
  rintro e w4 ⟨⟨V3, tk, rfl, O3, hk⟩, hb4⟩
  have HS4 := Lib.hid O3; have HT4 := Lib.hid hk
  have HO4 := Lib.hid (r4_below HO3.out hb4); have HB4 := Lib.hid (r4_below HB3.out hb4)
  have D4 := Lib.hid (D3.out.trans (hb4.mono D3.out.size))
  clear O3 hk hb4 HO3 HB3 D3
  obtain ⟨sv, cs, rfl, _⟩ := p_form HS4.out
  go_wp2_with fail
  refine (iCharge_pt _ _ ts _ HO4.out HOK.out (by omega)).mono ?_
  rintro e w5 ⟨⟨ch, rfl, hch⟩, hb5⟩
  have HC5 := Lib.hid hch
  have HO5 := Lib.hid (r4_below HO4.out hb5); have HB5 := Lib.hid (r4_below HB4.out hb5); have HS5 := Lib.hid (r4_below HS4.out hb5)
  have D5 := Lib.hid (D4.out.trans (hb5.mono D4.out.size))
  clear hch hb5 HO4 HB4 HS4 D4
  go_wp2_with fail
  refine (iCharge_pt _ _ (stayTo lo hi ts ts.length) _ HS5.out HSO.out (by have := HSL.out; omega)).mono ?_
  rintro e w6 ⟨⟨re, rfl, hre⟩, hb6⟩
  have HC6 := Lib.hid hre
  have HO6 := Lib.hid (r4_below HO5.out hb6); have HB6 := Lib.hid (r4_below HB5.out hb6)
  have D6 := Lib.hid (D5.out.trans (hb6.mono D5.out.size))
  clear hre hb6 HO5 HB5 HS5 D5
  have hle := HSL.out
  have hsub : wrap64 ((ts.length : Int) - ((stayTo lo hi ts ts.length).length : Int)) = (ts.length : Int) - ((stayTo lo hi ts ts.length).length : Int) := wrap64_of (by omega) (by omega)
  have HX := Lib.hid (sumI_le chgI ts 16 (fun t ht => ⟨(HOK.out t ht).c0, (HOK.out t ht).c1⟩) ts.length (Nat.le_refl _))
  have hsum : Dy .f32 146 (fop .add .f32 tk re) (sumI chgI ts ts.length) := by
    rw [HCH.out]
    have := HX.out
    exact HT4.out.add32 HC6.out (by decide) (by rw [← HCH.out]; omega)
  have hq : fcmp .neq .f32 ch (fop .add .f32 tk re) = false := by rw [HC5.out.dv.neq hsum.dv]; simp
  have i1 := HC5.out.is; have i2 := HT4.out.is; have i3 := HC6.out.is
  clear hsum hle HX
  generalize (stayTo lo hi ts ts.length).length = SL at hsub ⊢
  go_wp2_with (first | (apply wpList_farith; rfl; rfl; rfl; rfl; (first | with_reducible assumption | exact Is.const rfl); (first | with_reducible assumption | exact Is.const rfl); intro r n hr) | (apply wpList_fcmp; rfl; rfl; rfl; rfl; (first | with_reducible assumption | exact Is.const rfl); (first | with_reducible assumption | exact Is.const rfl); (first | with_reducible assumption | exact rfl)))
  clear hq i1 i2 i3 hsub HC5 HC6 HT4 HCH HSL HSO HCN
  have D0 := Lib.hid (Below.refl w6.heap.size w6)
  go_loopw [18] (fun i wr => ∃ k : Nat, k ≤ ts.length ∧ i = .int .i64 (k : Int) ∧ Hid (Below w6.heap.size w6 wr)) (fun i _ => ts.length - (intOf i).toNat)
  case atStart => exact ⟨0, Nat.zero_le _, rfl, by first | exact D0 | exact Lib.hid (below_drewN (Below.refl _ _) _)⟩
  case round =>
    clear D0
    obtain ⟨k, hk, rfl, HB⟩ := hrel
    by_cases hlt : k < ts.length
    · rcases hfv with hfv | ⟨g, rfl, _, hg⟩
      · subst hfv; simp at hlt
      rcases hfb with hfb | ⟨g', rfl, _, hg'⟩
      · simp at hfb; subst hfb; simp at hlt
      have HV := Lib.hid (fun W (hb : Below wr.heap.size wr W) => p_cells (r4_below HO6.out (HB.out.trans (hb.mono HB.out.size))) hlt)
      have HG := Lib.hid (fun W (hb : Below wr.heap.size wr W) => q_cells (r4_below HB6.out (HB.out.trans (hb.mono HB.out.size))) (k := k) (by simpa using hlt))
      have HT := Lib.hid (HK.out _ (List.getElem_mem hlt))
      have HU0 := Lib.hid (HR.out _ (List.mem_map_of_mem (f := Pt.pq) (List.getElem_mem hlt)))
      have HE := Lib.hid (show ((ts.map Pt.pq).map (reflF lo hi 1056964608))[k]'(by simpa using hlt) = reflF lo hi 1056964608 ts[k].pq by simp)
      rw [HE.out] at HG
      generalize ts[k] = t at HV HG HT HU0
      clear HE
      obtain ⟨c0, c1, c2, c3⟩ := HV.out wr (Below.refl _ _)
      obtain ⟨u, hu⟩ : ∃ u, reflF lo hi 1056964608 t.pq = u := ⟨_, rfl⟩
      rw [hu] at HG HU0
      have HUE := Lib.hid hu
      clear hu
      go_upto_region 17 with fail
      have hh := iReflectAt_pq t.pq lo hi 1056964608 wr HNL.out HNH.out HNK.out HW.out.ordered HT.out.ok.pq (by rw [HUE.out]; exact HU0.out)
      rw [HUE.out] at hh
      refine hh.mono ?_
      clear hh
      rintro e w7 ⟨rfl, hb7⟩
      have HB7 := Lib.hid hb7
      clear hb7 c0 c1 c2 c3
      dsimp only [R4.val, Pq.r4]
      go_upto_region 17 with fail
      have HX8 := Lib.hid (heap_alloc_new w7 (.cells #[.complex .f32 u.a u.b, .complex .f32 u.x u.y, .float .f32 u.c, .float .f32 u.s] 43))
      have HB8 := Lib.hid (HB7.out.alloc HB7.out.size (.cells #[.complex .f32 u.a u.b, .complex .f32 u.x u.y, .float .f32 u.c, .float .f32 u.s] 43))
      have HZ8 := Lib.hid (show w7.heap.size < (w7.alloc (.cells #[.complex .f32 u.a u.b, .complex .f32 u.x u.y, .float .f32 u.c, .float .f32 u.s] 43)).heap.size by simp)
      generalize w7.alloc (.cells #[.complex .f32 u.a u.b, .complex .f32 u.x u.y, .float .f32 u.c, .float .f32 u.s] 43) = w8 at HX8 HB8 HZ8 ⊢
      generalize w7.heap.size = b at HX8 HZ8 ⊢
      clear HB7
      have HS := Lib.hid (fun W (hW : Below w8.heap.size w8 W) => And.intro (box_cells ((hW.block b HZ8.out).trans HX8.out)) (And.intro (HV.out W (HB8.out.trans (hW.mono HB8.out.size))) (HG.out W (HB8.out.trans (hW.mono HB8.out.size)))))
      have hub : u.b = E8 t.m := by rw [← HUE.out]; unfold reflF; split <;> rfl
      have huy : u.y = t.y := by rw [← HUE.out]; unfold reflF; split <;> rfl
      have HQB := Lib.hid (show fcmp .neq .f32 u.b (E8 t.m) = false by
        have h1 := dy_e8' (n := t.m) (by have := HT.out.ok.m0; omega) (by have := HT.out.ok.m1; omega)
        rw [hub, h1.neq h1]; simp)
      have HQY := Lib.hid (show fcmp .neq .f32 u.y t.y = false by rw [huy, HT.out.ok.dy.neq HT.out.ok.dy]; simp)
      clear hub huy HV HG
      go_cut [159] from 123 to 159 (fun v wx => v = .bool false ∧ Hid (Below w8.heap.size w8 wx))
      case first =>
        have hd0 := (Below.refl w8.heap.size w8).drew
        refine wp_region_noPanic ?_
        refine wp_region_held_drew (S := fun W => (W.cell? ⟨b, 0, none⟩ = some (.complex .f32 u.a u.b) ∧ W.cell? ⟨b, 1, none⟩ = some (.complex .f32 u.x u.y) ∧ W.cell? ⟨b, 2, none⟩ = some (.float .f32 u.c) ∧ W.cell? ⟨b, 3, none⟩ = some (.float .f32 u.s)) ∧
            (W.cell? ⟨g, k * 4, none⟩ = some (.complex .f32 (E8 t.n) (E8 t.m)) ∧ W.cell? ⟨g, k * 4 + 1, none⟩ = some (.complex .f32 t.x t.y) ∧ W.cell? ⟨g, k * 4 + 2, none⟩ = some (.float .f32 (E8 t.c)) ∧ W.cell? ⟨g, k * 4 + 3, none⟩ = some (.float .f32 (E8 t.s))) ∧
            W.cell? ⟨g', k * 4, none⟩ = some (.complex .f32 u.a u.b) ∧ W.cell? ⟨g', k * 4 + 1, none⟩ = some (.complex .f32 u.x u.y) ∧ W.cell? ⟨g', k * 4 + 2, none⟩ = some (.float .f32 u.c) ∧ W.cell? ⟨g', k * 4 + 3, none⟩ = some (.float .f32 u.s)) (by kernel_rfl) (HS.out _ hd0) (fun hHeld => ?_)
        generalize w8.drew = v0 at hd0 hHeld ⊢
        ((refine wpAnyH_take (i := 0) (v := ?_) rfl (by kernel_rfl) (by kernel_rfl) (by kernel_rfl) (fun _ _ _ h => h) (Or.inl ⟨by rfl, ?_⟩) (by assumption) ?_; rotate_left; (· intro w hSw; (try dsimp only at hSw); go_simp; first | done | with_reducible rfl); (try simp only [List.getElem_toArray, List.getElem_cons_zero, List.getElem_cons_succ, Act.put, List.setIfInBounds_toArray, List.set_cons_zero, List.set_cons_succ])); (refine wpAnyH_take (i := 1) (v := ?_) rfl (by kernel_rfl) (by kernel_rfl) (by kernel_rfl) (fun _ _ _ h => h) (Or.inl ⟨by rfl, ?_⟩) (by assumption) ?_; rotate_left; (· intro w hSw; (try dsimp only at hSw); go_simp; first | done | with_reducible rfl); (try simp only [List.getElem_toArray, List.getElem_cons_zero, List.getElem_cons_succ, Act.put, List.setIfInBounds_toArray, List.set_cons_zero, List.set_cons_succ])); (refine wpAnyH_take (i := 2) (v := ?_) rfl (by kernel_rfl) (by kernel_rfl) (by kernel_rfl) (fun _ _ _ h => h) (Or.inl ⟨by rfl, ?_⟩) (by assumption) ?_; rotate_left; (· intro w hSw; (try dsimp only at hSw); go_simp; first | done | with_reducible rfl); (try simp only [List.getElem_toArray, List.getElem_cons_zero, List.getElem_cons_succ, Act.put, List.setIfInBounds_toArray, List.set_cons_zero, List.set_cons_succ])); (refine wpAnyH_take (i := 3) (v := ?_) rfl (by kernel_rfl) (by kernel_rfl) (by kernel_rfl) (fun _ _ _ h => h) (Or.inl ⟨by rfl, ?_⟩) (by assumption) ?_; rotate_left; (· intro w hSw; (try dsimp only at hSw); go_simp; first | done | with_reducible rfl); (try simp only [List.getElem_toArray, List.getElem_cons_zero, List.getElem_cons_succ, Act.put, List.setIfInBounds_toArray, List.set_cons_zero, List.set_cons_succ])); (refine wpAnyH_take (i := 5) (v := ?_) rfl (by kernel_rfl) (by kernel_rfl) (by kernel_rfl) (fun _ _ _ h => h) (Or.inl ⟨by rfl, ?_⟩) (by assumption) ?_; rotate_left; (· intro w hSw; (try dsimp only at hSw); go_simp; first | done | with_reducible rfl); (try simp only [List.getElem_toArray, List.getElem_cons_zero, List.getElem_cons_succ, Act.put, List.setIfInBounds_toArray, List.set_cons_zero, List.set_cons_succ])); (refine wpAnyH_take (i := 6) (v := ?_) rfl (by kernel_rfl) (by kernel_rfl) (by kernel_rfl) (fun _ _ _ h => h) (Or.inl ⟨by rfl, ?_⟩) (by assumption) ?_; rotate_left; (· intro w hSw; (try dsimp only at hSw); go_simp; first | done | with_reducible rfl); (try simp only [List.getElem_toArray, List.getElem_cons_zero, List.getElem_cons_succ, Act.put, List.setIfInBounds_toArray, List.set_cons_zero, List.set_cons_succ])); (refine wpAnyH_take (i := 7) (v := ?_) rfl (by kernel_rfl) (by kernel_rfl) (by kernel_rfl) (fun _ _ _ h => h) (Or.inl ⟨by rfl, ?_⟩) (by assumption) ?_; rotate_left; (· intro w hSw; (try dsimp only at hSw); go_simp; first | done | with_reducible rfl); (try simp only [List.getElem_toArray, List.getElem_cons_zero, List.getElem_cons_succ, Act.put, List.setIfInBounds_toArray, List.set_cons_zero, List.set_cons_succ])); (refine wpAnyH_take (i := 8) (v := ?_) rfl (by kernel_rfl) (by kernel_rfl) (by kernel_rfl) (fun _ _ _ h => h) (Or.inl ⟨by rfl, ?_⟩) (by assumption) ?_; rotate_left; (· intro w hSw; (try dsimp only at hSw); go_simp; first | done | with_reducible rfl); (try simp only [List.getElem_toArray, List.getElem_cons_zero, List.getElem_cons_succ, Act.put, List.setIfInBounds_toArray, List.set_cons_zero, List.set_cons_succ])))
        refine wpAnyH_ready (rs := [4, 9]) (by kernel_rfl) (by simp) ?_
        refine AllReadyH.cons (i := 4) rfl (fun K hK => ?_) (AllReadyH.cons (i := 9) rfl (fun K hK => ?_) AllReadyH.nil)
        · go_simp
          have hd1 := hd0.alloc hd0.size (.cells #[.complex .f32 u.a u.b, .complex .f32 u.x u.y, .float .f32 u.c, .float .f32 u.s] 43)
          have HOA := Lib.hid (q_one 0 v0 u (Nat.zero_le _))
          (refine hK.out _ _ (HS.out _ hd1) (fun hHeld => ?_); clear hK K; (try simp only [List.getElem_toArray, List.getElem_cons_zero, List.getElem_cons_succ, Act.put, List.setIfInBounds_toArray, List.set_cons_zero, List.set_cons_succ]))
          generalize v0.alloc (.cells #[.complex .f32 u.a u.b, .complex .f32 u.x u.y, .float .f32 u.c, .float .f32 u.s] 43) = v1 at *
          generalize v0.heap.size = n1 at HOA ⊢
          (refine wpAnyH_ready (rs := [9]) (by kernel_rfl) (by simp) ?_; refine AllReadyH.cons (i := 9) rfl (fun K hK => ?_) AllReadyH.nil)
          go_simp
          have hd2 := hd1.alloc hd1.size (.cells #[.complex .f32 u.a u.b, .complex .f32 u.x u.y, .float .f32 u.c, .float .f32 u.s] 43)
          have HOB := Lib.hid (q_one 0 v1 u (Nat.zero_le _))
          have HOA := Lib.hid (r4_below HOA.out ((Below.refl v1.heap.size v1).alloc (Nat.le_refl _) (.cells #[.complex .f32 u.a u.b, .complex .f32 u.x u.y, .float .f32 u.c, .float .f32 u.s] 43)))
          (refine hK.out _ _ (HS.out _ hd2) (fun hHeld => ?_); clear hK K; (try simp only [List.getElem_toArray, List.getElem_cons_zero, List.getElem_cons_succ, Act.put, List.setIfInBounds_toArray, List.set_cons_zero, List.set_cons_succ]))
          generalize v1.alloc (.cells #[.complex .f32 u.a u.b, .complex .f32 u.x u.y, .float .f32 u.c, .float .f32 u.s] 43) = v2 at *
          generalize v1.heap.size = n2 at HOB ⊢
          clear hd0 hd1
          (refine wpAnyH_ready (rs := [10]) (by kernel_rfl) (by simp) ?_; refine AllReadyH.cons (i := 10) rfl (fun K hK => ?_) AllReadyH.nil)
          go_simp
          refine (iSame_pq 0 0 _ _ [u] _ HOA.out HOB.out (by intro q hq; simp only [List.mem_singleton] at hq; rw [hq]; exact HU0.out) (by simp)).mono ?_
          rintro e v3 ⟨rfl, hb3⟩
          have hd3 := hd2.trans (hb3.mono hd2.size)
          clear hb3 HOA HOB
          go_wp2_with fail
          (refine hK.out _ _ (HS.out _ hd3) (fun hHeld => ?_); clear hK K; (try simp only [List.getElem_toArray, List.getElem_cons_zero, List.getElem_cons_succ, Act.put, List.setIfInBounds_toArray, List.set_cons_zero, List.set_cons_succ]))
          ((refine wpAnyH_take (i := 11) (v := ?_) rfl (by kernel_rfl) (by kernel_rfl) (by kernel_rfl) (fun _ _ _ h => h) (Or.inl ⟨by rfl, ?_⟩) (by assumption) ?_; rotate_left; (· intro w hSw; (try dsimp only at hSw); go_simp; first | done | with_reducible rfl); (try simp only [List.getElem_toArray, List.getElem_cons_zero, List.getElem_cons_succ, Act.put, List.setIfInBounds_toArray, List.set_cons_zero, List.set_cons_succ])); (refine wpAnyH_take (i := 12) (v := ?_) rfl (by kernel_rfl) (by kernel_rfl) (by kernel_rfl) (fun _ _ _ h => h) (Or.inl ⟨by rfl, ?_⟩) (by assumption) ?_; rotate_left; (· intro w hSw; (try dsimp only at hSw); go_simp; first | done | with_reducible rfl); (try simp only [List.getElem_toArray, List.getElem_cons_zero, List.getElem_cons_succ, Act.put, List.setIfInBounds_toArray, List.set_cons_zero, List.set_cons_succ])); (refine wpAnyH_take (i := 13) (v := ?_) rfl (by kernel_rfl) (by kernel_rfl) (by kernel_rfl) (fun _ _ _ h => h) (Or.inl ⟨by rfl, ?_⟩) (by assumption) ?_; rotate_left; (· intro w hSw; (try dsimp only at hSw); go_simp; first | done | with_reducible rfl); (try simp only [List.getElem_toArray, List.getElem_cons_zero, List.getElem_cons_succ, Act.put, List.setIfInBounds_toArray, List.set_cons_zero, List.set_cons_succ])); (refine wpAnyH_take (i := 14) (v := ?_) rfl (by kernel_rfl) (by kernel_rfl) (by kernel_rfl) (fun _ _ _ h => h) (Or.inl ⟨by rfl, ?_⟩) (by assumption) ?_; rotate_left; (· intro w hSw; (try dsimp only at hSw); go_simp; first | done | with_reducible rfl); (try simp only [List.getElem_toArray, List.getElem_cons_zero, List.getElem_cons_succ, Act.put, List.setIfInBounds_toArray, List.set_cons_zero, List.set_cons_succ])); (refine wpAnyH_take (i := 15) (v := ?_) rfl (by kernel_rfl) (by kernel_rfl) (by kernel_rfl) (fun _ _ _ h => h) (Or.inl ⟨by rfl, ?_⟩) (by assumption) ?_; rotate_left; (· intro w hSw; (try dsimp only at hSw); go_simp; first | done | with_reducible rfl); (try simp only [List.getElem_toArray, List.getElem_cons_zero, List.getElem_cons_succ, Act.put, List.setIfInBounds_toArray, List.set_cons_zero, List.set_cons_succ])); (refine wpAnyH_take (i := 16) (v := ?_) rfl (by kernel_rfl) (by kernel_rfl) (by kernel_rfl) (fun _ _ _ h => h) (Or.inl ⟨by rfl, ?_⟩) (by assumption) ?_; rotate_left; (· intro w hSw; (try dsimp only at hSw); go_simp; first | done | with_reducible rfl); (try simp only [List.getElem_toArray, List.getElem_cons_zero, List.getElem_cons_succ, Act.put, List.setIfInBounds_toArray, List.set_cons_zero, List.set_cons_succ])); (refine wpAnyH_take (i := 17) (v := ?_) rfl (by kernel_rfl) (by kernel_rfl) (by kernel_rfl) (fun _ _ _ h => h) (Or.inl ⟨by rfl, ?_⟩) (by assumption) ?_; rotate_left; (· intro w hSw; (try dsimp only at hSw); go_simp; first | done | with_reducible rfl); (try simp only [List.getElem_toArray, List.getElem_cons_zero, List.getElem_cons_succ, Act.put, List.setIfInBounds_toArray, List.set_cons_zero, List.set_cons_succ])); (refine wpAnyH_take (i := 18) (v := ?_) rfl (by kernel_rfl) (by kernel_rfl) (by kernel_rfl) (fun _ _ _ h => h) (Or.inl ⟨by rfl, ?_⟩) (by assumption) ?_; rotate_left; (· intro w hSw; (try dsimp only at hSw); go_simp; first | done | with_reducible rfl); (try simp only [List.getElem_toArray, List.getElem_cons_zero, List.getElem_cons_succ, Act.put, List.setIfInBounds_toArray, List.set_cons_zero, List.set_cons_succ])); (refine wpAnyH_take (i := 19) (v := ?_) rfl (by kernel_rfl) (by kernel_rfl) (by kernel_rfl) (fun _ _ _ h => h) (Or.inl ⟨by rfl, ?_⟩) (by assumption) ?_; rotate_left; (· intro w hSw; (try dsimp only at hSw); go_simp; first | done | with_reducible rfl); (try simp only [List.getElem_toArray, List.getElem_cons_zero, List.getElem_cons_succ, Act.put, List.setIfInBounds_toArray, List.set_cons_zero, List.set_cons_succ])); (refine wpAnyH_take (i := 20) (v := ?_) rfl (by kernel_rfl) (by kernel_rfl) (by kernel_rfl) (fun _ _ _ h => h) (Or.inl ⟨by rfl, ?_⟩) (by assumption) ?_; rotate_left; (· intro w hSw; (try dsimp only at hSw); go_simp; first | done | with_reducible rfl); (try simp only [List.getElem_toArray, List.getElem_cons_zero, List.getElem_cons_succ, Act.put, List.setIfInBounds_toArray, List.set_cons_zero, List.set_cons_succ])); (refine wpAnyH_take (i := 21) (v := ?_) rfl (by kernel_rfl) (by kernel_rfl) (by kernel_rfl) (fun _ _ _ h => h) (Or.inl ⟨by rfl, ?_⟩) (by assumption) ?_; rotate_left; (· intro w hSw; (try dsimp only at hSw); go_simp; first | done | with_reducible rfl); (try simp only [List.getElem_toArray, List.getElem_cons_zero, List.getElem_cons_succ, Act.put, List.setIfInBounds_toArray, List.set_cons_zero, List.set_cons_succ])); (refine wpAnyH_take (i := 22) (v := ?_) rfl (by kernel_rfl) (by kernel_rfl) (by kernel_rfl) (fun _ _ _ h => h) (Or.inl ⟨by rfl, ?_⟩) (by assumption) ?_; rotate_left; (· intro w hSw; (try dsimp only at hSw); go_simp; first | done | with_reducible rfl); (try simp only [List.getElem_toArray, List.getElem_cons_zero, List.getElem_cons_succ, Act.put, List.setIfInBounds_toArray, List.set_cons_zero, List.set_cons_succ])))
          (refine wpAnyH_take (i := 23) (v := _) rfl (by kernel_rfl) (by kernel_rfl) (by kernel_rfl) (fun _ _ _ h => h) (yields_fc (by rfl) .neq _ _ _ _ rfl rfl .f32 _ _ rfl rfl (HQB.out)) (by assumption) ?_; (try simp only [List.getElem_toArray, List.getElem_cons_zero, List.getElem_cons_succ, Act.put, List.setIfInBounds_toArray, List.set_cons_zero, List.set_cons_succ]))
          ((refine wpAnyH_take (i := 24) (v := ?_) rfl (by kernel_rfl) (by kernel_rfl) (by kernel_rfl) (fun _ _ _ h => h) (Or.inl ⟨by rfl, ?_⟩) (by assumption) ?_; rotate_left; (· intro w hSw; (try dsimp only at hSw); go_simp; first | done | with_reducible rfl); (try simp only [List.getElem_toArray, List.getElem_cons_zero, List.getElem_cons_succ, Act.put, List.setIfInBounds_toArray, List.set_cons_zero, List.set_cons_succ])); (refine wpAnyH_take (i := 25) (v := ?_) rfl (by kernel_rfl) (by kernel_rfl) (by kernel_rfl) (fun _ _ _ h => h) (Or.inl ⟨by rfl, ?_⟩) (by assumption) ?_; rotate_left; (· intro w hSw; (try dsimp only at hSw); go_simp; first | done | with_reducible rfl); (try simp only [List.getElem_toArray, List.getElem_cons_zero, List.getElem_cons_succ, Act.put, List.setIfInBounds_toArray, List.set_cons_zero, List.set_cons_succ])); (refine wpAnyH_take (i := 26) (v := ?_) rfl (by kernel_rfl) (by kernel_rfl) (by kernel_rfl) (fun _ _ _ h => h) (Or.inl ⟨by rfl, ?_⟩) (by assumption) ?_; rotate_left; (· intro w hSw; (try dsimp only at hSw); go_simp; first | done | with_reducible rfl); (try simp only [List.getElem_toArray, List.getElem_cons_zero, List.getElem_cons_succ, Act.put, List.setIfInBounds_toArray, List.set_cons_zero, List.set_cons_succ])); (refine wpAnyH_take (i := 27) (v := ?_) rfl (by kernel_rfl) (by kernel_rfl) (by kernel_rfl) (fun _ _ _ h => h) (Or.inl ⟨by rfl, ?_⟩) (by assumption) ?_; rotate_left; (· intro w hSw; (try dsimp only at hSw); go_simp; first | done | with_reducible rfl); (try simp only [List.getElem_toArray, List.getElem_cons_zero, List.getElem_cons_succ, Act.put, List.setIfInBounds_toArray, List.set_cons_zero, List.set_cons_succ])); (refine wpAnyH_take (i := 28) (v := ?_) rfl (by kernel_rfl) (by kernel_rfl) (by kernel_rfl) (fun _ _ _ h => h) (Or.inl ⟨by rfl, ?_⟩) (by assumption) ?_; rotate_left; (· intro w hSw; (try dsimp only at hSw); go_simp; first | done | with_reducible rfl); (try simp only [List.getElem_toArray, List.getElem_cons_zero, List.getElem_cons_succ, Act.put, List.setIfInBounds_toArray, List.set_cons_zero, List.set_cons_succ])); (refine wpAnyH_take (i := 29) (v := ?_) rfl (by kernel_rfl) (by kernel_rfl) (by kernel_rfl) (fun _ _ _ h => h) (Or.inl ⟨by rfl, ?_⟩) (by assumption) ?_; rotate_left; (· intro w hSw; (try dsimp only at hSw); go_simp; first | done | with_reducible rfl); (try simp only [List.getElem_toArray, List.getElem_cons_zero, List.getElem_cons_succ, Act.put, List.setIfInBounds_toArray, List.set_cons_zero, List.set_cons_succ])); (refine wpAnyH_take (i := 30) (v := ?_) rfl (by kernel_rfl) (by kernel_rfl) (by kernel_rfl) (fun _ _ _ h => h) (Or.inl ⟨by rfl, ?_⟩) (by assumption) ?_; rotate_left; (· intro w hSw; (try dsimp only at hSw); go_simp; first | done | with_reducible rfl); (try simp only [List.getElem_toArray, List.getElem_cons_zero, List.getElem_cons_succ, Act.put, List.setIfInBounds_toArray, List.set_cons_zero, List.set_cons_succ])); (refine wpAnyH_take (i := 31) (v := ?_) rfl (by kernel_rfl) (by kernel_rfl) (by kernel_rfl) (fun _ _ _ h => h) (Or.inl ⟨by rfl, ?_⟩) (by assumption) ?_; rotate_left; (· intro w hSw; (try dsimp only at hSw); go_simp; first | done | with_reducible rfl); (try simp only [List.getElem_toArray, List.getElem_cons_zero, List.getElem_cons_succ, Act.put, List.setIfInBounds_toArray, List.set_cons_zero, List.set_cons_succ])); (refine wpAnyH_take (i := 32) (v := ?_) rfl (by kernel_rfl) (by kernel_rfl) (by kernel_rfl) (fun _ _ _ h => h) (Or.inl ⟨by rfl, ?_⟩) (by assumption) ?_; rotate_left; (· intro w hSw; (try dsimp only at hSw); go_simp; first | done | with_reducible rfl); (try simp only [List.getElem_toArray, List.getElem_cons_zero, List.getElem_cons_succ, Act.put, List.setIfInBounds_toArray, List.set_cons_zero, List.set_cons_succ])); (refine wpAnyH_take (i := 33) (v := ?_) rfl (by kernel_rfl) (by kernel_rfl) (by kernel_rfl) (fun _ _ _ h => h) (Or.inl ⟨by rfl, ?_⟩) (by assumption) ?_; rotate_left; (· intro w hSw; (try dsimp only at hSw); go_simp; first | done | with_reducible rfl); (try simp only [List.getElem_toArray, List.getElem_cons_zero, List.getElem_cons_succ, Act.put, List.setIfInBounds_toArray, List.set_cons_zero, List.set_cons_succ])); (refine wpAnyH_take (i := 34) (v := ?_) rfl (by kernel_rfl) (by kernel_rfl) (by kernel_rfl) (fun _ _ _ h => h) (Or.inl ⟨by rfl, ?_⟩) (by assumption) ?_; rotate_left; (· intro w hSw; (try dsimp only at hSw); go_simp; first | done | with_reducible rfl); (try simp only [List.getElem_toArray, List.getElem_cons_zero, List.getElem_cons_succ, Act.put, List.setIfInBounds_toArray, List.set_cons_zero, List.set_cons_succ])))
          (refine wpAnyH_take (i := 35) (v := _) rfl (by kernel_rfl) (by kernel_rfl) (by kernel_rfl) (fun _ _ _ h => h) (yields_fc (by rfl) .neq _ _ _ _ rfl rfl .f32 _ _ rfl rfl (HQY.out)) (by assumption) ?_; (try simp only [List.getElem_toArray, List.getElem_cons_zero, List.getElem_cons_succ, Act.put, List.setIfInBounds_toArray, List.set_cons_zero, List.set_cons_succ]))
          ((refine wpAnyH_take (i := 36) (v := ?_) rfl (by kernel_rfl) (by kernel_rfl) (by kernel_rfl) (fun _ _ _ h => h) (Or.inl ⟨by rfl, ?_⟩) (by assumption) ?_; rotate_left; (· intro w hSw; (try dsimp only at hSw); go_simp; first | done | with_reducible rfl); (try simp only [List.getElem_toArray, List.getElem_cons_zero, List.getElem_cons_succ, Act.put, List.setIfInBounds_toArray, List.set_cons_zero, List.set_cons_succ])))
          (refine wpAnyH_done (by kernel_rfl) ?_ _; refine NoPanic.normal ?_)
          go_wp2_with fail
          go_meet
          case rel => exact ⟨rfl, Lib.hid hd3⟩
        · go_simp
          have hd1 := hd0.alloc hd0.size (.cells #[.complex .f32 u.a u.b, .complex .f32 u.x u.y, .float .f32 u.c, .float .f32 u.s] 43)
          have HOA := Lib.hid (q_one 0 v0 u (Nat.zero_le _))
          (refine hK.out _ _ (HS.out _ hd1) (fun hHeld => ?_); clear hK K; (try simp only [List.getElem_toArray, List.getElem_cons_zero, List.getElem_cons_succ, Act.put, List.setIfInBounds_toArray, List.set_cons_zero, List.set_cons_succ]))
          generalize v0.alloc (.cells #[.complex .f32 u.a u.b, .complex .f32 u.x u.y, .float .f32 u.c, .float .f32 u.s] 43) = v1 at *
          generalize v0.heap.size = n1 at HOA ⊢
          (refine wpAnyH_ready (rs := [4]) (by kernel_rfl) (by simp) ?_; refine AllReadyH.cons (i := 4) rfl (fun K hK => ?_) AllReadyH.nil)
          go_simp
          have hd2 := hd1.alloc hd1.size (.cells #[.complex .f32 u.a u.b, .complex .f32 u.x u.y, .float .f32 u.c, .float .f32 u.s] 43)
          have HOB := Lib.hid (q_one 0 v1 u (Nat.zero_le _))
          have HOA := Lib.hid (r4_below HOA.out ((Below.refl v1.heap.size v1).alloc (Nat.le_refl _) (.cells #[.complex .f32 u.a u.b, .complex .f32 u.x u.y, .float .f32 u.c, .float .f32 u.s] 43)))
          (refine hK.out _ _ (HS.out _ hd2) (fun hHeld => ?_); clear hK K; (try simp only [List.getElem_toArray, List.getElem_cons_zero, List.getElem_cons_succ, Act.put, List.setIfInBounds_toArray, List.set_cons_zero, List.set_cons_succ]))
          generalize v1.alloc (.cells #[.complex .f32 u.a u.b, .complex .f32 u.x u.y, .float .f32 u.c, .float .f32 u.s] 43) = v2 at *
          generalize v1.heap.size = n2 at HOB ⊢
          clear hd0 hd1
          (refine wpAnyH_ready (rs := [10]) (by kernel_rfl) (by simp) ?_; refine AllReadyH.cons (i := 10) rfl (fun K hK => ?_) AllReadyH.nil)
          go_simp
          refine (iSame_pq 0 0 _ _ [u] _ HOB.out HOA.out (by intro q hq; simp only [List.mem_singleton] at hq; rw [hq]; exact HU0.out) (by simp)).mono ?_
          rintro e v3 ⟨rfl, hb3⟩
          have hd3 := hd2.trans (hb3.mono hd2.size)
          clear hb3 HOA HOB
          go_wp2_with fail
          (refine hK.out _ _ (HS.out _ hd3) (fun hHeld => ?_); clear hK K; (try simp only [List.getElem_toArray, List.getElem_cons_zero, List.getElem_cons_succ, Act.put, List.setIfInBounds_toArray, List.set_cons_zero, List.set_cons_succ]))
          ((refine wpAnyH_take (i := 11) (v := ?_) rfl (by kernel_rfl) (by kernel_rfl) (by kernel_rfl) (fun _ _ _ h => h) (Or.inl ⟨by rfl, ?_⟩) (by assumption) ?_; rotate_left; (· intro w hSw; (try dsimp only at hSw); go_simp; first | done | with_reducible rfl); (try simp only [List.getElem_toArray, List.getElem_cons_zero, List.getElem_cons_succ, Act.put, List.setIfInBounds_toArray, List.set_cons_zero, List.set_cons_succ])); (refine wpAnyH_take (i := 12) (v := ?_) rfl (by kernel_rfl) (by kernel_rfl) (by kernel_rfl) (fun _ _ _ h => h) (Or.inl ⟨by rfl, ?_⟩) (by assumption) ?_; rotate_left; (· intro w hSw; (try dsimp only at hSw); go_simp; first | done | with_reducible rfl); (try simp only [List.getElem_toArray, List.getElem_cons_zero, List.getElem_cons_succ, Act.put, List.setIfInBounds_toArray, List.set_cons_zero, List.set_cons_succ])); (refine wpAnyH_take (i := 13) (v := ?_) rfl (by kernel_rfl) (by kernel_rfl) (by kernel_rfl) (fun _ _ _ h => h) (Or.inl ⟨by rfl, ?_⟩) (by assumption) ?_; rotate_left; (· intro w hSw; (try dsimp only at hSw); go_simp; first | done | with_reducible rfl); (try simp only [List.getElem_toArray, List.getElem_cons_zero, List.getElem_cons_succ, Act.put, List.setIfInBounds_toArray, List.set_cons_zero, List.set_cons_succ])); (refine wpAnyH_take (i := 14) (v := ?_) rfl (by kernel_rfl) (by kernel_rfl) (by kernel_rfl) (fun _ _ _ h => h) (Or.inl ⟨by rfl, ?_⟩) (by assumption) ?_; rotate_left; (· intro w hSw; (try dsimp only at hSw); go_simp; first | done | with_reducible rfl); (try simp only [List.getElem_toArray, List.getElem_cons_zero, List.getElem_cons_succ, Act.put, List.setIfInBounds_toArray, List.set_cons_zero, List.set_cons_succ])); (refine wpAnyH_take (i := 15) (v := ?_) rfl (by kernel_rfl) (by kernel_rfl) (by kernel_rfl) (fun _ _ _ h => h) (Or.inl ⟨by rfl, ?_⟩) (by assumption) ?_; rotate_left; (· intro w hSw; (try dsimp only at hSw); go_simp; first | done | with_reducible rfl); (try simp only [List.getElem_toArray, List.getElem_cons_zero, List.getElem_cons_succ, Act.put, List.setIfInBounds_toArray, List.set_cons_zero, List.set_cons_succ])); (refine wpAnyH_take (i := 16) (v := ?_) rfl (by kernel_rfl) (by kernel_rfl) (by kernel_rfl) (fun _ _ _ h => h) (Or.inl ⟨by rfl, ?_⟩) (by assumption) ?_; rotate_left; (· intro w hSw; (try dsimp only at hSw); go_simp; first | done | with_reducible rfl); (try simp only [List.getElem_toArray, List.getElem_cons_zero, List.getElem_cons_succ, Act.put, List.setIfInBounds_toArray, List.set_cons_zero, List.set_cons_succ])); (refine wpAnyH_take (i := 17) (v := ?_) rfl (by kernel_rfl) (by kernel_rfl) (by kernel_rfl) (fun _ _ _ h => h) (Or.inl ⟨by rfl, ?_⟩) (by assumption) ?_; rotate_left; (· intro w hSw; (try dsimp only at hSw); go_simp; first | done | with_reducible rfl); (try simp only [List.getElem_toArray, List.getElem_cons_zero, List.getElem_cons_succ, Act.put, List.setIfInBounds_toArray, List.set_cons_zero, List.set_cons_succ])); (refine wpAnyH_take (i := 18) (v := ?_) rfl (by kernel_rfl) (by kernel_rfl) (by kernel_rfl) (fun _ _ _ h => h) (Or.inl ⟨by rfl, ?_⟩) (by assumption) ?_; rotate_left; (· intro w hSw; (try dsimp only at hSw); go_simp; first | done | with_reducible rfl); (try simp only [List.getElem_toArray, List.getElem_cons_zero, List.getElem_cons_succ, Act.put, List.setIfInBounds_toArray, List.set_cons_zero, List.set_cons_succ])); (refine wpAnyH_take (i := 19) (v := ?_) rfl (by kernel_rfl) (by kernel_rfl) (by kernel_rfl) (fun _ _ _ h => h) (Or.inl ⟨by rfl, ?_⟩) (by assumption) ?_; rotate_left; (· intro w hSw; (try dsimp only at hSw); go_simp; first | done | with_reducible rfl); (try simp only [List.getElem_toArray, List.getElem_cons_zero, List.getElem_cons_succ, Act.put, List.setIfInBounds_toArray, List.set_cons_zero, List.set_cons_succ])); (refine wpAnyH_take (i := 20) (v := ?_) rfl (by kernel_rfl) (by kernel_rfl) (by kernel_rfl) (fun _ _ _ h => h) (Or.inl ⟨by rfl, ?_⟩) (by assumption) ?_; rotate_left; (· intro w hSw; (try dsimp only at hSw); go_simp; first | done | with_reducible rfl); (try simp only [List.getElem_toArray, List.getElem_cons_zero, List.getElem_cons_succ, Act.put, List.setIfInBounds_toArray, List.set_cons_zero, List.set_cons_succ])); (refine wpAnyH_take (i := 21) (v := ?_) rfl (by kernel_rfl) (by kernel_rfl) (by kernel_rfl) (fun _ _ _ h => h) (Or.inl ⟨by rfl, ?_⟩) (by assumption) ?_; rotate_left; (· intro w hSw; (try dsimp only at hSw); go_simp; first | done | with_reducible rfl); (try simp only [List.getElem_toArray, List.getElem_cons_zero, List.getElem_cons_succ, Act.put, List.setIfInBounds_toArray, List.set_cons_zero, List.set_cons_succ])); (refine wpAnyH_take (i := 22) (v := ?_) rfl (by kernel_rfl) (by kernel_rfl) (by kernel_rfl) (fun _ _ _ h => h) (Or.inl ⟨by rfl, ?_⟩) (by assumption) ?_; rotate_left; (· intro w hSw; (try dsimp only at hSw); go_simp; first | done | with_reducible rfl); (try simp only [List.getElem_toArray, List.getElem_cons_zero, List.getElem_cons_succ, Act.put, List.setIfInBounds_toArray, List.set_cons_zero, List.set_cons_succ])))
          (refine wpAnyH_take (i := 23) (v := _) rfl (by kernel_rfl) (by kernel_rfl) (by kernel_rfl) (fun _ _ _ h => h) (yields_fc (by rfl) .neq _ _ _ _ rfl rfl .f32 _ _ rfl rfl (HQB.out)) (by assumption) ?_; (try simp only [List.getElem_toArray, List.getElem_cons_zero, List.getElem_cons_succ, Act.put, List.setIfInBounds_toArray, List.set_cons_zero, List.set_cons_succ]))
          ((refine wpAnyH_take (i := 24) (v := ?_) rfl (by kernel_rfl) (by kernel_rfl) (by kernel_rfl) (fun _ _ _ h => h) (Or.inl ⟨by rfl, ?_⟩) (by assumption) ?_; rotate_left; (· intro w hSw; (try dsimp only at hSw); go_simp; first | done | with_reducible rfl); (try simp only [List.getElem_toArray, List.getElem_cons_zero, List.getElem_cons_succ, Act.put, List.setIfInBounds_toArray, List.set_cons_zero, List.set_cons_succ])); (refine wpAnyH_take (i := 25) (v := ?_) rfl (by kernel_rfl) (by kernel_rfl) (by kernel_rfl) (fun _ _ _ h => h) (Or.inl ⟨by rfl, ?_⟩) (by assumption) ?_; rotate_left; (· intro w hSw; (try dsimp only at hSw); go_simp; first | done | with_reducible rfl); (try simp only [List.getElem_toArray, List.getElem_cons_zero, List.getElem_cons_succ, Act.put, List.setIfInBounds_toArray, List.set_cons_zero, List.set_cons_succ])); (refine wpAnyH_take (i := 26) (v := ?_) rfl (by kernel_rfl) (by kernel_rfl) (by kernel_rfl) (fun _ _ _ h => h) (Or.inl ⟨by rfl, ?_⟩) (by assumption) ?_; rotate_left; (· intro w hSw; (try dsimp only at hSw); go_simp; first | done | with_reducible rfl); (try simp only [List.getElem_toArray, List.getElem_cons_zero, List.getElem_cons_succ, Act.put, List.setIfInBounds_toArray, List.set_cons_zero, List.set_cons_succ])); (refine wpAnyH_take (i := 27) (v := ?_) rfl (by kernel_rfl) (by kernel_rfl) (by kernel_rfl) (fun _ _ _ h => h) (Or.inl ⟨by rfl, ?_⟩) (by assumption) ?_; rotate_left; (· intro w hSw; (try dsimp only at hSw); go_simp; first | done | with_reducible rfl); (try simp only [List.getElem_toArray, List.getElem_cons_zero, List.getElem_cons_succ, Act.put, List.setIfInBounds_toArray, List.set_cons_zero, List.set_cons_succ])); (refine wpAnyH_take (i := 28) (v := ?_) rfl (by kernel_rfl) (by kernel_rfl) (by kernel_rfl) (fun _ _ _ h => h) (Or.inl ⟨by rfl, ?_⟩) (by assumption) ?_; rotate_left; (· intro w hSw; (try dsimp only at hSw); go_simp; first | done | with_reducible rfl); (try simp only [List.getElem_toArray, List.getElem_cons_zero, List.getElem_cons_succ, Act.put, List.setIfInBounds_toArray, List.set_cons_zero, List.set_cons_succ])); (refine wpAnyH_take (i := 29) (v := ?_) rfl (by kernel_rfl) (by kernel_rfl) (by kernel_rfl) (fun _ _ _ h => h) (Or.inl ⟨by rfl, ?_⟩) (by assumption) ?_; rotate_left; (· intro w hSw; (try dsimp only at hSw); go_simp; first | done | with_reducible rfl); (try simp only [List.getElem_toArray, List.getElem_cons_zero, List.getElem_cons_succ, Act.put, List.setIfInBounds_toArray, List.set_cons_zero, List.set_cons_succ])); (refine wpAnyH_take (i := 30) (v := ?_) rfl (by kernel_rfl) (by kernel_rfl) (by kernel_rfl) (fun _ _ _ h => h) (Or.inl ⟨by rfl, ?_⟩) (by assumption) ?_; rotate_left; (· intro w hSw; (try dsimp only at hSw); go_simp; first | done | with_reducible rfl); (try simp only [List.getElem_toArray, List.getElem_cons_zero, List.getElem_cons_succ, Act.put, List.setIfInBounds_toArray, List.set_cons_zero, List.set_cons_succ])); (refine wpAnyH_take (i := 31) (v := ?_) rfl (by kernel_rfl) (by kernel_rfl) (by kernel_rfl) (fun _ _ _ h => h) (Or.inl ⟨by rfl, ?_⟩) (by assumption) ?_; rotate_left; (· intro w hSw; (try dsimp only at hSw); go_simp; first | done | with_reducible rfl); (try simp only [List.getElem_toArray, List.getElem_cons_zero, List.getElem_cons_succ, Act.put, List.setIfInBounds_toArray, List.set_cons_zero, List.set_cons_succ])); (refine wpAnyH_take (i := 32) (v := ?_) rfl (by kernel_rfl) (by kernel_rfl) (by kernel_rfl) (fun _ _ _ h => h) (Or.inl ⟨by rfl, ?_⟩) (by assumption) ?_; rotate_left; (· intro w hSw; (try dsimp only at hSw); go_simp; first | done | with_reducible rfl); (try simp only [List.getElem_toArray, List.getElem_cons_zero, List.getElem_cons_succ, Act.put, List.setIfInBounds_toArray, List.set_cons_zero, List.set_cons_succ])); (refine wpAnyH_take (i := 33) (v := ?_) rfl (by kernel_rfl) (by kernel_rfl) (by kernel_rfl) (fun _ _ _ h => h) (Or.inl ⟨by rfl, ?_⟩) (by assumption) ?_; rotate_left; (· intro w hSw; (try dsimp only at hSw); go_simp; first | done | with_reducible rfl); (try simp only [List.getElem_toArray, List.getElem_cons_zero, List.getElem_cons_succ, Act.put, List.setIfInBounds_toArray, List.set_cons_zero, List.set_cons_succ])); (refine wpAnyH_take (i := 34) (v := ?_) rfl (by kernel_rfl) (by kernel_rfl) (by kernel_rfl) (fun _ _ _ h => h) (Or.inl ⟨by rfl, ?_⟩) (by assumption) ?_; rotate_left; (· intro w hSw; (try dsimp only at hSw); go_simp; first | done | with_reducible rfl); (try simp only [List.getElem_toArray, List.getElem_cons_zero, List.getElem_cons_succ, Act.put, List.setIfInBounds_toArray, List.set_cons_zero, List.set_cons_succ])))
          (refine wpAnyH_take (i := 35) (v := _) rfl (by kernel_rfl) (by kernel_rfl) (by kernel_rfl) (fun _ _ _ h => h) (yields_fc (by rfl) .neq _ _ _ _ rfl rfl .f32 _ _ rfl rfl (HQY.out)) (by assumption) ?_; (try simp only [List.getElem_toArray, List.getElem_cons_zero, List.getElem_cons_succ, Act.put, List.setIfInBounds_toArray, List.set_cons_zero, List.set_cons_succ]))
          ((refine wpAnyH_take (i := 36) (v := ?_) rfl (by kernel_rfl) (by kernel_rfl) (by kernel_rfl) (fun _ _ _ h => h) (Or.inl ⟨by rfl, ?_⟩) (by assumption) ?_; rotate_left; (· intro w hSw; (try dsimp only at hSw); go_simp; first | done | with_reducible rfl); (try simp only [List.getElem_toArray, List.getElem_cons_zero, List.getElem_cons_succ, Act.put, List.setIfInBounds_toArray, List.set_cons_zero, List.set_cons_succ])))
          (refine wpAnyH_done (by kernel_rfl) ?_ _; refine NoPanic.normal ?_)
          go_wp2_with fail
          go_meet
          case rel => exact ⟨rfl, Lib.hid hd3⟩
      case rest =>
        obtain ⟨rfl, HB9⟩ := hcut
        have HC9 := Lib.hid (show ∀ W, Below wc.heap.size wc W → _ from fun W hW => And.intro (HS.out W (HB9.out.trans (hW.mono HB9.out.size))).1 (HS.out W (HB9.out.trans (hW.mono HB9.out.size))).2.1)
        have HD9 := Lib.hid ((Below.refl wc.heap.size wc).drew)
        have j1 := HT.out.dy.is; have j2 := HNL.out.is; have j3 := HNH.out.is
        have HX3 := Lib.hid (nhalved_dv HT.out.ok.dx (by have := HT.out.ok.p0; omega) (by have := HT.out.ok.p1; omega))
        clear HS
        by_cases hlo : t.n < A
        · have q1 : fcmp .lss .f32 (E8 t.n) lo = true := (here_below HW.out HT.out).trans (decide_eq_true hlo)
          have hut : u = throwF lo hi 1056964608 t.pq := by
            rw [← HUE.out]; unfold reflF outB; rw [here_below HW.out HT.out, decide_eq_true hlo]; rfl
          have HA := Lib.hid (show Dy .f32 146 u.a (2 * A - t.n) from by have h := throw_a HW.out HT.out; rw [if_pos hlo] at h; rw [hut]; exact h)
          have HX4 := Lib.hid (show fcmp .neq .f32 u.x (fop .mul .f32 3204448256 t.x) = false from by rw [hut, (throw_x HT.out lo hi).neq HX3.out]; simp)
          have HS1 := Lib.hid (HA.out.sub32 HW.out.l (by decide) (by have := HW.out.a0; have := HW.out.ab; have := HW.out.b1; have := HT.out.n0; omega))
          have HS2 := Lib.hid (HW.out.l.sub32 HT.out.dy (by decide) (by have := HW.out.a0; have := HW.out.ab; have := HW.out.b1; have := HT.out.n0; have := HT.out.n1; omega))
          have HQ1 := Lib.hid (show fcmp .neq .f32 (fop .sub .f32 u.a lo) (fop .sub .f32 lo (E8 t.n)) = false from by rw [HS1.out.dv.neq HS2.out.dv]; simp; omega)
          clear hut
          go_upto_region 22 with (apply wpList_fcmp; rfl; rfl; rfl; rfl; (first | with_reducible assumption | exact Is.const rfl); (first | with_reducible assumption | exact Is.const rfl); (first | with_reducible assumption | exact rfl))
          refine wp_region_noPanic ?_
          refine wp_region_held_drew (S := fun W => (W.cell? ⟨b, 0, none⟩ = some (.complex .f32 u.a u.b) ∧ W.cell? ⟨b, 1, none⟩ = some (.complex .f32 u.x u.y) ∧ W.cell? ⟨b, 2, none⟩ = some (.float .f32 u.c) ∧ W.cell? ⟨b, 3, none⟩ = some (.float .f32 u.s)) ∧ (W.cell? ⟨g, k * 4, none⟩ = some (.complex .f32 (E8 t.n) (E8 t.m)) ∧ W.cell? ⟨g, k * 4 + 1, none⟩ = some (.complex .f32 t.x t.y) ∧ W.cell? ⟨g, k * 4 + 2, none⟩ = some (.float .f32 (E8 t.c)) ∧ W.cell? ⟨g, k * 4 + 3, none⟩ = some (.float .f32 (E8 t.s)))) (by kernel_rfl) (HC9.out _ HD9.out) (fun hHeld => ?_)
          ((refine wpAnyH_take (i := 0) (v := ?_) rfl (by kernel_rfl) (by kernel_rfl) (by kernel_rfl) (fun _ _ _ h => h) (Or.inl ⟨by rfl, ?_⟩) (by assumption) ?_; rotate_left; (· intro w hSw; (try dsimp only at hSw); go_simp; first | done | with_reducible rfl); (try simp only [List.getElem_toArray, List.getElem_cons_zero, List.getElem_cons_succ, Act.put, List.setIfInBounds_toArray, List.set_cons_zero, List.set_cons_succ])); (refine wpAnyH_take (i := 1) (v := ?_) rfl (by kernel_rfl) (by kernel_rfl) (by kernel_rfl) (fun _ _ _ h => h) (Or.inl ⟨by rfl, ?_⟩) (by assumption) ?_; rotate_left; (· intro w hSw; (try dsimp only at hSw); go_simp; first | done | with_reducible rfl); (try simp only [List.getElem_toArray, List.getElem_cons_zero, List.getElem_cons_succ, Act.put, List.setIfInBounds_toArray, List.set_cons_zero, List.set_cons_succ])); (refine wpAnyH_take (i := 2) (v := ?_) rfl (by kernel_rfl) (by kernel_rfl) (by kernel_rfl) (fun _ _ _ h => h) (Or.inl ⟨by rfl, ?_⟩) (by assumption) ?_; rotate_left; (· intro w hSw; (try dsimp only at hSw); go_simp; first | done | with_reducible rfl); (try simp only [List.getElem_toArray, List.getElem_cons_zero, List.getElem_cons_succ, Act.put, List.setIfInBounds_toArray, List.set_cons_zero, List.set_cons_succ])); (refine wpAnyH_take (i := 3) (v := ?_) rfl (by kernel_rfl) (by kernel_rfl) (by kernel_rfl) (fun _ _ _ h => h) (Or.inl ⟨by rfl, ?_⟩) (by assumption) ?_; rotate_left; (· intro w hSw; (try dsimp only at hSw); go_simp; first | done | with_reducible rfl); (try simp only [List.getElem_toArray, List.getElem_cons_zero, List.getElem_cons_succ, Act.put, List.setIfInBounds_toArray, List.set_cons_zero, List.set_cons_succ])))
          (refine wpAnyH_take (i := 4) (v := _) rfl (by kernel_rfl) (by kernel_rfl) (by kernel_rfl) (fun _ _ _ h => h) (yields_fa (by rfl) .sub _ _ _ _ rfl rfl .f32 _ _ rfl rfl (HS1.out.nan)) (by assumption) ?_; (try simp only [List.getElem_toArray, List.getElem_cons_zero, List.getElem_cons_succ, Act.put, List.setIfInBounds_toArray, List.set_cons_zero, List.set_cons_succ]))
          ((refine wpAnyH_take (i := 5) (v := ?_) rfl (by kernel_rfl) (by kernel_rfl) (by kernel_rfl) (fun _ _ _ h => h) (Or.inl ⟨by rfl, ?_⟩) (by assumption) ?_; rotate_left; (· intro w hSw; (try dsimp only at hSw); go_simp; first | done | with_reducible rfl); (try simp only [List.getElem_toArray, List.getElem_cons_zero, List.getElem_cons_succ, Act.put, List.setIfInBounds_toArray, List.set_cons_zero, List.set_cons_succ])); (refine wpAnyH_take (i := 6) (v := ?_) rfl (by kernel_rfl) (by kernel_rfl) (by kernel_rfl) (fun _ _ _ h => h) (Or.inl ⟨by rfl, ?_⟩) (by assumption) ?_; rotate_left; (· intro w hSw; (try dsimp only at hSw); go_simp; first | done | with_reducible rfl); (try simp only [List.getElem_toArray, List.getElem_cons_zero, List.getElem_cons_succ, Act.put, List.setIfInBounds_toArray, List.set_cons_zero, List.set_cons_succ])))
          (refine wpAnyH_take (i := 7) (v := _) rfl (by kernel_rfl) (by kernel_rfl) (by kernel_rfl) (fun _ _ _ h => h) (yields_fa (by rfl) .sub _ _ _ _ rfl rfl .f32 _ _ rfl rfl (HS2.out.nan)) (by assumption) ?_; (try simp only [List.getElem_toArray, List.getElem_cons_zero, List.getElem_cons_succ, Act.put, List.setIfInBounds_toArray, List.set_cons_zero, List.set_cons_succ]))
          (refine wpAnyH_take (i := 8) (v := _) rfl (by kernel_rfl) (by kernel_rfl) (by kernel_rfl) (fun _ _ _ h => h) (yields_fc (by rfl) .neq _ _ _ _ rfl rfl .f32 _ _ rfl rfl (HQ1.out)) (by assumption) ?_; (try simp only [List.getElem_toArray, List.getElem_cons_zero, List.getElem_cons_succ, Act.put, List.setIfInBounds_toArray, List.set_cons_zero, List.set_cons_succ]))
          ((refine wpAnyH_take (i := 9) (v := ?_) rfl (by kernel_rfl) (by kernel_rfl) (by kernel_rfl) (fun _ _ _ h => h) (Or.inl ⟨by rfl, ?_⟩) (by assumption) ?_; rotate_left; (· intro w hSw; (try dsimp only at hSw); go_simp; first | done | with_reducible rfl); (try simp only [List.getElem_toArray, List.getElem_cons_zero, List.getElem_cons_succ, Act.put, List.setIfInBounds_toArray, List.set_cons_zero, List.set_cons_succ])); (refine wpAnyH_take (i := 10) (v := ?_) rfl (by kernel_rfl) (by kernel_rfl) (by kernel_rfl) (fun _ _ _ h => h) (Or.inl ⟨by rfl, ?_⟩) (by assumption) ?_; rotate_left; (· intro w hSw; (try dsimp only at hSw); go_simp; first | done | with_reducible rfl); (try simp only [List.getElem_toArray, List.getElem_cons_zero, List.getElem_cons_succ, Act.put, List.setIfInBounds_toArray, List.set_cons_zero, List.set_cons_succ])); (refine wpAnyH_take (i := 11) (v := ?_) rfl (by kernel_rfl) (by kernel_rfl) (by kernel_rfl) (fun _ _ _ h => h) (Or.inl ⟨by rfl, ?_⟩) (by assumption) ?_; rotate_left; (· intro w hSw; (try dsimp only at hSw); go_simp; first | done | with_reducible rfl); (try simp only [List.getElem_toArray, List.getElem_cons_zero, List.getElem_cons_succ, Act.put, List.setIfInBounds_toArray, List.set_cons_zero, List.set_cons_succ])); (refine wpAnyH_take (i := 12) (v := ?_) rfl (by kernel_rfl) (by kernel_rfl) (by kernel_rfl) (fun _ _ _ h => h) (Or.inl ⟨by rfl, ?_⟩) (by assumption) ?_; rotate_left; (· intro w hSw; (try dsimp only at hSw); go_simp; first | done | with_reducible rfl); (try simp only [List.getElem_toArray, List.getElem_cons_zero, List.getElem_cons_succ, Act.put, List.setIfInBounds_toArray, List.set_cons_zero, List.set_cons_succ])); (refine wpAnyH_take (i := 13) (v := ?_) rfl (by kernel_rfl) (by kernel_rfl) (by kernel_rfl) (fun _ _ _ h => h) (Or.inl ⟨by rfl, ?_⟩) (by assumption) ?_; rotate_left; (· intro w hSw; (try dsimp only at hSw); go_simp; first | done | with_reducible rfl); (try simp only [List.getElem_toArray, List.getElem_cons_zero, List.getElem_cons_succ, Act.put, List.setIfInBounds_toArray, List.set_cons_zero, List.set_cons_succ])); (refine wpAnyH_take (i := 14) (v := ?_) rfl (by kernel_rfl) (by kernel_rfl) (by kernel_rfl) (fun _ _ _ h => h) (Or.inl ⟨by rfl, ?_⟩) (by assumption) ?_; rotate_left; (· intro w hSw; (try dsimp only at hSw); go_simp; first | done | with_reducible rfl); (try simp only [List.getElem_toArray, List.getElem_cons_zero, List.getElem_cons_succ, Act.put, List.setIfInBounds_toArray, List.set_cons_zero, List.set_cons_succ])); (refine wpAnyH_take (i := 15) (v := ?_) rfl (by kernel_rfl) (by kernel_rfl) (by kernel_rfl) (fun _ _ _ h => h) (Or.inl ⟨by rfl, ?_⟩) (by assumption) ?_; rotate_left; (· intro w hSw; (try dsimp only at hSw); go_simp; first | done | with_reducible rfl); (try simp only [List.getElem_toArray, List.getElem_cons_zero, List.getElem_cons_succ, Act.put, List.setIfInBounds_toArray, List.set_cons_zero, List.set_cons_succ])); (refine wpAnyH_take (i := 16) (v := ?_) rfl (by kernel_rfl) (by kernel_rfl) (by kernel_rfl) (fun _ _ _ h => h) (Or.inl ⟨by rfl, ?_⟩) (by assumption) ?_; rotate_left; (· intro w hSw; (try dsimp only at hSw); go_simp; first | done | with_reducible rfl); (try simp only [List.getElem_toArray, List.getElem_cons_zero, List.getElem_cons_succ, Act.put, List.setIfInBounds_toArray, List.set_cons_zero, List.set_cons_succ])); (refine wpAnyH_take (i := 17) (v := ?_) rfl (by kernel_rfl) (by kernel_rfl) (by kernel_rfl) (fun _ _ _ h => h) (Or.inl ⟨by rfl, ?_⟩) (by assumption) ?_; rotate_left; (· intro w hSw; (try dsimp only at hSw); go_simp; first | done | with_reducible rfl); (try simp only [List.getElem_toArray, List.getElem_cons_zero, List.getElem_cons_succ, Act.put, List.setIfInBounds_toArray, List.set_cons_zero, List.set_cons_succ])); (refine wpAnyH_take (i := 18) (v := ?_) rfl (by kernel_rfl) (by kernel_rfl) (by kernel_rfl) (fun _ _ _ h => h) (Or.inl ⟨by rfl, ?_⟩) (by assumption) ?_; rotate_left; (· intro w hSw; (try dsimp only at hSw); go_simp; first | done | with_reducible rfl); (try simp only [List.getElem_toArray, List.getElem_cons_zero, List.getElem_cons_succ, Act.put, List.setIfInBounds_toArray, List.set_cons_zero, List.set_cons_succ])))
          (refine wpAnyH_take (i := 19) (v := _) rfl (by kernel_rfl) (by kernel_rfl) (by kernel_rfl) (fun _ _ _ h => h) (yields_fa (by rfl) .mul _ _ _ _ rfl rfl .f32 _ _ rfl rfl (HX3.out.nan)) (by assumption) ?_; (try simp only [List.getElem_toArray, List.getElem_cons_zero, List.getElem_cons_succ, Act.put, List.setIfInBounds_toArray, List.set_cons_zero, List.set_cons_succ]))
          (refine wpAnyH_take (i := 20) (v := _) rfl (by kernel_rfl) (by kernel_rfl) (by kernel_rfl) (fun _ _ _ h => h) (yields_fc (by rfl) .neq _ _ _ _ rfl rfl .f32 _ _ rfl rfl (HX4.out)) (by assumption) ?_; (try simp only [List.getElem_toArray, List.getElem_cons_zero, List.getElem_cons_succ, Act.put, List.setIfInBounds_toArray, List.set_cons_zero, List.set_cons_succ]))
          ((refine wpAnyH_take (i := 21) (v := ?_) rfl (by kernel_rfl) (by kernel_rfl) (by kernel_rfl) (fun _ _ _ h => h) (Or.inl ⟨by rfl, ?_⟩) (by assumption) ?_; rotate_left; (· intro w hSw; (try dsimp only at hSw); go_simp; first | done | with_reducible rfl); (try simp only [List.getElem_toArray, List.getElem_cons_zero, List.getElem_cons_succ, Act.put, List.setIfInBounds_toArray, List.set_cons_zero, List.set_cons_succ])))
          (refine wpAnyH_done (by kernel_rfl) ?_ _; refine NoPanic.normal ?_)
          clear hHeld
          go_wp2_with fail
          go_roundw
          case rel => exact ⟨k + 1, by omega, by go_num, Lib.hid (HB.out.trans ((HB8.out.trans (HB9.out.drew.mono HB8.out.size)).mono HB.out.size))⟩
          case measure => simp [intOf]; omega
        · have q1 : fcmp .lss .f32 (E8 t.n) lo = false := (here_below HW.out HT.out).trans (decide_eq_false hlo)
          by_cases hhi : t.n > B
          · have q2 : fcmp .gtr .f32 (E8 t.n) hi = true := (here_above HW.out HT.out).trans (decide_eq_true hhi)
            have hut : u = throwF lo hi 1056964608 t.pq := by
              rw [← HUE.out]; unfold reflF outB; rw [here_below HW.out HT.out, here_above HW.out HT.out, decide_eq_true hhi, Bool.or_true]; rfl
            have HA := Lib.hid (show Dy .f32 146 u.a (2 * B - t.n) from by have h := throw_a HW.out HT.out; rw [if_neg hlo] at h; rw [hut]; exact h)
            have HX4 := Lib.hid (show fcmp .neq .f32 u.x (fop .mul .f32 3204448256 t.x) = false from by rw [hut, (throw_x HT.out lo hi).neq HX3.out]; simp)
            have HS1 := Lib.hid (HW.out.h.sub32 HA.out (by decide) (by have := HW.out.a0; have := HW.out.ab; have := HW.out.b1; have := HT.out.n0; have := HT.out.n1; omega))
            have HS2 := Lib.hid (HT.out.dy.sub32 HW.out.h (by decide) (by have := HW.out.a0; have := HW.out.ab; have := HW.out.b1; have := HT.out.n0; have := HT.out.n1; omega))
            have HQ1 := Lib.hid (show fcmp .neq .f32 (fop .sub .f32 hi u.a) (fop .sub .f32 (E8 t.n) hi) = false from by rw [HS1.out.dv.neq HS2.out.dv]; simp; omega)
            clear hut
            go_upto_region 25 with (apply wpList_fcmp; rfl; rfl; rfl; rfl; (first | with_reducible assumption | exact Is.const rfl); (first | with_reducible assumption | exact Is.const rfl); (first | with_reducible assumption | exact rfl))
            refine wp_region_noPanic ?_
            refine wp_region_held_drew (S := fun W => (W.cell? ⟨b, 0, none⟩ = some (.complex .f32 u.a u.b) ∧ W.cell? ⟨b, 1, none⟩ = some (.complex .f32 u.x u.y) ∧ W.cell? ⟨b, 2, none⟩ = some (.float .f32 u.c) ∧ W.cell? ⟨b, 3, none⟩ = some (.float .f32 u.s)) ∧ (W.cell? ⟨g, k * 4, none⟩ = some (.complex .f32 (E8 t.n) (E8 t.m)) ∧ W.cell? ⟨g, k * 4 + 1, none⟩ = some (.complex .f32 t.x t.y) ∧ W.cell? ⟨g, k * 4 + 2, none⟩ = some (.float .f32 (E8 t.c)) ∧ W.cell? ⟨g, k * 4 + 3, none⟩ = some (.float .f32 (E8 t.s)))) (by kernel_rfl) (HC9.out _ HD9.out) (fun hHeld => ?_)
            ((refine wpAnyH_take (i := 0) (v := ?_) rfl (by kernel_rfl) (by kernel_rfl) (by kernel_rfl) (fun _ _ _ h => h) (Or.inl ⟨by rfl, ?_⟩) (by assumption) ?_; rotate_left; (· intro w hSw; (try dsimp only at hSw); go_simp; first | done | with_reducible rfl); (try simp only [List.getElem_toArray, List.getElem_cons_zero, List.getElem_cons_succ, Act.put, List.setIfInBounds_toArray, List.set_cons_zero, List.set_cons_succ])); (refine wpAnyH_take (i := 1) (v := ?_) rfl (by kernel_rfl) (by kernel_rfl) (by kernel_rfl) (fun _ _ _ h => h) (Or.inl ⟨by rfl, ?_⟩) (by assumption) ?_; rotate_left; (· intro w hSw; (try dsimp only at hSw); go_simp; first | done | with_reducible rfl); (try simp only [List.getElem_toArray, List.getElem_cons_zero, List.getElem_cons_succ, Act.put, List.setIfInBounds_toArray, List.set_cons_zero, List.set_cons_succ])); (refine wpAnyH_take (i := 2) (v := ?_) rfl (by kernel_rfl) (by kernel_rfl) (by kernel_rfl) (fun _ _ _ h => h) (Or.inl ⟨by rfl, ?_⟩) (by assumption) ?_; rotate_left; (· intro w hSw; (try dsimp only at hSw); go_simp; first | done | with_reducible rfl); (try simp only [List.getElem_toArray, List.getElem_cons_zero, List.getElem_cons_succ, Act.put, List.setIfInBounds_toArray, List.set_cons_zero, List.set_cons_succ])); (refine wpAnyH_take (i := 3) (v := ?_) rfl (by kernel_rfl) (by kernel_rfl) (by kernel_rfl) (fun _ _ _ h => h) (Or.inl ⟨by rfl, ?_⟩) (by assumption) ?_; rotate_left; (· intro w hSw; (try dsimp only at hSw); go_simp; first | done | with_reducible rfl); (try simp only [List.getElem_toArray, List.getElem_cons_zero, List.getElem_cons_succ, Act.put, List.setIfInBounds_toArray, List.set_cons_zero, List.set_cons_succ])))
            (refine wpAnyH_take (i := 4) (v := _) rfl (by kernel_rfl) (by kernel_rfl) (by kernel_rfl) (fun _ _ _ h => h) (yields_fa (by rfl) .sub _ _ _ _ rfl rfl .f32 _ _ rfl rfl (HS1.out.nan)) (by assumption) ?_; (try simp only [List.getElem_toArray, List.getElem_cons_zero, List.getElem_cons_succ, Act.put, List.setIfInBounds_toArray, List.set_cons_zero, List.set_cons_succ]))
            ((refine wpAnyH_take (i := 5) (v := ?_) rfl (by kernel_rfl) (by kernel_rfl) (by kernel_rfl) (fun _ _ _ h => h) (Or.inl ⟨by rfl, ?_⟩) (by assumption) ?_; rotate_left; (· intro w hSw; (try dsimp only at hSw); go_simp; first | done | with_reducible rfl); (try simp only [List.getElem_toArray, List.getElem_cons_zero, List.getElem_cons_succ, Act.put, List.setIfInBounds_toArray, List.set_cons_zero, List.set_cons_succ])); (refine wpAnyH_take (i := 6) (v := ?_) rfl (by kernel_rfl) (by kernel_rfl) (by kernel_rfl) (fun _ _ _ h => h) (Or.inl ⟨by rfl, ?_⟩) (by assumption) ?_; rotate_left; (· intro w hSw; (try dsimp only at hSw); go_simp; first | done | with_reducible rfl); (try simp only [List.getElem_toArray, List.getElem_cons_zero, List.getElem_cons_succ, Act.put, List.setIfInBounds_toArray, List.set_cons_zero, List.set_cons_succ])))
            (refine wpAnyH_take (i := 7) (v := _) rfl (by kernel_rfl) (by kernel_rfl) (by kernel_rfl) (fun _ _ _ h => h) (yields_fa (by rfl) .sub _ _ _ _ rfl rfl .f32 _ _ rfl rfl (HS2.out.nan)) (by assumption) ?_; (try simp only [List.getElem_toArray, List.getElem_cons_zero, List.getElem_cons_succ, Act.put, List.setIfInBounds_toArray, List.set_cons_zero, List.set_cons_succ]))
            (refine wpAnyH_take (i := 8) (v := _) rfl (by kernel_rfl) (by kernel_rfl) (by kernel_rfl) (fun _ _ _ h => h) (yields_fc (by rfl) .neq _ _ _ _ rfl rfl .f32 _ _ rfl rfl (HQ1.out)) (by assumption) ?_; (try simp only [List.getElem_toArray, List.getElem_cons_zero, List.getElem_cons_succ, Act.put, List.setIfInBounds_toArray, List.set_cons_zero, List.set_cons_succ]))
            ((refine wpAnyH_take (i := 9) (v := ?_) rfl (by kernel_rfl) (by kernel_rfl) (by kernel_rfl) (fun _ _ _ h => h) (Or.inl ⟨by rfl, ?_⟩) (by assumption) ?_; rotate_left; (· intro w hSw; (try dsimp only at hSw); go_simp; first | done | with_reducible rfl); (try simp only [List.getElem_toArray, List.getElem_cons_zero, List.getElem_cons_succ, Act.put, List.setIfInBounds_toArray, List.set_cons_zero, List.set_cons_succ])); (refine wpAnyH_take (i := 10) (v := ?_) rfl (by kernel_rfl) (by kernel_rfl) (by kernel_rfl) (fun _ _ _ h => h) (Or.inl ⟨by rfl, ?_⟩) (by assumption) ?_; rotate_left; (· intro w hSw; (try dsimp only at hSw); go_simp; first | done | with_reducible rfl); (try simp only [List.getElem_toArray, List.getElem_cons_zero, List.getElem_cons_succ, Act.put, List.setIfInBounds_toArray, List.set_cons_zero, List.set_cons_succ])); (refine wpAnyH_take (i := 11) (v := ?_) rfl (by kernel_rfl) (by kernel_rfl) (by kernel_rfl) (fun _ _ _ h => h) (Or.inl ⟨by rfl, ?_⟩) (by assumption) ?_; rotate_left; (· intro w hSw; (try dsimp only at hSw); go_simp; first | done | with_reducible rfl); (try simp only [List.getElem_toArray, List.getElem_cons_zero, List.getElem_cons_succ, Act.put, List.setIfInBounds_toArray, List.set_cons_zero, List.set_cons_succ])); (refine wpAnyH_take (i := 12) (v := ?_) rfl (by kernel_rfl) (by kernel_rfl) (by kernel_rfl) (fun _ _ _ h => h) (Or.inl ⟨by rfl, ?_⟩) (by assumption) ?_; rotate_left; (· intro w hSw; (try dsimp only at hSw); go_simp; first | done | with_reducible rfl); (try simp only [List.getElem_toArray, List.getElem_cons_zero, List.getElem_cons_succ, Act.put, List.setIfInBounds_toArray, List.set_cons_zero, List.set_cons_succ])); (refine wpAnyH_take (i := 13) (v := ?_) rfl (by kernel_rfl) (by kernel_rfl) (by kernel_rfl) (fun _ _ _ h => h) (Or.inl ⟨by rfl, ?_⟩) (by assumption) ?_; rotate_left; (· intro w hSw; (try dsimp only at hSw); go_simp; first | done | with_reducible rfl); (try simp only [List.getElem_toArray, List.getElem_cons_zero, List.getElem_cons_succ, Act.put, List.setIfInBounds_toArray, List.set_cons_zero, List.set_cons_succ])); (refine wpAnyH_take (i := 14) (v := ?_) rfl (by kernel_rfl) (by kernel_rfl) (by kernel_rfl) (fun _ _ _ h => h) (Or.inl ⟨by rfl, ?_⟩) (by assumption) ?_; rotate_left; (· intro w hSw; (try dsimp only at hSw); go_simp; first | done | with_reducible rfl); (try simp only [List.getElem_toArray, List.getElem_cons_zero, List.getElem_cons_succ, Act.put, List.setIfInBounds_toArray, List.set_cons_zero, List.set_cons_succ])); (refine wpAnyH_take (i := 15) (v := ?_) rfl (by kernel_rfl) (by kernel_rfl) (by kernel_rfl) (fun _ _ _ h => h) (Or.inl ⟨by rfl, ?_⟩) (by assumption) ?_; rotate_left; (· intro w hSw; (try dsimp only at hSw); go_simp; first | done | with_reducible rfl); (try simp only [List.getElem_toArray, List.getElem_cons_zero, List.getElem_cons_succ, Act.put, List.setIfInBounds_toArray, List.set_cons_zero, List.set_cons_succ])); (refine wpAnyH_take (i := 16) (v := ?_) rfl (by kernel_rfl) (by kernel_rfl) (by kernel_rfl) (fun _ _ _ h => h) (Or.inl ⟨by rfl, ?_⟩) (by assumption) ?_; rotate_left; (· intro w hSw; (try dsimp only at hSw); go_simp; first | done | with_reducible rfl); (try simp only [List.getElem_toArray, List.getElem_cons_zero, List.getElem_cons_succ, Act.put, List.setIfInBounds_toArray, List.set_cons_zero, List.set_cons_succ])); (refine wpAnyH_take (i := 17) (v := ?_) rfl (by kernel_rfl) (by kernel_rfl) (by kernel_rfl) (fun _ _ _ h => h) (Or.inl ⟨by rfl, ?_⟩) (by assumption) ?_; rotate_left; (· intro w hSw; (try dsimp only at hSw); go_simp; first | done | with_reducible rfl); (try simp only [List.getElem_toArray, List.getElem_cons_zero, List.getElem_cons_succ, Act.put, List.setIfInBounds_toArray, List.set_cons_zero, List.set_cons_succ])); (refine wpAnyH_take (i := 18) (v := ?_) rfl (by kernel_rfl) (by kernel_rfl) (by kernel_rfl) (fun _ _ _ h => h) (Or.inl ⟨by rfl, ?_⟩) (by assumption) ?_; rotate_left; (· intro w hSw; (try dsimp only at hSw); go_simp; first | done | with_reducible rfl); (try simp only [List.getElem_toArray, List.getElem_cons_zero, List.getElem_cons_succ, Act.put, List.setIfInBounds_toArray, List.set_cons_zero, List.set_cons_succ])))
            (refine wpAnyH_take (i := 19) (v := _) rfl (by kernel_rfl) (by kernel_rfl) (by kernel_rfl) (fun _ _ _ h => h) (yields_fa (by rfl) .mul _ _ _ _ rfl rfl .f32 _ _ rfl rfl (HX3.out.nan)) (by assumption) ?_; (try simp only [List.getElem_toArray, List.getElem_cons_zero, List.getElem_cons_succ, Act.put, List.setIfInBounds_toArray, List.set_cons_zero, List.set_cons_succ]))
            (refine wpAnyH_take (i := 20) (v := _) rfl (by kernel_rfl) (by kernel_rfl) (by kernel_rfl) (fun _ _ _ h => h) (yields_fc (by rfl) .neq _ _ _ _ rfl rfl .f32 _ _ rfl rfl (HX4.out)) (by assumption) ?_; (try simp only [List.getElem_toArray, List.getElem_cons_zero, List.getElem_cons_succ, Act.put, List.setIfInBounds_toArray, List.set_cons_zero, List.set_cons_succ]))
            ((refine wpAnyH_take (i := 21) (v := ?_) rfl (by kernel_rfl) (by kernel_rfl) (by kernel_rfl) (fun _ _ _ h => h) (Or.inl ⟨by rfl, ?_⟩) (by assumption) ?_; rotate_left; (· intro w hSw; (try dsimp only at hSw); go_simp; first | done | with_reducible rfl); (try simp only [List.getElem_toArray, List.getElem_cons_zero, List.getElem_cons_succ, Act.put, List.setIfInBounds_toArray, List.set_cons_zero, List.set_cons_succ])))
            (refine wpAnyH_done (by kernel_rfl) ?_ _; refine NoPanic.normal ?_)
            clear hHeld
            go_wp2_with fail
            go_roundw
            case rel => exact ⟨k + 1, by omega, by go_num, Lib.hid (HB.out.trans ((HB8.out.trans (HB9.out.drew.mono HB8.out.size)).mono HB.out.size))⟩
            case measure => simp [intOf]; omega
          · have q2 : fcmp .gtr .f32 (E8 t.n) hi = false := (here_above HW.out HT.out).trans (decide_eq_false hhi)
            have HUT := Lib.hid (show u = t.pq from by
              rw [← HUE.out]; unfold reflF outB; rw [here_below HW.out HT.out, here_above HW.out HT.out, decide_eq_false hlo, decide_eq_false hhi]; rfl)
            go_upto_region 19 with (apply wpList_fcmp; rfl; rfl; rfl; rfl; (first | with_reducible assumption | exact Is.const rfl); (first | with_reducible assumption | exact Is.const rfl); (first | with_reducible assumption | exact rfl))
            have hd0 := HD9.out
            refine wp_region_noPanic ?_
            refine wp_region_held_drew (S := fun W => (W.cell? ⟨b, 0, none⟩ = some (.complex .f32 u.a u.b) ∧ W.cell? ⟨b, 1, none⟩ = some (.complex .f32 u.x u.y) ∧ W.cell? ⟨b, 2, none⟩ = some (.float .f32 u.c) ∧ W.cell? ⟨b, 3, none⟩ = some (.float .f32 u.s)) ∧ (W.cell? ⟨g, k * 4, none⟩ = some (.complex .f32 (E8 t.n) (E8 t.m)) ∧ W.cell? ⟨g, k * 4 + 1, none⟩ = some (.complex .f32 t.x t.y) ∧ W.cell? ⟨g, k * 4 + 2, none⟩ = some (.float .f32 (E8 t.c)) ∧ W.cell? ⟨g, k * 4 + 3, none⟩ = some (.float .f32 (E8 t.s)))) (by kernel_rfl) (HC9.out _ hd0) (fun hHeld => ?_)
            generalize wc.drew = v0 at hd0 hHeld ⊢
            ((refine wpAnyH_take (i := 0) (v := ?_) rfl (by kernel_rfl) (by kernel_rfl) (by kernel_rfl) (fun _ _ _ h => h) (Or.inl ⟨by rfl, ?_⟩) (by assumption) ?_; rotate_left; (· intro w hSw; (try dsimp only at hSw); go_simp; first | done | with_reducible rfl); (try simp only [List.getElem_toArray, List.getElem_cons_zero, List.getElem_cons_succ, Act.put, List.setIfInBounds_toArray, List.set_cons_zero, List.set_cons_succ])); (refine wpAnyH_take (i := 2) (v := ?_) rfl (by kernel_rfl) (by kernel_rfl) (by kernel_rfl) (fun _ _ _ h => h) (Or.inl ⟨by rfl, ?_⟩) (by assumption) ?_; rotate_left; (· intro w hSw; (try dsimp only at hSw); go_simp; first | done | with_reducible rfl); (try simp only [List.getElem_toArray, List.getElem_cons_zero, List.getElem_cons_succ, Act.put, List.setIfInBounds_toArray, List.set_cons_zero, List.set_cons_succ])); (refine wpAnyH_take (i := 3) (v := ?_) rfl (by kernel_rfl) (by kernel_rfl) (by kernel_rfl) (fun _ _ _ h => h) (Or.inl ⟨by rfl, ?_⟩) (by assumption) ?_; rotate_left; (· intro w hSw; (try dsimp only at hSw); go_simp; first | done | with_reducible rfl); (try simp only [List.getElem_toArray, List.getElem_cons_zero, List.getElem_cons_succ, Act.put, List.setIfInBounds_toArray, List.set_cons_zero, List.set_cons_succ])); (refine wpAnyH_take (i := 4) (v := ?_) rfl (by kernel_rfl) (by kernel_rfl) (by kernel_rfl) (fun _ _ _ h => h) (Or.inl ⟨by rfl, ?_⟩) (by assumption) ?_; rotate_left; (· intro w hSw; (try dsimp only at hSw); go_simp; first | done | with_reducible rfl); (try simp only [List.getElem_toArray, List.getElem_cons_zero, List.getElem_cons_succ, Act.put, List.setIfInBounds_toArray, List.set_cons_zero, List.set_cons_succ])); (refine wpAnyH_take (i := 5) (v := ?_) rfl (by kernel_rfl) (by kernel_rfl) (by kernel_rfl) (fun _ _ _ h => h) (Or.inl ⟨by rfl, ?_⟩) (by assumption) ?_; rotate_left; (· intro w hSw; (try dsimp only at hSw); go_simp; first | done | with_reducible rfl); (try simp only [List.getElem_toArray, List.getElem_cons_zero, List.getElem_cons_succ, Act.put, List.setIfInBounds_toArray, List.set_cons_zero, List.set_cons_succ])))
            refine wpAnyH_ready (rs := [1, 6]) (by kernel_rfl) (by simp) ?_
            refine AllReadyH.cons (i := 1) rfl (fun K hK => ?_) (AllReadyH.cons (i := 6) rfl (fun K hK => ?_) AllReadyH.nil)
            · go_simp
              have hd1 := hd0.alloc hd0.size (.cells #[.complex .f32 u.a u.b, .complex .f32 u.x u.y, .float .f32 u.c, .float .f32 u.s] 43)
              have HOA := Lib.hid (show QOwn 0 (v0.alloc (.cells #[.complex .f32 u.a u.b, .complex .f32 u.x u.y, .float .f32 u.c, .float .f32 u.s] 43)) (.slice (some ⟨v0.heap.size, 0, none⟩) 1 1) [t.pq] from by have h := q_one 0 v0 u (Nat.zero_le _); rw [HUT.out] at h; simpa [HUT.out] using h)
              (refine hK.out _ _ (HC9.out _ hd1) (fun hHeld => ?_); clear hK K; (try simp only [List.getElem_toArray, List.getElem_cons_zero, List.getElem_cons_succ, Act.put, List.setIfInBounds_toArray, List.set_cons_zero, List.set_cons_succ]))
              generalize v0.alloc (.cells #[.complex .f32 u.a u.b, .complex .f32 u.x u.y, .float .f32 u.c, .float .f32 u.s] 43) = v1 at *
              generalize v0.heap.size = n1 at HOA ⊢
              (refine wpAnyH_ready (rs := [6]) (by kernel_rfl) (by simp) ?_; refine AllReadyH.cons (i := 6) rfl (fun K hK => ?_) AllReadyH.nil)
              go_simp
              have hd2 := hd1.alloc hd1.size (.cells #[.complex .f32 (E8 t.n) (E8 t.m), .complex .f32 t.x t.y, .float .f32 (E8 t.c), .float .f32 (E8 t.s)] 43)
              have HOB := Lib.hid (show QOwn 0 (v1.alloc (.cells #[.complex .f32 (E8 t.n) (E8 t.m), .complex .f32 t.x t.y, .float .f32 (E8 t.c), .float .f32 (E8 t.s)] 43)) (.slice (some ⟨v1.heap.size, 0, none⟩) 1 1) [t.pq] from q_one 0 v1 t.pq (Nat.zero_le _))
              have HOA := Lib.hid (r4_below HOA.out ((Below.refl v1.heap.size v1).alloc (Nat.le_refl _) (.cells #[.complex .f32 (E8 t.n) (E8 t.m), .complex .f32 t.x t.y, .float .f32 (E8 t.c), .float .f32 (E8 t.s)] 43)))
              (refine hK.out _ _ (HC9.out _ hd2) (fun hHeld => ?_); clear hK K; (try simp only [List.getElem_toArray, List.getElem_cons_zero, List.getElem_cons_succ, Act.put, List.setIfInBounds_toArray, List.set_cons_zero, List.set_cons_succ]))
              generalize v1.alloc (.cells #[.complex .f32 (E8 t.n) (E8 t.m), .complex .f32 t.x t.y, .float .f32 (E8 t.c), .float .f32 (E8 t.s)] 43) = v2 at *
              generalize v1.heap.size = n2 at HOB ⊢
              clear hd0 hd1
              (refine wpAnyH_ready (rs := [7]) (by kernel_rfl) (by simp) ?_; refine AllReadyH.cons (i := 7) rfl (fun K hK => ?_) AllReadyH.nil)
              go_simp
              refine (iSame_pq 0 0 _ _ [t.pq] _ HOA.out HOB.out (by intro q hq; simp only [List.mem_singleton] at hq; rw [hq]; exact HT.out.ok.pq) (by simp)).mono ?_
              rintro e v3 ⟨rfl, hb3⟩
              have hd3 := hd2.trans (hb3.mono hd2.size)
              clear hb3 HOA HOB
              go_wp2_with fail
              (refine hK.out _ _ (HC9.out _ hd3) (fun hHeld => ?_); clear hK K; (try simp only [List.getElem_toArray, List.getElem_cons_zero, List.getElem_cons_succ, Act.put, List.setIfInBounds_toArray, List.set_cons_zero, List.set_cons_succ]))
              ((refine wpAnyH_take (i := 8) (v := ?_) rfl (by kernel_rfl) (by kernel_rfl) (by kernel_rfl) (fun _ _ _ h => h) (Or.inl ⟨by rfl, ?_⟩) (by assumption) ?_; rotate_left; (· intro w hSw; (try dsimp only at hSw); go_simp; first | done | with_reducible rfl); (try simp only [List.getElem_toArray, List.getElem_cons_zero, List.getElem_cons_succ, Act.put, List.setIfInBounds_toArray, List.set_cons_zero, List.set_cons_succ])))
              (refine wpAnyH_done (by kernel_rfl) ?_ _; refine NoPanic.normal ?_)
              clear hHeld
              go_wp2_with fail
              go_roundw
              case rel => exact ⟨k + 1, by omega, by go_num, Lib.hid (HB.out.trans ((HB8.out.trans ((HB9.out.trans (hd3.mono HB9.out.size)).mono HB8.out.size)).mono HB.out.size))⟩
              case measure => simp [intOf]; omega
            · go_simp
              have hd1 := hd0.alloc hd0.size (.cells #[.complex .f32 (E8 t.n) (E8 t.m), .complex .f32 t.x t.y, .float .f32 (E8 t.c), .float .f32 (E8 t.s)] 43)
              have HOA := Lib.hid (show QOwn 0 (v0.alloc (.cells #[.complex .f32 (E8 t.n) (E8 t.m), .complex .f32 t.x t.y, .float .f32 (E8 t.c), .float .f32 (E8 t.s)] 43)) (.slice (some ⟨v0.heap.size, 0, none⟩) 1 1) [t.pq] from q_one 0 v0 t.pq (Nat.zero_le _))
              (refine hK.out _ _ (HC9.out _ hd1) (fun hHeld => ?_); clear hK K; (try simp only [List.getElem_toArray, List.getElem_cons_zero, List.getElem_cons_succ, Act.put, List.setIfInBounds_toArray, List.set_cons_zero, List.set_cons_succ]))
              generalize v0.alloc (.cells #[.complex .f32 (E8 t.n) (E8 t.m), .complex .f32 t.x t.y, .float .f32 (E8 t.c), .float .f32 (E8 t.s)] 43) = v1 at *
              generalize v0.heap.size = n1 at HOA ⊢
              (refine wpAnyH_ready (rs := [1]) (by kernel_rfl) (by simp) ?_; refine AllReadyH.cons (i := 1) rfl (fun K hK => ?_) AllReadyH.nil)
              go_simp
              have hd2 := hd1.alloc hd1.size (.cells #[.complex .f32 u.a u.b, .complex .f32 u.x u.y, .float .f32 u.c, .float .f32 u.s] 43)
              have HOB := Lib.hid (show QOwn 0 (v1.alloc (.cells #[.complex .f32 u.a u.b, .complex .f32 u.x u.y, .float .f32 u.c, .float .f32 u.s] 43)) (.slice (some ⟨v1.heap.size, 0, none⟩) 1 1) [t.pq] from by have h := q_one 0 v1 u (Nat.zero_le _); rw [HUT.out] at h; simpa [HUT.out] using h)
              have HOA := Lib.hid (r4_below HOA.out ((Below.refl v1.heap.size v1).alloc (Nat.le_refl _) (.cells #[.complex .f32 u.a u.b, .complex .f32 u.x u.y, .float .f32 u.c, .float .f32 u.s] 43)))
              (refine hK.out _ _ (HC9.out _ hd2) (fun hHeld => ?_); clear hK K; (try simp only [List.getElem_toArray, List.getElem_cons_zero, List.getElem_cons_succ, Act.put, List.setIfInBounds_toArray, List.set_cons_zero, List.set_cons_succ]))
              generalize v1.alloc (.cells #[.complex .f32 u.a u.b, .complex .f32 u.x u.y, .float .f32 u.c, .float .f32 u.s] 43) = v2 at *
              generalize v1.heap.size = n2 at HOB ⊢
              clear hd0 hd1
              (refine wpAnyH_ready (rs := [7]) (by kernel_rfl) (by simp) ?_; refine AllReadyH.cons (i := 7) rfl (fun K hK => ?_) AllReadyH.nil)
              go_simp
              refine (iSame_pq 0 0 _ _ [t.pq] _ HOB.out HOA.out (by intro q hq; simp only [List.mem_singleton] at hq; rw [hq]; exact HT.out.ok.pq) (by simp)).mono ?_
              rintro e v3 ⟨rfl, hb3⟩
              have hd3 := hd2.trans (hb3.mono hd2.size)
              clear hb3 HOA HOB
              go_wp2_with fail
              (refine hK.out _ _ (HC9.out _ hd3) (fun hHeld => ?_); clear hK K; (try simp only [List.getElem_toArray, List.getElem_cons_zero, List.getElem_cons_succ, Act.put, List.setIfInBounds_toArray, List.set_cons_zero, List.set_cons_succ]))
              ((refine wpAnyH_take (i := 8) (v := ?_) rfl (by kernel_rfl) (by kernel_rfl) (by kernel_rfl) (fun _ _ _ h => h) (Or.inl ⟨by rfl, ?_⟩) (by assumption) ?_; rotate_left; (· intro w hSw; (try dsimp only at hSw); go_simp; first | done | with_reducible rfl); (try simp only [List.getElem_toArray, List.getElem_cons_zero, List.getElem_cons_succ, Act.put, List.setIfInBounds_toArray, List.set_cons_zero, List.set_cons_succ])))
              (refine wpAnyH_done (by kernel_rfl) ?_ _; refine NoPanic.normal ?_)
              clear hHeld
              go_wp2_with fail
              go_roundw
              case rel => exact ⟨k + 1, by omega, by go_num, Lib.hid (HB.out.trans ((HB8.out.trans ((HB9.out.trans (hd3.mono HB9.out.size)).mono HB8.out.size)).mono HB.out.size))⟩
              case measure => simp [intOf]; omega
    · obtain rfl : k = ts.length := by omega
      clear hlt
      go_wp2_with fail
      go_ret
      exact ⟨rfl, D6.out.trans (HB.out.mono D6.out.size)⟩
/-! ### from the walk to the statement -/
theorem own : ownKnob Try.prog.godebug = none := by kernel_rfl
theorem laidOut : laidOutB Try.prog = true := by kernel_rfl
set_option maxRecDepth 100000 in
theorem lifted (os : Os) (started : os.Started) (H : Type) (enc : TypeId × Value → H) :
    ReturnsInHanded {} Try.checked os 4 .any (Rows.fnWallsSpec.pre6 enc Try.prog Try.f4 Rows.fnWallsRow.domain false) (Rows.fnWallsSpec.post enc Try.prog Try.f4 false true false false) := by
  refine returnsInHanded_of_change (C := Try.checked) own started (by kernel_rfl) Try.func4
    (ChangeSpec.witness6 (enc := enc) (C := Try.checked) false ⟨#[], #[.slice none 0 0, .slice none 0 0], []⟩ 8 (by kernel_rfl) (by kernel_rfl) (by kernel_rfl) (by kernel_rfl)) ?_
  intro W base args ds gs before hval0 hW hcnd _
  have hval : ∀ (j : Nat) t v, Try.f4.params[j]? = some t → args[j]? = some v → Value.okWide Try.prog W .any base t v := hval0
  have hW' := hW
  obtain ⟨p, q, hA0, hV, rfl, hfz, hnd⟩ := hW
  have hA : DataW.TrodAll enc Try.prog W 0 (fun _ => true) true Try.f4.params.toList args.toList ds p := hA0
  rw [Try.params4] at hA hval
  obtain ⟨v0, vs0, d0, ds0, p0, q0, hargs, rfl, rfl, h0, r0⟩ := trodAll_cons hA
  obtain ⟨v1, vs1, d1, ds1, p1, q1, rfl, rfl, rfl, h1, r1⟩ := trodAll_cons r0
  obtain ⟨rfl, rfl, rfl⟩ := trodAll_nil r1
  obtain rfl : args = #[v0, v1] := by cases args; simp_all
  obtain ⟨rfl, rfl⟩ := trodVars_none hV
  obtain ⟨a0, len0, cap0, rfl⟩ := okWide_slice Try.underlying22 (hval 0 22 v0 rfl rfl)
  have k0 := h0
  have lt0 : ∀ x ∈ p0, x.block < W.heap.size := by obtain ⟨m, hm⟩ := k0; exact DataW.trod_lt m _ _ _ hm
  obtain ⟨z0, w0⟩ : ∃ zs, Nl.NS .u8 W (.slice a0 len0 cap0) zs := Nl.open_nums Try.underlying22 Try.underlying5 (by kernel_rfl) h0
  obtain ⟨a1, len1, cap1, rfl⟩ := okWide_slice Try.underlying22 (hval 1 22 v1 rfl rfl)
  have k1 := h1
  have lt1 : ∀ x ∈ p1, x.block < W.heap.size := by obtain ⟨m, hm⟩ := k1; exact DataW.trod_lt m _ _ _ hm
  obtain ⟨z1, w1⟩ : ∃ zs, Nl.NS .u8 W (.slice a1 len1 cap1) zs := Nl.open_nums Try.underlying22 Try.underlying5 (by kernel_rfl) h1
  clear hA0 hval0
  refine (walk a0 len0 cap0 z0 a1 len1 cap1 z1 W w0 w1).mono fun e W' ⟨he, bel⟩ => ?_
  subst he
  exact ⟨_, rfl, _, _, _, [], _, [], hW', trodAll_mk1 (shut_bool Try.underlying4 _), (trodAll_cons_mk (Below.trod laidOut (by kernel_rfl) (of_decide_eq_true (by kernel_rfl)) k0 bel lt0) (trodAll_cons_mk (Below.trod laidOut (by kernel_rfl) (of_decide_eq_true (by kernel_rfl)) k1 bel lt1) trodAll_mk0)), rfl, bel.frame _, fun h => by cases h⟩

theorem over : Rows.fnWallsRow.holds Try.pinned (OpenSpec.ofChange Rows.fnWallsSpec) :=
  OpenClaim.holds_of_wide 4 Try.f4 rfl rfl rfl rfl rfl rfl rfl ⟨rfl, rfl, rfl, rfl, rfl⟩ rfl rfl rfl rfl rfl (by kernel_rfl) Try.func4 (by kernel_rfl)
    (of_decide_eq_true (by kernel_rfl)) (by unfold Func.isWrapper; first | (rw [if_pos (by decide +kernel)]; kernel_rfl) | (rw [if_neg (by decide +kernel)]; exact ⟨rfl, rfl⟩))
    (fun os started H enc _ => lifted os started H enc)

/-- The statement. -/
theorem proved : Rows.FnWallsSaid := over
#print axioms proved
end Go.Proofs.Ytahgnjmdlhidpaa.fnWalls
