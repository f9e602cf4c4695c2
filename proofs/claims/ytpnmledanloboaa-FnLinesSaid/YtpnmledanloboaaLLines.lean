/- FnLines: for all two lists of bytes the law returns true: a drawn line is its parts one after another, leads back by its back line, nearly, and makes of a ray without kicks what its matrix makes, nearly, with the determinant 1. No condition. -/
import Derived.Test.YtpnmledanloboaaRows
import Derived.WalkKit
import Derived.ProofKit
import Derived.OpenShut
import Derived.ShutString
import Derived.ChangeOld
import Derived.Below
import Derived.Laws.Cover2
import Derived.Test.YtpnmledanloboaaLnY
import Derived.Test.YtpnmledanloboaaEsl
import Derived.Test.YtpnmledanloboaaEsp
import Derived.Test.YtpnmledanloboaaCsm
import Derived.Test.YtpnmledanloboaaMatT
import Derived.Test.YtpnmledanloboaaBkp
import Derived.Deep.CutRange
namespace Go.Proofs.Ytpnmledanloboaa.fnLines
open Go.ChangeShapes Go.WideShapes Go.ChangeAt Go.RowKit Go.Fl
open Go.ChangeMaps (open_string shut_string)
set_option linter.unusedVariables false
set_option linter.unusedSimpArgs false
open Go.Nl (NS)

theorem cellsY {W : World} {k : Nat} {r : Ry} (h : W.heap[k]? = some (RO r)) : W.cell? ⟨k, 0, none⟩ = some (.complex .f32 r.x r.y) ∧ W.cell? ⟨k, 1, none⟩ = some (.float .f32 r.p) ∧ W.cell? ⟨k, 2, none⟩ = some (.float .f32 r.e) :=
  ⟨by rw [Joins.cell_of_block h]; rfl, by rw [Joins.cell_of_block h]; rfl, by rw [Joins.cell_of_block h]; rfl⟩
theorem stayY {W W' : World} {b : Nat} {o : Obj} (h : W.heap[b]? = some o) (hb : Below W.heap.size W W') : W'.heap[b]? = some o := (hb.block b (Array.getElem?_eq_some_iff.1 h).1).trans h
theorem cell_stay {w w' : World} {k i : Nat} {v : Value} (h : w.cell? ⟨k, i, none⟩ = some v) (hb : Below w.heap.size w w') : w'.cell? ⟨k, i, none⟩ = some v := by
  rw [hb.cell (p := ⟨k, i, none⟩) (block_lt_of_cell h)]; exact h
theorem es_cap9 {w : World} {a : Option Addr} {n c : Nat} {xs : List El} (h : ES w (.slice a n c) xs) : n ≤ c ∧ c ≤ maxLen := by
  obtain ⟨a', c', e, h1, h2, _⟩ := h
  simp only [Value.slice.injEq] at e
  obtain ⟨_, rfl, rfl⟩ := e
  exact ⟨h1, h2⟩
theorem es_dropv {w : World} {la : Option Addr} {n cap k : Nat} {ts : List El} (h : ES w (.slice la n cap) ts) (hk : k ≤ ts.length) :
    ES w (.slice (if cap = k then la else Option.map (fun x => x.add (k * 3)) la) (ts.length - k) (cap - k)) (ts.drop k) := by
  have hl : (ts.drop k).length = ts.length - k := List.length_drop
  by_cases he : k = ts.length
  · obtain ⟨a', c', e, h1, h2, h3, _⟩ := h
    simp only [Value.slice.injEq] at e
    obtain ⟨rfl, rfl, rfl⟩ := e
    exact ⟨_, _, by rw [hl], by rw [hl]; omega, by unfold maxLen at *; omega, fun t ht => h3 t (List.mem_of_mem_drop ht), .inl (by rw [he]; simp)⟩
  have hn : ts ≠ [] := fun e => by subst e; simp at hk he; omega
  obtain ⟨a', c', e, h1, h2, h3, h4⟩ := h
  simp only [Value.slice.injEq] at e
  obtain ⟨rfl, rfl, rfl⟩ := e
  rcases h4 with h4 | ⟨b, off, rfl, hb, hc⟩
  · exact absurd h4 hn
  · have e : Option.map (fun x : Addr => x.add (k * 3)) (some (⟨b, off, none⟩ : Addr)) = some ⟨b, off + k * 3, none⟩ := by
      show some ((⟨b, off, none⟩ : Addr).add (k * 3)) = _
      unfold Addr.add
      by_cases h0 : k * 3 = 0
      · rw [if_pos h0, h0, Nat.add_zero]
      · rw [if_neg h0]
    rw [if_neg (by omega), e]
    exact es_drop ⟨_, cap, rfl, h1, h2, h3, .inr ⟨b, off, rfl, hb, hc⟩⟩ hk hn
theorem dr_oks_back {ts : List El} (hd : ∀ t ∈ ts, DrE t) : oksE (bkTo ts 0) := fun t ht => by
  rw [bkTo_zero, List.mem_reverse, List.mem_map] at ht
  obtain ⟨u, hu, rfl⟩ := ht
  have h := hd u hu
  obtain ⟨k, n, p⟩ := u
  have hk : (k = 0 ∨ k = 1 ∨ k = 3) := by rcases h.2 with g | g | g; exact .inl g.1; exact .inr (.inl g.1); exact .inr (.inr g.1)
  have hb : backE ⟨k, n, p⟩ = ⟨k, Op.negFloat .f32 n, p⟩ := by unfold backE; rw [if_neg (show ¬(k = 2) by omega)]
  rw [hb]
  have hp : p = 0 := h.1
  refine ⟨?_, ?_, (q_lt _ (q4_tab n h.okb).2.2.2).1, by show p < _; rw [hp]; decide⟩
  · show -9223372036854775808 ≤ k; omega
  · show k ≤ 9223372036854775807; omega
theorem filt_step (ts : List El) {k : Nat} (h : k < ts.length) : (ts.take (k + 1)).filter noKick = (ts.take k).filter noKick ++ (if noKick ts[k] then [ts[k]] else []) := by
  rw [List.take_succ_eq_append_getElem h, List.filter_append]
  congr 1
  rw [List.filter_cons, List.filter_nil]
abbrev Z9 : Obj := .cells #[.complex .f32 0 0, .float .f32 0, .float .f32 0] 61
theorem dr_oks {ts : List El} (h : ∀ t ∈ ts, DrE t) : oksE ts := fun t ht => (h t ht).ok

set_option maxHeartbeats 8000000 in
set_option maxRecDepth 100000 in
theorem walk (a0 : Option Addr) (len0 cap0 : Nat) (z0 : List Int) (a1 : Option Addr) (len1 cap1 : Nat) (z1 : List Int) (W : World) (w0 : NS .u8 W (.slice a0 len0 cap0) z0) (w1 : NS .u8 W (.slice a1 len1 cap1) z1) :
    Calls Try.prog 13 #[.slice a0 len0 cap0, .slice a1 len1 cap1] W fun e w' => e = .returned (.bool true) ∧ Below W.heap.size W w' := by
  have HC := Lib.hid w0
  have HM := Lib.hid w1
  clear w0 w1
  by_cases hl : (1048576 < len0 ∨ 1048576 < len1)
  · have HL := Lib.hid (show decide (1048576 < len0 ∨ 1048576 < len1) = true from decide_eq_true hl)
    clear hl
    go_enter Try.func13, Try.ntmps13
    go_wp2_with fail
    refine (zLong9_any _ _ _ _ _ _ _).mono ?_; rw [HL.out]; rintro e w' ⟨rfl, rfl⟩
    go_wp2_with fail
    go_ret
    exact ⟨rfl, Below.refl _ _⟩
  have HL := Lib.hid (show decide (1048576 < len0 ∨ 1048576 < len1) = false from decide_eq_false hl)
  clear hl
  go_enter Try.func13, Try.ntmps13
  go_wp2_with fail
  refine (zLong9_any _ _ _ _ _ _ _).mono ?_; rw [HL.out]; rintro e w' ⟨rfl, hw⟩
  obtain rfl := hw.symm
  clear HL hw
  go_wp2_with fail
  refine (sElements_any _ z0 _ HC.out).mono ?_
  rintro e v1 ⟨lv, ts, rfl, hl4, hdr, hO1, hb1⟩
  obtain ⟨la, lcap, rfl, hlf⟩ := e_form hO1
  obtain ⟨hlc, hcm⟩ := es_cap9 (eown_es hO1 (dr_oks hdr))
  unfold maxLen at hcm
  have HDR := Lib.hid hdr
  have HE := Lib.hid hO1
  have HB1 := Lib.hid hb1
  clear hO1 hb1 hdr hlf
  go_wp2_with fail
  refine (sRays_any _ z1 _ (HM.out.below HB1.out)).mono ?_
  rintro e v2 ⟨rv, rs, rfl, hr1, hr6, hrd, hR2, hb2⟩
  obtain ⟨rg, rcap, rfl⟩ : ∃ g c, rv = .slice (some ⟨g, 0, none⟩) rs.length c := by
    obtain ⟨a, c, e, h⟩ := ry_form hR2
    rcases h with h | ⟨g, h, _⟩
    · rw [h] at hr1; exact absurd hr1 (by decide)
    · exact ⟨g, c, by rw [e, h]⟩
  have hrl : 0 < rs.length := by omega
  have HR0 := Lib.hid (show DrR rs[0] from hrd _ (List.getElem_mem hrl))
  have hrc := (ry_cells hR2 hrl).1
  have HB2 := Lib.hid (HB1.out.trans (hb2.mono HB1.out.size))
  have HE2 := Lib.hid (e_below HE.out hb2)
  simp only [Nat.zero_mul, Nat.zero_add] at hrc
  generalize rs[0] = yr at HR0 hrc
  have HRC := Lib.hid (show ∀ w', Below v2.heap.size v2 w' → w'.cell? ⟨rg, 0, none⟩ = some (.complex .f32 yr.x yr.y) ∧ w'.cell? ⟨rg, 1, none⟩ = some (.float .f32 yr.p) ∧ w'.cell? ⟨rg, 2, none⟩ = some (.float .f32 yr.e) from
    fun w' hb => ⟨cell_stay hrc.1 hb, cell_stay hrc.2.1 hb, cell_stay hrc.2.2 hb⟩)
  clear hR2 hb2 hrd hrc HE HB1
  go_wp2_with fail
  refine (at9_any _ _ _ z1 _ ⟨by omega, by omega⟩ _ (HM.out.below HB2.out)).mono ?_
  rintro e w3 ⟨⟨cx, rfl, hc0, hc1⟩, hw3⟩
  obtain rfl := hw3.symm
  clear hw3
  obtain ⟨cut, rfl⟩ : ∃ c : Nat, cx = c := ⟨cx.toNat, by omega⟩
  have hcut : cut ≤ ts.length := by omega
  have hcc : cut ≤ lcap := by omega
  clear hc0 hc1
  obtain ⟨c0, c1, c2⟩ := HRC.out _ (Below.refl _ _)
  go_wp2_with fail
  refine (iPassLine_any (.slice la ts.length lcap) ts yr yr _ (eown_es HE2.out (dr_oks HDR.out)) (fun t h => (HDR.out t h).plain) (dr_line HDR.out hl4) HR0.out.is (by omega)).mono ?_
  rintro e v3 ⟨⟨q, rfl, hq⟩, hb3⟩
  have D3 := Lib.hid hb3
  have HQ := Lib.hid hq
  clear hb3 hq c0 c1 c2
  dsimp only [Ry.val]
  have hal := (Below.refl v3.heap.size v3).alloc (Nat.le_refl _) (RO q)
  have HW4 := Lib.hid (heap_alloc_new v3 (RO q))
  have D4 := Lib.hid (D3.out.trans (hal.mono D3.out.size))
  clear hal
  go_upto_region 7 with fail
  generalize v3.alloc (RO q) = v4 at HW4 D4 ⊢
  generalize v3.heap.size = kw at HW4 ⊢
  clear D3
  have HEV := Lib.hid (show ∀ w', Below v4.heap.size v4 w' → EOwn W.heap.size w' (.slice la ts.length lcap) ts ∧ (w'.cell? ⟨rg, 0, none⟩ = some (.complex .f32 yr.x yr.y) ∧ w'.cell? ⟨rg, 1, none⟩ = some (.float .f32 yr.p) ∧ w'.cell? ⟨rg, 2, none⟩ = some (.float .f32 yr.e)) ∧ w'.heap[kw]? = some (RO q) from
    fun w' hb => ⟨e_below HE2.out (D4.out.trans (hb.mono D4.out.size)), HRC.out _ (D4.out.trans (hb.mono D4.out.size)), stayY HW4.out hb⟩)
  go_cut [11, 12, 13] from 64 to 74 (fun p o1 o2 wx => ∃ (kb : Nat) (F : Ry), p = .pointer (some ⟨kb, 0, none⟩) ∧ o1 = .int .i64 (-1) ∧ o2 = .bool true ∧ Hid (Ry.is F (passL (ts.take cut) yr (ts.take cut).length)) ∧ Hid (wx.heap[kb]? = some (RO F)) ∧ Hid (Below v4.heap.size v4 wx))
  case first =>
    -- BEGIN f1
    have hd := (Below.refl v4.heap.size v4).drew
    refine wp_region_noPanic ?_
    refine wp_region_held_drew (S := fun W => W.cell? ⟨rg, 0, none⟩ = some (.complex .f32 yr.x yr.y) ∧ W.cell? ⟨rg, 1, none⟩ = some (.float .f32 yr.p) ∧ W.cell? ⟨rg, 2, none⟩ = some (.float .f32 yr.e)) (by kernel_rfl) (HEV.out _ hd).2.1 (fun hHeld => ?_)
    generalize v4.drew = v0 at hd hHeld ⊢
    ((refine wpAnyH_take (i := 0) (v := ?_) rfl (by kernel_rfl) (by kernel_rfl) (by kernel_rfl) (fun _ _ _ h => h) (Or.inl ⟨by rfl, ?_⟩) (by assumption) ?_; rotate_left; (· intro w hSw; (try dsimp only at hSw); go_simp; first | done | with_reducible rfl); (try simp only [List.getElem_toArray, List.getElem_cons_zero, List.getElem_cons_succ, Act.put, List.setIfInBounds_toArray, List.set_cons_zero, List.set_cons_succ])); (refine wpAnyH_take (i := 1) (v := ?_) rfl (by kernel_rfl) (by kernel_rfl) (by kernel_rfl) (fun _ _ _ h => h) (Or.inl ⟨by rfl, ?_⟩) (by assumption) ?_; rotate_left; (· intro w hSw; (try dsimp only at hSw); go_simp; first | done | with_reducible rfl); (try simp only [List.getElem_toArray, List.getElem_cons_zero, List.getElem_cons_succ, Act.put, List.setIfInBounds_toArray, List.set_cons_zero, List.set_cons_succ])); (refine wpAnyH_take (i := 2) (v := ?_) rfl (by kernel_rfl) (by kernel_rfl) (by kernel_rfl) (fun _ _ _ h => h) (Or.inl ⟨by rfl, ?_⟩) (by assumption) ?_; rotate_left; (· intro w hSw; (try dsimp only at hSw); go_simp; first | done | with_reducible rfl); (try simp only [List.getElem_toArray, List.getElem_cons_zero, List.getElem_cons_succ, Act.put, List.setIfInBounds_toArray, List.set_cons_zero, List.set_cons_succ])); (refine wpAnyH_take (i := 3) (v := ?_) rfl (by kernel_rfl) (by kernel_rfl) (by kernel_rfl) (fun _ _ _ h => h) (Or.inl ⟨by rfl, ?_⟩) (by assumption) ?_; rotate_left; (· intro w hSw; (try dsimp only at hSw); go_simp; first | done | with_reducible rfl); (try simp only [List.getElem_toArray, List.getElem_cons_zero, List.getElem_cons_succ, Act.put, List.setIfInBounds_toArray, List.set_cons_zero, List.set_cons_succ])); (refine wpAnyH_take (i := 4) (v := ?_) rfl (by kernel_rfl) (by kernel_rfl) (by kernel_rfl) (fun _ _ _ h => h) (Or.inl ⟨by rfl, ?_⟩) (by assumption) ?_; rotate_left; (· intro w hSw; (try dsimp only at hSw); go_simp; first | done | with_reducible rfl); (try simp only [List.getElem_toArray, List.getElem_cons_zero, List.getElem_cons_succ, Act.put, List.setIfInBounds_toArray, List.set_cons_zero, List.set_cons_succ])); (refine wpAnyH_take (i := 5) (v := ?_) rfl (by kernel_rfl) (by kernel_rfl) (by kernel_rfl) (fun _ _ _ h => h) (Or.inl ⟨by rfl, ?_⟩) (by assumption) ?_; rotate_left; (· intro w hSw; (try dsimp only at hSw); go_simp; first | done | with_reducible rfl); (try simp only [List.getElem_toArray, List.getElem_cons_zero, List.getElem_cons_succ, Act.put, List.setIfInBounds_toArray, List.set_cons_zero, List.set_cons_succ])))
    refine wpAnyH_ready (rs := [6, 11]) (by kernel_rfl) (by simp) ?_
    refine AllReadyH.cons (i := 6) rfl (fun K hK => ?_) (AllReadyH.cons (i := 11) rfl (fun K hK => ?_) AllReadyH.nil)
    · skip
      go_simp
      refine (iPassLine_any (.slice la cut lcap) (ts.take cut) yr yr _ (es_take (eown_es (HEV.out _ hd).1 (dr_oks HDR.out)) hcut) (fun t h => (HDR.out t (List.mem_of_mem_take h)).plain) (dr_line (fun t h => HDR.out t (List.mem_of_mem_take h)) (by rw [List.length_take]; omega)) HR0.out.is (by rw [List.length_take]; omega)).mono ?_
      rintro e v5 ⟨⟨F, rfl, hF⟩, hb5⟩
      have HF := Lib.hid hF
      have hdn := hd.trans (hb5.mono hd.size)
      clear hF hb5 hd
      dsimp only [Ry.val]
      go_wp2_with fail
      (refine hK.out _ _ ((HEV.out _ hdn).2.1) (fun hHeld => ?_); clear hK K; (try simp only [List.getElem_toArray, List.getElem_cons_zero, List.getElem_cons_succ, Act.put, List.setIfInBounds_toArray, List.set_cons_zero, List.set_cons_succ]))
      ((refine wpAnyH_take (i := 7) (v := ?_) rfl (by kernel_rfl) (by kernel_rfl) (by kernel_rfl) (fun _ _ _ h => h) (Or.inl ⟨by rfl, ?_⟩) (by assumption) ?_; rotate_left; (· intro w hSw; (try dsimp only at hSw); go_simp; first | done | with_reducible rfl); (try simp only [List.getElem_toArray, List.getElem_cons_zero, List.getElem_cons_succ, Act.put, List.setIfInBounds_toArray, List.set_cons_zero, List.set_cons_succ])); (refine wpAnyH_take (i := 8) (v := ?_) rfl (by kernel_rfl) (by kernel_rfl) (by kernel_rfl) (fun _ _ _ h => h) (Or.inl ⟨by rfl, ?_⟩) (by assumption) ?_; rotate_left; (· intro w hSw; (try dsimp only at hSw); go_simp; first | done | with_reducible rfl); (try simp only [List.getElem_toArray, List.getElem_cons_zero, List.getElem_cons_succ, Act.put, List.setIfInBounds_toArray, List.set_cons_zero, List.set_cons_succ])); (refine wpAnyH_take (i := 9) (v := ?_) rfl (by kernel_rfl) (by kernel_rfl) (by kernel_rfl) (fun _ _ _ h => h) (Or.inl ⟨by rfl, ?_⟩) (by assumption) ?_; rotate_left; (· intro w hSw; (try dsimp only at hSw); go_simp; first | done | with_reducible rfl); (try simp only [List.getElem_toArray, List.getElem_cons_zero, List.getElem_cons_succ, Act.put, List.setIfInBounds_toArray, List.set_cons_zero, List.set_cons_succ])); (refine wpAnyH_take (i := 10) (v := ?_) rfl (by kernel_rfl) (by kernel_rfl) (by kernel_rfl) (fun _ _ _ h => h) (Or.inl ⟨by rfl, ?_⟩) (by assumption) ?_; rotate_left; (· intro w hSw; (try dsimp only at hSw); go_simp; first | done | with_reducible rfl); (try simp only [List.getElem_toArray, List.getElem_cons_zero, List.getElem_cons_succ, Act.put, List.setIfInBounds_toArray, List.set_cons_zero, List.set_cons_succ])))
      (refine wpAnyH_ready (rs := [11]) (by kernel_rfl) (by simp) ?_; refine AllReadyH.cons (i := 11) rfl (fun K hK => ?_) AllReadyH.nil)
      go_simp
      have hal := (Below.refl v5.heap.size v5).alloc (Nat.le_refl _) Z9
      have HBX := Lib.hid (heap_alloc_new v5 Z9)
      have HKB := Lib.hid (show v4.heap.size ≤ v5.heap.size from hdn.size)
      have hd := hdn.trans (hal.mono hdn.size)
      clear hal hdn
      (refine hK.out _ _ ((HEV.out _ hd).2.1) (fun hHeld => ?_); clear hK K; (try simp only [List.getElem_toArray, List.getElem_cons_zero, List.getElem_cons_succ, Act.put, List.setIfInBounds_toArray, List.set_cons_zero, List.set_cons_succ]))
      generalize v5.alloc Z9 = v6 at HBX hd hHeld ⊢
      generalize v5.heap.size = kb at HBX HKB ⊢
      have hdn := below_setRow hd HKB.out #[.complex .f32 F.x F.y, .float .f32 F.p, .float .f32 F.e]
      have HRW := Lib.hid (show (v6.setRow kb #[.complex .f32 F.x F.y, .float .f32 F.p, .float .f32 F.e]).heap[kb]? = some (RO F) from setRow_heap _ _ _ _ _ _ HBX.out)
      (refine wpAnyH_ready (rs := [12]) (by kernel_rfl) (by simp) ?_; refine AllReadyH.cons (i := 12) rfl (fun K hK => ?_) AllReadyH.nil)
      refine hstep_storeM rfl 61 _ _ rfl kb #[.complex .f32 F.x F.y, .float .f32 F.p, .float .f32 F.e] rfl rfl 61 _ HBX.out info_r9 rfl (ryone9 _ _ _ _) ?_
      (refine hK.out _ _ ((HEV.out _ hdn).2.1) (fun hHeld => ?_); clear hK K; (try simp only [List.getElem_toArray, List.getElem_cons_zero, List.getElem_cons_succ, Act.put, List.setIfInBounds_toArray, List.set_cons_zero, List.set_cons_succ]))
      ((refine wpAnyH_take (i := 13) (v := ?_) rfl (by kernel_rfl) (by kernel_rfl) (by kernel_rfl) (fun _ _ _ h => h) (Or.inl ⟨by rfl, ?_⟩) (by assumption) ?_; rotate_left; (· intro w hSw; (try dsimp only at hSw); go_simp; first | done | with_reducible rfl); (try simp only [List.getElem_toArray, List.getElem_cons_zero, List.getElem_cons_succ, Act.put, List.setIfInBounds_toArray, List.set_cons_zero, List.set_cons_succ])); (refine wpAnyH_take (i := 14) (v := ?_) rfl (by kernel_rfl) (by kernel_rfl) (by kernel_rfl) (fun _ _ _ h => h) (Or.inl ⟨by rfl, ?_⟩) (by assumption) ?_; rotate_left; (· intro w hSw; (try dsimp only at hSw); go_simp; first | done | with_reducible rfl); (try simp only [List.getElem_toArray, List.getElem_cons_zero, List.getElem_cons_succ, Act.put, List.setIfInBounds_toArray, List.set_cons_zero, List.set_cons_succ])))
      (refine wpAnyH_done (by kernel_rfl) ?_ _; refine NoPanic.normal ?_)
      clear hHeld
      go_wp2_with fail
      go_meet
      case rel => exact ⟨kb, F, rfl, rfl, rfl, HF, HRW, Lib.hid hdn⟩
    · skip
      go_simp
      have hal := (Below.refl v0.heap.size v0).alloc (Nat.le_refl _) Z9
      have HBX0 := Lib.hid (heap_alloc_new v0 Z9)
      have HKB := Lib.hid (show v4.heap.size ≤ v0.heap.size from hd.size)
      have hdn := hd.trans (hal.mono hd.size)
      clear hal hd
      have hd := hdn
      clear hdn
      (refine hK.out _ _ ((HEV.out _ hd).2.1) (fun hHeld => ?_); clear hK K; (try simp only [List.getElem_toArray, List.getElem_cons_zero, List.getElem_cons_succ, Act.put, List.setIfInBounds_toArray, List.set_cons_zero, List.set_cons_succ]))
      generalize v0.alloc Z9 = v6 at HBX0 hd hHeld ⊢
      generalize v0.heap.size = kb at HBX0 HKB ⊢
      (refine wpAnyH_ready (rs := [6]) (by kernel_rfl) (by simp) ?_; refine AllReadyH.cons (i := 6) rfl (fun K hK => ?_) AllReadyH.nil)
      go_simp
      refine (iPassLine_any (.slice la cut lcap) (ts.take cut) yr yr _ (es_take (eown_es (HEV.out _ hd).1 (dr_oks HDR.out)) hcut) (fun t h => (HDR.out t (List.mem_of_mem_take h)).plain) (dr_line (fun t h => HDR.out t (List.mem_of_mem_take h)) (by rw [List.length_take]; omega)) HR0.out.is (by rw [List.length_take]; omega)).mono ?_
      rintro e v5 ⟨⟨F, rfl, hF⟩, hb5⟩
      have HF := Lib.hid hF
      have HBX := Lib.hid (stayY HBX0.out hb5)
      have hdn := hd.trans (hb5.mono hd.size)
      clear hF hb5 hd
      dsimp only [Ry.val]
      go_wp2_with fail
      (refine hK.out _ _ ((HEV.out _ hdn).2.1) (fun hHeld => ?_); clear hK K; (try simp only [List.getElem_toArray, List.getElem_cons_zero, List.getElem_cons_succ, Act.put, List.setIfInBounds_toArray, List.set_cons_zero, List.set_cons_succ]))
      ((refine wpAnyH_take (i := 7) (v := ?_) rfl (by kernel_rfl) (by kernel_rfl) (by kernel_rfl) (fun _ _ _ h => h) (Or.inl ⟨by rfl, ?_⟩) (by assumption) ?_; rotate_left; (· intro w hSw; (try dsimp only at hSw); go_simp; first | done | with_reducible rfl); (try simp only [List.getElem_toArray, List.getElem_cons_zero, List.getElem_cons_succ, Act.put, List.setIfInBounds_toArray, List.set_cons_zero, List.set_cons_succ])); (refine wpAnyH_take (i := 8) (v := ?_) rfl (by kernel_rfl) (by kernel_rfl) (by kernel_rfl) (fun _ _ _ h => h) (Or.inl ⟨by rfl, ?_⟩) (by assumption) ?_; rotate_left; (· intro w hSw; (try dsimp only at hSw); go_simp; first | done | with_reducible rfl); (try simp only [List.getElem_toArray, List.getElem_cons_zero, List.getElem_cons_succ, Act.put, List.setIfInBounds_toArray, List.set_cons_zero, List.set_cons_succ])); (refine wpAnyH_take (i := 9) (v := ?_) rfl (by kernel_rfl) (by kernel_rfl) (by kernel_rfl) (fun _ _ _ h => h) (Or.inl ⟨by rfl, ?_⟩) (by assumption) ?_; rotate_left; (· intro w hSw; (try dsimp only at hSw); go_simp; first | done | with_reducible rfl); (try simp only [List.getElem_toArray, List.getElem_cons_zero, List.getElem_cons_succ, Act.put, List.setIfInBounds_toArray, List.set_cons_zero, List.set_cons_succ])); (refine wpAnyH_take (i := 10) (v := ?_) rfl (by kernel_rfl) (by kernel_rfl) (by kernel_rfl) (fun _ _ _ h => h) (Or.inl ⟨by rfl, ?_⟩) (by assumption) ?_; rotate_left; (· intro w hSw; (try dsimp only at hSw); go_simp; first | done | with_reducible rfl); (try simp only [List.getElem_toArray, List.getElem_cons_zero, List.getElem_cons_succ, Act.put, List.setIfInBounds_toArray, List.set_cons_zero, List.set_cons_succ])))
      have hd := hdn
      clear hdn
      have hdn := below_setRow hd HKB.out #[.complex .f32 F.x F.y, .float .f32 F.p, .float .f32 F.e]
      have HRW := Lib.hid (show (v5.setRow kb #[.complex .f32 F.x F.y, .float .f32 F.p, .float .f32 F.e]).heap[kb]? = some (RO F) from setRow_heap _ _ _ _ _ _ HBX.out)
      (refine wpAnyH_ready (rs := [12]) (by kernel_rfl) (by simp) ?_; refine AllReadyH.cons (i := 12) rfl (fun K hK => ?_) AllReadyH.nil)
      refine hstep_storeM rfl 61 _ _ rfl kb #[.complex .f32 F.x F.y, .float .f32 F.p, .float .f32 F.e] rfl rfl 61 _ HBX.out info_r9 rfl (ryone9 _ _ _ _) ?_
      (refine hK.out _ _ ((HEV.out _ hdn).2.1) (fun hHeld => ?_); clear hK K; (try simp only [List.getElem_toArray, List.getElem_cons_zero, List.getElem_cons_succ, Act.put, List.setIfInBounds_toArray, List.set_cons_zero, List.set_cons_succ]))
      ((refine wpAnyH_take (i := 13) (v := ?_) rfl (by kernel_rfl) (by kernel_rfl) (by kernel_rfl) (fun _ _ _ h => h) (Or.inl ⟨by rfl, ?_⟩) (by assumption) ?_; rotate_left; (· intro w hSw; (try dsimp only at hSw); go_simp; first | done | with_reducible rfl); (try simp only [List.getElem_toArray, List.getElem_cons_zero, List.getElem_cons_succ, Act.put, List.setIfInBounds_toArray, List.set_cons_zero, List.set_cons_succ])); (refine wpAnyH_take (i := 14) (v := ?_) rfl (by kernel_rfl) (by kernel_rfl) (by kernel_rfl) (fun _ _ _ h => h) (Or.inl ⟨by rfl, ?_⟩) (by assumption) ?_; rotate_left; (· intro w hSw; (try dsimp only at hSw); go_simp; first | done | with_reducible rfl); (try simp only [List.getElem_toArray, List.getElem_cons_zero, List.getElem_cons_succ, Act.put, List.setIfInBounds_toArray, List.set_cons_zero, List.set_cons_succ])))
      (refine wpAnyH_done (by kernel_rfl) ?_ _; refine NoPanic.normal ?_)
      clear hHeld
      go_wp2_with fail
      go_meet
      case rel => exact ⟨kb, F, rfl, rfl, rfl, HF, HRW, Lib.hid hdn⟩
    -- END f1
  case rest =>
    obtain ⟨kb, F, rfl, rfl, rfl, HF, HFB, D5⟩ := hcut
    generalize wc = v5 at HFB D5 ⊢
    go_upto_region 8 with fail
    have HEV5 := Lib.hid (show ∀ w', Below v5.heap.size v5 w' → ES w' (.slice la ts.length lcap) ts ∧ (w'.cell? ⟨kb, 0, none⟩ = some (.complex .f32 F.x F.y) ∧ w'.cell? ⟨kb, 1, none⟩ = some (.float .f32 F.p) ∧ w'.cell? ⟨kb, 2, none⟩ = some (.float .f32 F.e)) from
      fun w' hb => ⟨eown_es (HEV.out _ (D5.out.trans (hb.mono D5.out.size))).1 (dr_oks HDR.out), cellsY (stayY HFB.out hb)⟩)
    go_cut [14, 15, 16] from 75 to 83 (fun p o1 o2 wx => ∃ (kc : Nat) (G : Ry), p = .pointer (some ⟨kc, 0, none⟩) ∧ o1 = .int .i64 (-1) ∧ o2 = .bool true ∧ Hid (Ry.is G (passL ts yr ts.length)) ∧ Hid (wx.heap[kc]? = some (RO G)) ∧ Hid (Below v5.heap.size v5 wx))
    case first =>
      -- BEGIN f2
      have hd := (Below.refl v5.heap.size v5).drew
      refine wp_region_noPanic ?_
      refine wp_region_held_drew (S := fun W => W.cell? ⟨kb, 0, none⟩ = some (.complex .f32 F.x F.y) ∧ W.cell? ⟨kb, 1, none⟩ = some (.float .f32 F.p) ∧ W.cell? ⟨kb, 2, none⟩ = some (.float .f32 F.e)) (by kernel_rfl) (HEV5.out _ hd).2 (fun hHeld => ?_)
      generalize v5.drew = v0 at hd hHeld ⊢
      ((refine wpAnyH_take (i := 0) (v := ?_) rfl (by kernel_rfl) (by kernel_rfl) (by kernel_rfl) (fun _ _ _ h => h) (Or.inl ⟨by rfl, ?_⟩) (by assumption) ?_; rotate_left; (· intro w hSw; (try dsimp only at hSw); go_simp; first | done | with_reducible rfl); (try simp only [List.getElem_toArray, List.getElem_cons_zero, List.getElem_cons_succ, Act.put, List.setIfInBounds_toArray, List.set_cons_zero, List.set_cons_succ])); (refine wpAnyH_take (i := 1) (v := ?_) rfl (by kernel_rfl) (by kernel_rfl) (by kernel_rfl) (fun _ _ _ h => h) (Or.inl ⟨by rfl, ?_⟩) (by assumption) ?_; rotate_left; (· intro w hSw; (try dsimp only at hSw); go_simp; first | done | with_reducible rfl); (try simp only [List.getElem_toArray, List.getElem_cons_zero, List.getElem_cons_succ, Act.put, List.setIfInBounds_toArray, List.set_cons_zero, List.set_cons_succ])); (refine wpAnyH_take (i := 2) (v := ?_) rfl (by kernel_rfl) (by kernel_rfl) (by kernel_rfl) (fun _ _ _ h => h) (Or.inl ⟨by rfl, ?_⟩) (by assumption) ?_; rotate_left; (· intro w hSw; (try dsimp only at hSw); go_simp; first | done | with_reducible rfl); (try simp only [List.getElem_toArray, List.getElem_cons_zero, List.getElem_cons_succ, Act.put, List.setIfInBounds_toArray, List.set_cons_zero, List.set_cons_succ])); (refine wpAnyH_take (i := 3) (v := ?_) rfl (by kernel_rfl) (by kernel_rfl) (by kernel_rfl) (fun _ _ _ h => h) (Or.inl ⟨by rfl, ?_⟩) (by assumption) ?_; rotate_left; (· intro w hSw; (try dsimp only at hSw); go_simp; first | done | with_reducible rfl); (try simp only [List.getElem_toArray, List.getElem_cons_zero, List.getElem_cons_succ, Act.put, List.setIfInBounds_toArray, List.set_cons_zero, List.set_cons_succ])))
      have HDS := Lib.hid (show ∀ w', Below v5.heap.size v5 w' → ES w' (.slice (if lcap = cut then la else Option.map (fun x => x.add (cut * 3)) la) (ts.length - cut) (lcap - cut)) (ts.drop cut) from fun w' hb => es_dropv (HEV5.out w' hb).1 hcut)
      generalize (if lcap = cut then la else Option.map (fun x => x.add (cut * 3)) la) = lx at HDS ⊢
      refine wpAnyH_ready (rs := [4, 9]) (by kernel_rfl) (by simp) ?_
      refine AllReadyH.cons (i := 4) rfl (fun K hK => ?_) (AllReadyH.cons (i := 9) rfl (fun K hK => ?_) AllReadyH.nil)
      · skip
        go_simp
        refine (iPassLine_any _ (ts.drop cut) F _ _ (HDS.out _ hd) (fun t h => (HDR.out t (List.mem_of_mem_drop h)).plain) (dr_line (fun t h => HDR.out t (List.mem_of_mem_drop h)) (by rw [List.length_drop]; omega)) HF.out (by rw [List.length_drop]; omega)).mono ?_
        rintro e v6 ⟨⟨G, rfl, hG⟩, hb6⟩
        rw [passL_two] at hG
        have HG := Lib.hid hG
        have hdn := hd.trans (hb6.mono hd.size)
        clear hG hb6 hd
        dsimp only [Ry.val]
        go_wp2_with fail
        (refine hK.out _ _ ((HEV5.out _ hdn).2) (fun hHeld => ?_); clear hK K; (try simp only [List.getElem_toArray, List.getElem_cons_zero, List.getElem_cons_succ, Act.put, List.setIfInBounds_toArray, List.set_cons_zero, List.set_cons_succ]))
        ((refine wpAnyH_take (i := 5) (v := ?_) rfl (by kernel_rfl) (by kernel_rfl) (by kernel_rfl) (fun _ _ _ h => h) (Or.inl ⟨by rfl, ?_⟩) (by assumption) ?_; rotate_left; (· intro w hSw; (try dsimp only at hSw); go_simp; first | done | with_reducible rfl); (try simp only [List.getElem_toArray, List.getElem_cons_zero, List.getElem_cons_succ, Act.put, List.setIfInBounds_toArray, List.set_cons_zero, List.set_cons_succ])); (refine wpAnyH_take (i := 6) (v := ?_) rfl (by kernel_rfl) (by kernel_rfl) (by kernel_rfl) (fun _ _ _ h => h) (Or.inl ⟨by rfl, ?_⟩) (by assumption) ?_; rotate_left; (· intro w hSw; (try dsimp only at hSw); go_simp; first | done | with_reducible rfl); (try simp only [List.getElem_toArray, List.getElem_cons_zero, List.getElem_cons_succ, Act.put, List.setIfInBounds_toArray, List.set_cons_zero, List.set_cons_succ])); (refine wpAnyH_take (i := 7) (v := ?_) rfl (by kernel_rfl) (by kernel_rfl) (by kernel_rfl) (fun _ _ _ h => h) (Or.inl ⟨by rfl, ?_⟩) (by assumption) ?_; rotate_left; (· intro w hSw; (try dsimp only at hSw); go_simp; first | done | with_reducible rfl); (try simp only [List.getElem_toArray, List.getElem_cons_zero, List.getElem_cons_succ, Act.put, List.setIfInBounds_toArray, List.set_cons_zero, List.set_cons_succ])); (refine wpAnyH_take (i := 8) (v := ?_) rfl (by kernel_rfl) (by kernel_rfl) (by kernel_rfl) (fun _ _ _ h => h) (Or.inl ⟨by rfl, ?_⟩) (by assumption) ?_; rotate_left; (· intro w hSw; (try dsimp only at hSw); go_simp; first | done | with_reducible rfl); (try simp only [List.getElem_toArray, List.getElem_cons_zero, List.getElem_cons_succ, Act.put, List.setIfInBounds_toArray, List.set_cons_zero, List.set_cons_succ])))
        (refine wpAnyH_ready (rs := [9]) (by kernel_rfl) (by simp) ?_; refine AllReadyH.cons (i := 9) rfl (fun K hK => ?_) AllReadyH.nil)
        go_simp
        have hal := (Below.refl v6.heap.size v6).alloc (Nat.le_refl _) Z9
        have HBX := Lib.hid (heap_alloc_new v6 Z9)
        have HKB := Lib.hid (show v5.heap.size ≤ v6.heap.size from hdn.size)
        have hd := hdn.trans (hal.mono hdn.size)
        clear hal hdn
        (refine hK.out _ _ ((HEV5.out _ hd).2) (fun hHeld => ?_); clear hK K; (try simp only [List.getElem_toArray, List.getElem_cons_zero, List.getElem_cons_succ, Act.put, List.setIfInBounds_toArray, List.set_cons_zero, List.set_cons_succ]))
        generalize v6.alloc Z9 = v7 at HBX hd hHeld ⊢
        generalize v6.heap.size = kc at HBX HKB ⊢
        have hdn := below_setRow hd HKB.out #[.complex .f32 G.x G.y, .float .f32 G.p, .float .f32 G.e]
        have HRW := Lib.hid (show (v7.setRow kc #[.complex .f32 G.x G.y, .float .f32 G.p, .float .f32 G.e]).heap[kc]? = some (RO G) from setRow_heap _ _ _ _ _ _ HBX.out)
        (refine wpAnyH_ready (rs := [10]) (by kernel_rfl) (by simp) ?_; refine AllReadyH.cons (i := 10) rfl (fun K hK => ?_) AllReadyH.nil)
        refine hstep_storeM rfl 61 _ _ rfl kc #[.complex .f32 G.x G.y, .float .f32 G.p, .float .f32 G.e] rfl rfl 61 _ HBX.out info_r9 rfl (ryone9 _ _ _ _) ?_
        (refine hK.out _ _ ((HEV5.out _ hdn).2) (fun hHeld => ?_); clear hK K; (try simp only [List.getElem_toArray, List.getElem_cons_zero, List.getElem_cons_succ, Act.put, List.setIfInBounds_toArray, List.set_cons_zero, List.set_cons_succ]))
        ((refine wpAnyH_take (i := 11) (v := ?_) rfl (by kernel_rfl) (by kernel_rfl) (by kernel_rfl) (fun _ _ _ h => h) (Or.inl ⟨by rfl, ?_⟩) (by assumption) ?_; rotate_left; (· intro w hSw; (try dsimp only at hSw); go_simp; first | done | with_reducible rfl); (try simp only [List.getElem_toArray, List.getElem_cons_zero, List.getElem_cons_succ, Act.put, List.setIfInBounds_toArray, List.set_cons_zero, List.set_cons_succ])); (refine wpAnyH_take (i := 12) (v := ?_) rfl (by kernel_rfl) (by kernel_rfl) (by kernel_rfl) (fun _ _ _ h => h) (Or.inl ⟨by rfl, ?_⟩) (by assumption) ?_; rotate_left; (· intro w hSw; (try dsimp only at hSw); go_simp; first | done | with_reducible rfl); (try simp only [List.getElem_toArray, List.getElem_cons_zero, List.getElem_cons_succ, Act.put, List.setIfInBounds_toArray, List.set_cons_zero, List.set_cons_succ])))
        (refine wpAnyH_done (by kernel_rfl) ?_ _; refine NoPanic.normal ?_)
        clear hHeld
        go_wp2_with fail
        go_meet
        case rel => exact ⟨kc, G, rfl, rfl, rfl, HG, HRW, Lib.hid hdn⟩
      · skip
        go_simp
        have hal := (Below.refl v0.heap.size v0).alloc (Nat.le_refl _) Z9
        have HBX0 := Lib.hid (heap_alloc_new v0 Z9)
        have HKB := Lib.hid (show v5.heap.size ≤ v0.heap.size from hd.size)
        have hdn := hd.trans (hal.mono hd.size)
        clear hal hd
        have hd := hdn
        clear hdn
        (refine hK.out _ _ ((HEV5.out _ hd).2) (fun hHeld => ?_); clear hK K; (try simp only [List.getElem_toArray, List.getElem_cons_zero, List.getElem_cons_succ, Act.put, List.setIfInBounds_toArray, List.set_cons_zero, List.set_cons_succ]))
        generalize v0.alloc Z9 = v7 at HBX0 hd hHeld ⊢
        generalize v0.heap.size = kc at HBX0 HKB ⊢
        (refine wpAnyH_ready (rs := [4]) (by kernel_rfl) (by simp) ?_; refine AllReadyH.cons (i := 4) rfl (fun K hK => ?_) AllReadyH.nil)
        go_simp
        refine (iPassLine_any _ (ts.drop cut) F _ _ (HDS.out _ hd) (fun t h => (HDR.out t (List.mem_of_mem_drop h)).plain) (dr_line (fun t h => HDR.out t (List.mem_of_mem_drop h)) (by rw [List.length_drop]; omega)) HF.out (by rw [List.length_drop]; omega)).mono ?_
        rintro e v6 ⟨⟨G, rfl, hG⟩, hb6⟩
        rw [passL_two] at hG
        have HG := Lib.hid hG
        have HBX := Lib.hid (stayY HBX0.out hb6)
        have hdn := hd.trans (hb6.mono hd.size)
        clear hG hb6 hd
        dsimp only [Ry.val]
        go_wp2_with fail
        (refine hK.out _ _ ((HEV5.out _ hdn).2) (fun hHeld => ?_); clear hK K; (try simp only [List.getElem_toArray, List.getElem_cons_zero, List.getElem_cons_succ, Act.put, List.setIfInBounds_toArray, List.set_cons_zero, List.set_cons_succ]))
        ((refine wpAnyH_take (i := 5) (v := ?_) rfl (by kernel_rfl) (by kernel_rfl) (by kernel_rfl) (fun _ _ _ h => h) (Or.inl ⟨by rfl, ?_⟩) (by assumption) ?_; rotate_left; (· intro w hSw; (try dsimp only at hSw); go_simp; first | done | with_reducible rfl); (try simp only [List.getElem_toArray, List.getElem_cons_zero, List.getElem_cons_succ, Act.put, List.setIfInBounds_toArray, List.set_cons_zero, List.set_cons_succ])); (refine wpAnyH_take (i := 6) (v := ?_) rfl (by kernel_rfl) (by kernel_rfl) (by kernel_rfl) (fun _ _ _ h => h) (Or.inl ⟨by rfl, ?_⟩) (by assumption) ?_; rotate_left; (· intro w hSw; (try dsimp only at hSw); go_simp; first | done | with_reducible rfl); (try simp only [List.getElem_toArray, List.getElem_cons_zero, List.getElem_cons_succ, Act.put, List.setIfInBounds_toArray, List.set_cons_zero, List.set_cons_succ])); (refine wpAnyH_take (i := 7) (v := ?_) rfl (by kernel_rfl) (by kernel_rfl) (by kernel_rfl) (fun _ _ _ h => h) (Or.inl ⟨by rfl, ?_⟩) (by assumption) ?_; rotate_left; (· intro w hSw; (try dsimp only at hSw); go_simp; first | done | with_reducible rfl); (try simp only [List.getElem_toArray, List.getElem_cons_zero, List.getElem_cons_succ, Act.put, List.setIfInBounds_toArray, List.set_cons_zero, List.set_cons_succ])); (refine wpAnyH_take (i := 8) (v := ?_) rfl (by kernel_rfl) (by kernel_rfl) (by kernel_rfl) (fun _ _ _ h => h) (Or.inl ⟨by rfl, ?_⟩) (by assumption) ?_; rotate_left; (· intro w hSw; (try dsimp only at hSw); go_simp; first | done | with_reducible rfl); (try simp only [List.getElem_toArray, List.getElem_cons_zero, List.getElem_cons_succ, Act.put, List.setIfInBounds_toArray, List.set_cons_zero, List.set_cons_succ])))
        have hd := hdn
        clear hdn
        have hdn := below_setRow hd HKB.out #[.complex .f32 G.x G.y, .float .f32 G.p, .float .f32 G.e]
        have HRW := Lib.hid (show (v6.setRow kc #[.complex .f32 G.x G.y, .float .f32 G.p, .float .f32 G.e]).heap[kc]? = some (RO G) from setRow_heap _ _ _ _ _ _ HBX.out)
        (refine wpAnyH_ready (rs := [10]) (by kernel_rfl) (by simp) ?_; refine AllReadyH.cons (i := 10) rfl (fun K hK => ?_) AllReadyH.nil)
        refine hstep_storeM rfl 61 _ _ rfl kc #[.complex .f32 G.x G.y, .float .f32 G.p, .float .f32 G.e] rfl rfl 61 _ HBX.out info_r9 rfl (ryone9 _ _ _ _) ?_
        (refine hK.out _ _ ((HEV5.out _ hdn).2) (fun hHeld => ?_); clear hK K; (try simp only [List.getElem_toArray, List.getElem_cons_zero, List.getElem_cons_succ, Act.put, List.setIfInBounds_toArray, List.set_cons_zero, List.set_cons_succ]))
        ((refine wpAnyH_take (i := 11) (v := ?_) rfl (by kernel_rfl) (by kernel_rfl) (by kernel_rfl) (fun _ _ _ h => h) (Or.inl ⟨by rfl, ?_⟩) (by assumption) ?_; rotate_left; (· intro w hSw; (try dsimp only at hSw); go_simp; first | done | with_reducible rfl); (try simp only [List.getElem_toArray, List.getElem_cons_zero, List.getElem_cons_succ, Act.put, List.setIfInBounds_toArray, List.set_cons_zero, List.set_cons_succ])); (refine wpAnyH_take (i := 12) (v := ?_) rfl (by kernel_rfl) (by kernel_rfl) (by kernel_rfl) (fun _ _ _ h => h) (Or.inl ⟨by rfl, ?_⟩) (by assumption) ?_; rotate_left; (· intro w hSw; (try dsimp only at hSw); go_simp; first | done | with_reducible rfl); (try simp only [List.getElem_toArray, List.getElem_cons_zero, List.getElem_cons_succ, Act.put, List.setIfInBounds_toArray, List.set_cons_zero, List.set_cons_succ])))
        (refine wpAnyH_done (by kernel_rfl) ?_ _; refine NoPanic.normal ?_)
        clear hHeld
        go_wp2_with fail
        go_meet
        case rel => exact ⟨kc, G, rfl, rfl, rfl, HG, HRW, Lib.hid hdn⟩
      -- END f2
    case rest =>
      obtain ⟨kc, G, rfl, rfl, rfl, HG, HGB, D6⟩ := hcut
      generalize wc = v6 at HGB D6 ⊢
      have HEV6 := Lib.hid (show ∀ w', Below v6.heap.size v6 w' → EOwn W.heap.size w' (.slice la ts.length lcap) ts ∧ (w'.cell? ⟨rg, 0, none⟩ = some (.complex .f32 yr.x yr.y) ∧ w'.cell? ⟨rg, 1, none⟩ = some (.float .f32 yr.p) ∧ w'.cell? ⟨rg, 2, none⟩ = some (.float .f32 yr.e)) ∧ (w'.cell? ⟨kw, 0, none⟩ = some (.complex .f32 q.x q.y) ∧ w'.cell? ⟨kw, 1, none⟩ = some (.float .f32 q.p) ∧ w'.cell? ⟨kw, 2, none⟩ = some (.float .f32 q.e)) ∧ (w'.cell? ⟨kc, 0, none⟩ = some (.complex .f32 G.x G.y) ∧ w'.cell? ⟨kc, 1, none⟩ = some (.float .f32 G.p) ∧ w'.cell? ⟨kc, 2, none⟩ = some (.float .f32 G.e)) from
        fun w' hb => by
          have h5 := D6.out.trans (hb.mono D6.out.size)
          have e := HEV.out _ (D5.out.trans (h5.mono D5.out.size))
          exact ⟨e.1, e.2.1, cellsY e.2.2, cellsY (stayY HGB.out hb)⟩)
      have HB6 := Lib.hid (show Below W.heap.size W v6 from by
        have h4 := D4.out.trans ((D5.out.trans (D6.out.mono D5.out.size)).mono D4.out.size)
        exact HB2.out.trans (h4.mono HB2.out.size))
      have HBK := Lib.hid (dr_back HDR.out hl4)
      have HBO := Lib.hid (dr_oks_back HDR.out)
      have HBL := Lib.hid (show (bkTo ts 0).length = ts.length by rw [bkTo_size ts (Nat.zero_le _)]; omega)
      clear HB2 HE2 HRC HW4 D4 HEV HF HFB D5 HEV5 HGB D6
      go_wp2_with fail
      refine (iBackLine_any _ _ ts _ (HEV6.out _ (Below.refl _ _)).1 (dr_oks HDR.out) (by omega)).mono ?_
      rintro e v7 ⟨⟨bv, rfl, hBO⟩, hb7⟩
      rw [HBK.out.1]
      rw [HBK.out.2.1] at hBO
      obtain ⟨ba, bcap, rfl, hbf⟩ := e_form hBO
      have HBS := Lib.hid (eown_es hBO HBO.out)
      have D7 := Lib.hid hb7
      clear hBO hb7 hbf
      obtain ⟨_, _, ⟨c0, c1, c2⟩, _⟩ := HEV6.out _ D7.out
      go_wp2_with fail
      refine (iPassLine_any _ (bkTo ts 0) q _ _ HBS.out HBK.out.2.2.2 HBK.out.2.2.1 HQ.out (by rw [HBL.out]; omega)).mono ?_
      rintro e v8 ⟨⟨H, rfl, hH⟩, hb8⟩
      have HH := Lib.hid hH
      have D8 := Lib.hid (D7.out.trans (hb8.mono D7.out.size))
      clear hH hb8 c0 c1 c2 HBS
      dsimp only [Ry.val]
      have hal := (Below.refl v8.heap.size v8).alloc (Nat.le_refl _) (RO H)
      have HWH := Lib.hid (heap_alloc_new v8 (RO H))
      have D9 := Lib.hid (D8.out.trans (hal.mono D8.out.size))
      clear hal
      go_upto_region 11 with fail
      generalize v8.alloc (RO H) = v9 at HWH D9 ⊢
      generalize v8.heap.size = kh at HWH ⊢
      clear D7 D8
      go_wp2_with fail
      refine (iValidLine_any _ _ ts _ (HEV6.out _ D9.out).1 (dr_oks HDR.out) (by omega)).mono ?_
      rintro e v10 ⟨rfl, hb10⟩
      rw [show okValidLine ts = true from dr_line HDR.out hl4]
      have D10 := Lib.hid (D9.out.trans (hb10.mono D9.out.size))
      have HWH := Lib.hid (stayY HWH.out hb10)
      clear hb10 D9
      obtain ⟨_, _, ⟨c0, c1, c2⟩, ⟨e0, e1, e2⟩⟩ := HEV6.out _ D10.out
      go_wp2_with fail
      refine (iSameRay_any q G _ HQ.out HG.out _).mono ?_
      rintro e v11 ⟨rfl, hb11⟩
      have D11 := Lib.hid (D10.out.trans (hb11.mono D10.out.size))
      have HWH := Lib.hid (stayY HWH.out hb11)
      clear hb11 c0 c1 c2 e0 e1 e2 D10 HG
      obtain ⟨_, _, ⟨c0, c1, c2⟩, _⟩ := HEV6.out _ D11.out
      go_wp2_with fail
      have HHO := Lib.hid (home_law HDR.out hl4 HR0.out)
      refine (sLongD_any q.x q.y _ _ HQ.out.1 HQ.out.2.1 HHO.out.f1 _).mono ?_
      rintro e v12 ⟨⟨g, rfl, hg⟩, n12, rfl⟩
      have hb12 := below_drewN (Below.refl v11.heap.size v11) n12
      have D12 := Lib.hid (D11.out.trans (hb12.mono D11.out.size))
      have HWH := Lib.hid (stayY HWH.out hb12)
      generalize v11.drewN n12 = v12 at D12 HWH ⊢
      clear hb12 c0 c1 c2 D11
      go_upto_region 14 with fail
      have hcmp := HHO.out.c
      obtain ⟨_, ⟨c0, _⟩, _⟩ := HEV6.out _ D12.out
      obtain ⟨d0, _⟩ := cellsY HWH.out
      have iHx : Is .f32 H.x _ := HH.out.1
      have iHy : Is .f32 H.y _ := HH.out.2.1
      have irx : Is .f32 yr.x yr.x := HR0.out.is.1
      have iry : Is .f32 yr.y yr.y := HR0.out.is.2.1
      go_wp2_with (first | ((with_reducible apply Loose.wp_start); kernel_rfl; kernel_rfl) | ((with_reducible apply Loose.start_cons)) | ((with_reducible apply Loose.start_nil)) | ((with_reducible apply Loose.walk_nil); intro n) | ((with_reducible apply Loose.walk_skip); exact rfl; (go_simp; first | done | exact rfl)) | ((with_reducible apply Loose.step_fc); rfl; rfl; rfl; rfl; (first | with_reducible assumption | exact Is.const rfl); (first | with_reducible assumption | exact Is.const rfl); (first | with_reducible assumption | exact rfl); exact rfl; (go_simp; first | done | exact rfl)) | ((with_reducible apply Loose.step_fa); rfl; rfl; rfl; rfl; (first | with_reducible assumption | exact Is.const rfl); (first | with_reducible assumption | exact Is.const rfl); exact rfl; (intro r; go_simp; first | done | exact rfl); intro r hr) | ((with_reducible apply Loose.step_wid); rfl; rfl; (first | with_reducible assumption | exact Is.const rfl); exact U32; exact U64; exact rfl; (intro r; go_simp; first | done | exact rfl); intro r hr) | ((with_reducible apply Loose.step_nar); rfl; rfl; (first | with_reducible assumption | exact Is.const rfl); exact U64; exact U32; (with_reducible assumption); exact rfl; (intro r; go_simp; first | done | exact rfl); intro r hr) | ((with_reducible apply Loose.step_assign); rfl; rfl; (with_reducible assumption); exact rfl; (intro r; go_simp; first | done | exact rfl); intro r hr) | ((with_reducible apply Loose.step_move); rfl; rfl; (with_reducible assumption); exact rfl; (intro r; go_simp; first | done | exact rfl); intro r hr) | ((with_reducible apply Loose.step_same); rfl; rfl; exact U32; exact U32; (first | with_reducible assumption | exact Is.const rfl); exact rfl; (intro r; go_simp; first | done | exact rfl); intro r hr) | ((with_reducible apply Loose.step_same); rfl; rfl; exact U64; exact U64; (first | with_reducible assumption | exact Is.const rfl); exact rfl; (intro r; go_simp; first | done | exact rfl); intro r hr) | ((with_reducible apply Loose.step_csum); rfl; exact .inr rfl; rfl; rfl; (with_reducible exact iHx); (with_reducible exact iHy); (with_reducible exact irx); (with_reducible exact iry); exact rfl; (intro r s; go_simp; first | done | exact rfl); intro dx dy hdx hdy) | ((with_reducible apply Loose.step_eq); rfl; (intro n; go_simp; first | done | exact rfl); exact rfl; (go_simp; first | done | exact rfl)) | ((with_reducible apply Loose.step_callF); rfl; (intro n; go_simp; first | exact ⟨rfl, rfl⟩ | exact rfl); (intro n; go_at_call 54; exact sLongD_any _ _ _ _ hdx hdy HHO.out.f2 _); exact rfl; (intro r; go_simp; first | done | exact rfl); intro hx hhx))
      have D13 := Lib.hid (below_drewN D12.out n)
      generalize v12.drewN n = v13 at D13 ⊢
      clear D12 HWH c0 d0 hcmp iHx iHy irx iry HHO HH hg HBK HBO HBL HQ
      have HMF := Lib.hid (mat_law HDR.out hl4 hcut)
      refine (iMatrixOfE_any _ ts _ (eown_es (HEV6.out _ D13.out).1 (dr_oks HDR.out)) (by omega)).mono ?_
      rintro e v14 ⟨⟨vm, rfl, hm⟩, hb14⟩
      rw [(okMx (dr_line HDR.out hl4)).1]
      rw [(okMx (dr_line HDR.out hl4)).2] at hm
      obtain ⟨gm, cm, rfl, hm4, hmm, hFSm, him, hmc⟩ := fres4 hm HMF.out.fin
      have HIM := Lib.hid him
      have HMM := Lib.hid hFSm; have HMC := Lib.hid hmc
      have D14 := Lib.hid (D13.out.trans (hb14.mono D13.out.size))
      unfold maxLen at hmm
      clear hm hFSm him hmc hb14 D13
      go_wp2_with fail
      refine (iMatrixOfE_any _ (ts.take cut) _ (es_take (eown_es (HEV6.out _ D14.out).1 (dr_oks HDR.out)) hcut) (by rw [List.length_take]; omega)).mono ?_
      rintro e v15 ⟨⟨va, rfl, ha⟩, hb15⟩
      have hka := okMx (dr_line (ts := ts.take cut) (fun t h => HDR.out t (List.mem_of_mem_take h)) (by rw [List.length_take]; omega))
      rw [hka.1]
      rw [hka.2] at ha
      obtain ⟨za, hza, hFa, hga⟩ := fres4_any ha
      have HA := Lib.hid (And.intro hza (And.intro hFa hga))
      have D15 := Lib.hid (D14.out.trans (hb15.mono D14.out.size))
      have HMC := Lib.hid (fun w' hb => HMC.out w' (hb15.trans (Below.mono hb hb15.size)))
      have HMM := Lib.hid (HMM.out.below hb15)
      clear hka ha hza hFa hga hb15 D14
      go_upto_region 18 with fail
      have HKB := Lib.hid (okMx (dr_line (ts := ts.drop cut) (fun t h => HDR.out t (List.mem_of_mem_drop h)) (by rw [List.length_drop]; omega)))
      have HDN := Lib.hid (show (ts.drop cut).length ≤ 1048576 by rw [List.length_drop]; omega)
      have HDS := Lib.hid (es_dropv (k := cut) (eown_es (HEV6.out _ D15.out).1 (dr_oks HDR.out)) hcut)
      go_cut [27, 28] from 168 to 174 (fun v o wx => ∃ zb : List Nat, o = .bool true ∧ Hid (zb.length = 4 ∧ FS .f32 wx v zb ∧ ∀ k, k < 4 → fromL zb k = lineM (ts.drop cut) (ts.drop cut).length k) ∧ Hid (Below v15.heap.size v15 wx))
      case first =>
        -- BEGIN f3
        by_cases hcl : lcap = cut
        · have hES := HDS.out
          rw [if_pos hcl, hcl, Nat.sub_self] at hES
          have HES := Lib.hid hES
          clear hES
          go_wp2_with fail
          refine (iMatrixOfE_any _ (ts.drop cut) _ HES.out HDN.out).mono ?_
          rintro e v16 ⟨⟨vb, rfl, hb⟩, hb16⟩
          rw [HKB.out.1]
          rw [HKB.out.2] at hb
          obtain ⟨zb, hzb, hFb, hgb⟩ := fres4_any hb
          have HZB := Lib.hid (And.intro hzb (And.intro hFb hgb)); have HB16 := Lib.hid hb16
          clear hb hzb hFb hgb hb16
          go_wp2_with fail
          subst hcl
          go_meet
          case rel => exact ⟨zb, rfl, HZB, HB16⟩
        · have hES := HDS.out
          rw [if_neg hcl] at hES
          have HES := Lib.hid hES
          clear hES
          go_wp2_with fail
          refine (iMatrixOfE_any _ (ts.drop cut) _ HES.out HDN.out).mono ?_
          rintro e v16 ⟨⟨vb, rfl, hb⟩, hb16⟩
          rw [HKB.out.1]
          rw [HKB.out.2] at hb
          obtain ⟨zb, hzb, hFb, hgb⟩ := fres4_any hb
          have HZB := Lib.hid (And.intro hzb (And.intro hFb hgb)); have HB16 := Lib.hid hb16
          clear hb hzb hFb hgb hb16
          go_wp2_with fail
          go_meet
          case rel => exact ⟨zb, rfl, HZB, HB16⟩
        -- END f3
      case rest =>
        obtain ⟨zb, rfl, HZB, D16⟩ := hcut
        generalize wc = v16 at HZB D16 ⊢
        go_wp2_with fail
        refine (iTimesMatrix_any _ zb _ za _ HZB.out.2.1 (by rw [HZB.out.1]; decide) (HA.out.2.1.below D16.out) (by rw [HA.out.1]; decide)).mono ?_
        rintro e v17 ⟨⟨vp, rfl, hp⟩, hb17⟩
        have hT := okT_yes HZB.out.1 HA.out.1
        rw [hT.1]
        rw [hT.2] at hp
        obtain ⟨gp, cp, rfl, hp4, hpm, hFSp, hip, hpc⟩ := fres4 (fres4_of hp (fun j hj => times_congr HZB.out.2.2 HA.out.2.2 j)) HMF.out.finp
        unfold maxLen at hpm
        have HPC := Lib.hid hpc; have HIP := Lib.hid hip
        have D17 := Lib.hid (D15.out.trans ((D16.out.trans (hb17.mono D16.out.size)).mono D15.out.size))
        have HMC := Lib.hid (fun w' hb => HMC.out w' (D16.out.trans ((hb17.trans (Below.mono hb hb17.size)).mono D16.out.size)))
        have HMM := Lib.hid ((HMM.out.below D16.out).below hb17)
        clear hp hT hFSp hip hpc hb17 D16 HZB HA D15
        go_wp2_with fail
        have hdet := iDetOf_any (.slice (some ⟨gm, 0, none⟩) 4 cm) _ _ HMM.out (by show 4 ≤ 1048576; decide)
        rw [det4 HMF.out.fin, show okDetOf [lineM ts ts.length 0, lineM ts ts.length 1, lineM ts ts.length 2, lineM ts ts.length 3] = true from rfl] at hdet
        refine hdet.mono ?_
        clear hdet
        rintro e v18 ⟨⟨dt, rfl, hdt⟩, hb18⟩
        have HDT := Lib.hid hdt
        have HMC := Lib.hid (fun w' hb => HMC.out w' (hb18.trans (Below.mono hb hb18.size)))
        have HPC := Lib.hid (fun w' hb => HPC.out w' (hb18.trans (Below.mono hb hb18.size)))
        have D18 := Lib.hid (D17.out.trans (hb18.mono D17.out.size))
        clear hdt hb18 D17 HMM
        go_wp2_with fail
        go_loopw [33, 216] (fun sz i wr => ∃ (k S : Nat), k ≤ 4 ∧ i = .int .i64 k ∧ sz = .float .f64 S ∧ Hid (Is .f64 S S ∧ ∃ c, Rq S c ∧ 1 ≤ c ∧ c ≤ 16) ∧ Hid (Below v18.heap.size v18 wr)) (fun _ i _ => 4 - (intOf i).toNat)
        case atStart => exact ⟨0, _, by omega, rfl, rfl, Lib.hid ⟨Is.const rfl, 1, rq_one, by decide, by decide⟩, Lib.hid (Below.refl _ _)⟩
        case round =>
          obtain ⟨k, S, hk, rfl, rfl, HS, HBW⟩ := hrel
          by_cases hlt : k < 4
          · have hcell := HMC.out wr HBW.out k hlt
            obtain ⟨c, hgq, hgi⟩ := HMF.out.size k hlt
            obtain ⟨iS, sc, hsq, hs1, hs2⟩ := HS.out
            have iM := HIM.out k hlt
            have HGQ := Lib.hid (And.intro hgq hgi); have HSQ := Lib.hid (And.intro hsq (And.intro hs1 hs2))
            clear hgq hgi hsq hs1 hs2 HS
            generalize lineM ts ts.length k = mk at hcell iM HGQ
            go_wp2_with (first | (apply wpList_wid; rfl; rfl; (first | with_reducible assumption | exact Is.const rfl); exact U32; exact U64; intro r n hr) | fail)
            refine (gap9D_any _ 0 _ 0 (by assumption) (Is.const rfl) _).mono ?_
            rintro e w2 ⟨⟨gr, rfl, hgr⟩, n2, rfl⟩
            have igr : Is .f64 (gapW (wid mk) 0) (gapW (wid mk) 0) := by
              have e := hgr.same (Rv.nan HGQ.out.1)
              rw [e] at hgr; exact hgr
            obtain rfl : gr = gapW (wid mk) 0 := hgr.same (Rv.nan HGQ.out.1)
            have HB3 := Lib.hid (below_drewN (below_drewN HBW.out n) n2)
            generalize (wr.drewN n).drewN n2 = w3 at HB3 ⊢
            obtain ⟨S2, c2, hrun, hS2, hle, hor⟩ := run_maxq (P := Try.prog) w3 #[28, 28] 28 HSQ.out.1 HGQ.out.1
            have HS2 := Lib.hid (show Is .f64 S2 S2 ∧ ∃ c, Rq S2 c ∧ 1 ≤ c ∧ c ≤ 16 from ⟨by
              rcases hor with ⟨e, _⟩ | ⟨e, _⟩
              · rw [e]; exact iS
              · rw [e]; exact igr, c2, hS2, Rat.le_trans HSQ.out.2.1 hle, by
              rcases hor with ⟨_, e⟩ | ⟨_, e⟩
              · rw [e]; exact HSQ.out.2.2
              · rw [e]; exact HGQ.out.2.1⟩)
            clear hS2 hle hor igr hgr hcell iM iS
            generalize gapW (wid mk) 0 = gr at hrun ⊢
            clear HGQ
            go_wp2_with fail
            go_roundw
            case rel => exact ⟨k + 1, S2, by omega, by go_num, rfl, HS2, HB3⟩
            case measure => simp [intOf]; omega
          · rw [show (k : Int) = 4 by omega]
            clear hlt hk
            go_wp2_with fail
            go_loopw [4, 230] (fun z i wr2 => ∃ k : Nat, z = .bool false ∧ k ≤ 4 ∧ i = .int .i64 k ∧ Hid (Below v18.heap.size v18 wr2)) (fun _ i _ => 4 - (intOf i).toNat)
            case atStart => exact ⟨0, rfl, by omega, rfl, HBW⟩
            case round =>
              clear HBW
              obtain ⟨k, rfl, hk, rfl, HBW⟩ := hrel
              by_cases hlt : k < 4
              · have hc1 := HMC.out _ HBW.out k hlt
                have hc2 := HPC.out _ HBW.out k hlt
                obtain ⟨c, hgq, hgi⟩ := HMF.out.prod k hlt
                obtain ⟨iS, sc, hsq, hs1, hs2⟩ := HS.out
                have hcmp := cmp_size hgq hsq hgi hs1 (Rat.le_trans hs2 (by decide))
                have iM := HIM.out k hlt
                have iP := HIP.out k hlt
                clear hgq hgi hsq hs1 hs2
                generalize lineM ts ts.length k = mk at hc1 iM hcmp
                generalize timesF (lineM (ts.drop cut) (ts.drop cut).length) (lineM (ts.take cut) (ts.take cut).length) k = pk at hc2 iP hcmp
                go_wp2_with (first | ((with_reducible apply Loose.wp_start); kernel_rfl; kernel_rfl) | ((with_reducible apply Loose.start_cons)) | ((with_reducible apply Loose.start_nil)) | ((with_reducible apply Loose.walk_nil); intro n) | ((with_reducible apply Loose.walk_skip); exact rfl; (go_simp; first | done | exact rfl)) | ((with_reducible apply Loose.step_fc); rfl; rfl; rfl; rfl; (first | with_reducible assumption | exact Is.const rfl); (first | with_reducible assumption | exact Is.const rfl); (first | with_reducible assumption | exact rfl); exact rfl; (go_simp; first | done | exact rfl)) | ((with_reducible apply Loose.step_fa); rfl; rfl; rfl; rfl; (first | with_reducible assumption | exact Is.const rfl); (first | with_reducible assumption | exact Is.const rfl); exact rfl; (intro r; go_simp; first | done | exact rfl); intro r hr) | ((with_reducible apply Loose.step_wid); rfl; rfl; (first | with_reducible assumption | exact Is.const rfl); exact U32; exact U64; exact rfl; (intro r; go_simp; first | done | exact rfl); intro r hr) | ((with_reducible apply Loose.step_nar); rfl; rfl; (first | with_reducible assumption | exact Is.const rfl); exact U64; exact U32; (with_reducible assumption); exact rfl; (intro r; go_simp; first | done | exact rfl); intro r hr) | ((with_reducible apply Loose.step_assign); rfl; rfl; (with_reducible assumption); exact rfl; (intro r; go_simp; first | done | exact rfl); intro r hr) | ((with_reducible apply Loose.step_move); rfl; rfl; (with_reducible assumption); exact rfl; (intro r; go_simp; first | done | exact rfl); intro r hr) | ((with_reducible apply Loose.step_same); rfl; rfl; exact U32; exact U32; (first | with_reducible assumption | exact Is.const rfl); exact rfl; (intro r; go_simp; first | done | exact rfl); intro r hr) | ((with_reducible apply Loose.step_same); rfl; rfl; exact U64; exact U64; (first | with_reducible assumption | exact Is.const rfl); exact rfl; (intro r; go_simp; first | done | exact rfl); intro r hr) | ((with_reducible apply Loose.step_eq); rfl; (intro n; go_simp; first | done | exact rfl); exact rfl; (go_simp; first | done | exact rfl)) | ((with_reducible apply Loose.step_callF); rfl; (intro n; go_simp; first | exact ⟨rfl, rfl⟩ | exact rfl); (intro n; go_at_call 49; exact gap9D_any _ _ _ _ (by assumption) (by assumption) _); exact rfl; (intro r; go_simp; first | done | exact rfl); intro r hr))
                go_roundw
                case rel => exact ⟨k + 1, rfl, by omega, by go_num, Lib.hid (below_drewN HBW.out _)⟩
                case measure => simp [intOf]; omega
              · rw [show (k : Int) = 4 by omega]
                clear hlt hk
                go_upto_region 35 with fail
                go_cut [255] from 248 to 255 (fun b wx => b = .bool false ∧ Hid (Below v18.heap.size v18 wx))
                case first =>
                  have idt := HDT.out
                  go_wp2_with (first | (apply wpList_wid; rfl; rfl; (first | with_reducible assumption | exact Is.const rfl); exact U32; exact U64; intro r n hr) | fail)
                  obtain ⟨c, hgq, hgi⟩ := HMF.out.det
                  obtain ⟨iS, sc, hsq, hs1, hs2⟩ := HS.out
                  have hcmp := cmp_det hgq hsq hgi hs1 (Rat.le_trans hs2 (by decide))
                  clear hgq hgi hsq hs1 hs2
                  refine (gap9D_any _ _ _ _ (by assumption) (Is.const rfl) _).mono ?_
                  rintro e w2 ⟨⟨gr, rfl, hgr⟩, n2, rfl⟩
                  go_wp2_with (first | (apply wpList_farith; rfl; rfl; rfl; rfl; (first | with_reducible assumption | exact Is.const rfl); (first | with_reducible assumption | exact Is.const rfl); intro r n hr) | (apply wpList_fcmp; rfl; rfl; rfl; rfl; (first | with_reducible assumption | exact Is.const rfl); (first | with_reducible assumption | exact Is.const rfl); (first | with_reducible assumption | exact rfl)) | fail)
                  go_meet
                  case rel => exact ⟨rfl, Lib.hid (below_drewN (below_drewN HBW.out _) _)⟩
                case rest =>
                  obtain ⟨rfl, HB19⟩ := hcut
                  clear HBW
                  generalize wc = v19 at HB19 ⊢
                  go_wp2_with fail
                  have HO19 := Lib.hid (show EOwn v19.heap.size (v19.alloc (.cells #[] 67)) (.slice (some ⟨v19.heap.size, 0, none⟩) 0 0) [] from World.ownsRow_made v19 #[] 0 (Nat.le_refl _) (Nat.zero_le _) rfl)
                  have HB20 := Lib.hid ((Below.refl v19.heap.size v19).alloc (Nat.le_refl _) (.cells #[] 67))
                  generalize v19.alloc (.cells #[] 67) = v20 at HO19 HB20 ⊢
                  have HEV19 := Lib.hid (fun (w' : World) (hb : Below v19.heap.size v19 w') => HEV6.out w' (D18.out.trans ((HB19.out.trans (hb.mono HB19.out.size)).mono D18.out.size)))
                  go_loopw [36, 259] (fun v i wr => ∃ (k : Nat), k ≤ ts.length ∧ i = .int .i64 k ∧ (∃ gs cap n, v = .slice (some ⟨gs, 0, none⟩) n cap ∧ Hid (((ts.take k).filter noKick).length = n) ∧ Hid (EOwn v19.heap.size wr (.slice (some ⟨gs, 0, none⟩) n cap) ((ts.take k).filter noKick))) ∧ Hid (Below v19.heap.size v19 wr)) (fun _ i _ => ts.length - (intOf i).toNat)
                  case atStart => exact ⟨0, Nat.zero_le _, rfl, ⟨_, _, _, rfl, Lib.hid rfl, HO19⟩, HB20⟩
                  case round =>
                    clear HO19 HB20
                    obtain ⟨k, hk, rfl, ⟨gs, cap, n, rfl, HLN, HO⟩, HBR⟩ := hrel
                    by_cases hlt : k < ts.length
                    · have hE := (HEV19.out _ HBR.out).1
                      obtain ⟨a', c', e, hf⟩ := e_form hE
                      simp only [Value.slice.injEq, true_and] at e
                      obtain ⟨rfl, rfl⟩ := e
                      rcases hf with hf | ⟨ge, rfl, hgB, hgl⟩
                      · rw [hf] at hlt; exact absurd hlt (by simp)
                      obtain ⟨⟨c0, c1, c2⟩, _⟩ := e_cells hE hlt
                      have HFS := Lib.hid (filt_step ts hlt)
                      have HN4 := Lib.hid (show n ≤ 4 by have h := HLN.out; have h2 := List.length_filter_le noKick (ts.take k); rw [List.length_take] at h2; omega)
                      clear hE hgB hgl
                      generalize ts[k] = t at c0 c1 c2 HFS
                      by_cases hk3 : t.k = 3
                      · have HF2 := Lib.hid (show (ts.take (k + 1)).filter noKick = (ts.take k).filter noKick by rw [HFS.out, if_neg (by simp [noKick, hk3]), List.append_nil])
                        go_wp2_with fail
                        go_roundw
                        case rel => exact ⟨k + 1, by omega, by go_num, ⟨gs, cap, n, rfl, Lib.hid (by rw [HF2.out]; exact HLN.out), Lib.hid (by rw [HF2.out]; exact HO.out)⟩, HBR⟩
                        case measure => simp [intOf]; omega
                      · have HF2 := Lib.hid (show (ts.take (k + 1)).filter noKick = (ts.take k).filter noKick ++ [⟨t.k, t.n, t.p⟩] by rw [HFS.out, if_pos (by simp [noKick, hk3])])
                        have hsz := HBR.out.size
                        go_wp2_with (at_builtin; refine haltE ?_)
                        unfold HaltE
                        refine wpList_appE rfl _ _ rfl v19.heap.size _ n ((ts.take k).filter noKick) rfl (e_below HO.out ((Below.refl _ _).alloc (Nat.le_refl _) _)) HLN.out _ 1 rfl _ _ _ (heap_alloc_new wr (.cells #[.int .i64 t.k, .float .f32 t.n, .float .f32 t.p] 67)) (by have := HN4.out; omega) (by rw [World.size_alloc]; exact Nat.le_succ_of_le hsz) ?_
                        intro g2 cap2 w9 hO2 hg2
                        have HO9 := Lib.hid hO2
                        have hal := (Below.refl wr.heap.size wr).alloc (Nat.le_refl _) (.cells #[.int .i64 t.k, .float .f32 t.n, .float .f32 t.p] 67)
                        have HB9 := Lib.hid ((HBR.out.trans (hal.mono hsz)).grown hg2 (by rw [World.size_alloc]; exact Nat.le_succ_of_le hsz) (fun j e => by have h4 : gs = j := Option.some.inj e; have h5 := (World.ownsRow.lt HO.out gs rfl).1; omega))
                        clear hO2 hg2 hal hsz
                        go_wp2_with fail
                        go_roundw
                        case rel => exact ⟨k + 1, by omega, by go_num, ⟨g2, cap2, n + 1, rfl, Lib.hid (by rw [HF2.out, List.length_append, HLN.out]; rfl), Lib.hid (by rw [HF2.out]; exact HO9.out)⟩, HB9⟩
                        case measure => simp [intOf]; omega
                    · have hk2 : k = ts.length := by omega
                      have HLE := Lib.hid (show (ts.filter noKick).length = n by have h := HLN.out; rw [hk2, List.take_length] at h; exact h)
                      have HOE := Lib.hid (show EOwn v19.heap.size wr (.slice (some ⟨gs, 0, none⟩) n cap) (ts.filter noKick) by have h := HO.out; rw [hk2, List.take_length] at h; exact h)
                      rw [show (k : Int) = (ts.length : Int) by omega]
                      clear hk2 HLN HO hlt hk
                      have hfl : (ts.filter noKick).length ≤ 4 := Nat.le_trans (List.length_filter_le _ _) hl4
                      have HFD := Lib.hid (show ∀ t ∈ ts.filter noKick, DrE t from fun t ht => HDR.out t ((List.mem_filter.1 ht).1))
                      have HIMG := Lib.hid (img_law HDR.out hl4 HR0.out)
                      obtain ⟨_, ⟨c0, c1, c2⟩, _⟩ := HEV19.out _ HBR.out
                      go_wp2_with fail
                      refine (iPassLine_any _ (ts.filter noKick) yr yr _ (eown_es HOE.out (dr_oks HFD.out)) (fun t h => (HFD.out t h).plain) (dr_line HFD.out hfl) HR0.out.is (by omega)).mono ?_
                      rintro e v21 ⟨⟨R, rfl, hR⟩, hb21⟩
                      dsimp only [Ry.val]
                      have hal := (Below.refl v21.heap.size v21).alloc (Nat.le_refl _) (RO R)
                      have HWR := Lib.hid (heap_alloc_new v21 (RO R))
                      have HB21 := Lib.hid (HBR.out.trans (hb21.mono HBR.out.size))
                      have HB22 := Lib.hid (HB21.out.trans (hal.mono HB21.out.size))
                      have iRx : Is .f32 R.x _ := hR.1
                      have iRy : Is .f32 R.y _ := hR.2.1
                      clear hal hb21 hR c0 c1 c2 hfl HB21
                      go_upto_region 45 with fail
                      generalize v21.alloc (RO R) = v22 at HWR HB22 ⊢
                      generalize v21.heap.size = kr at HWR ⊢
                      have HMC22 := Lib.hid (fun k hk => HMC.out v22 (HB19.out.trans (HB22.out.mono HB19.out.size)) k hk)
                      obtain ⟨_, ⟨c0, _, _⟩, _⟩ := HEV19.out _ HB22.out
                      have irx : Is .f32 yr.x yr.x := HR0.out.is.1
                      have iry : Is .f32 yr.y yr.y := HR0.out.is.2.1
                      have m0 := HMC22.out 0 (by decide); have m1 := HMC22.out 1 (by decide); have m2 := HMC22.out 2 (by decide); have m3 := HMC22.out 3 (by decide)
                      have i0 := HIM.out 0 (by decide); have i1 := HIM.out 1 (by decide); have i2 := HIM.out 2 (by decide); have i3 := HIM.out 3 (by decide)
                      obtain ⟨q0, _, _⟩ := cellsY HWR.out
                      go_upto_region 47 with (first | ((with_reducible apply Loose.wp_start); kernel_rfl; kernel_rfl) | ((with_reducible apply Loose.start_cons)) | ((with_reducible apply Loose.start_nil)) | ((with_reducible apply Loose.walk_nil); intro n) | ((with_reducible apply Loose.walk_skip); exact rfl; (go_simp; first | done | exact rfl)) | ((with_reducible apply Loose.step_fc); rfl; rfl; rfl; rfl; (first | with_reducible assumption | exact Is.const rfl); (first | with_reducible assumption | exact Is.const rfl); (first | with_reducible assumption | exact rfl); exact rfl; (go_simp; first | done | exact rfl)) | ((with_reducible apply Loose.step_fa); rfl; rfl; rfl; rfl; (first | with_reducible assumption | exact Is.const rfl); (first | with_reducible assumption | exact Is.const rfl); exact rfl; (intro r; go_simp; first | done | exact rfl); intro r hr) | ((with_reducible apply Loose.step_wid); rfl; rfl; (first | with_reducible assumption | exact Is.const rfl); exact U32; exact U64; exact rfl; (intro r; go_simp; first | done | exact rfl); intro r hr) | ((with_reducible apply Loose.step_nar); rfl; rfl; (first | with_reducible assumption | exact Is.const rfl); exact U64; exact U32; (with_reducible assumption); exact rfl; (intro r; go_simp; first | done | exact rfl); intro r hr) | ((with_reducible apply Loose.step_assign); rfl; rfl; (with_reducible assumption); exact rfl; (intro r; go_simp; first | done | exact rfl); intro r hr) | ((with_reducible apply Loose.step_move); rfl; rfl; (with_reducible assumption); exact rfl; (intro r; go_simp; first | done | exact rfl); intro r hr) | ((with_reducible apply Loose.step_same); rfl; rfl; exact U32; exact U32; (first | with_reducible assumption | exact Is.const rfl); exact rfl; (intro r; go_simp; first | done | exact rfl); intro r hr) | ((with_reducible apply Loose.step_same); rfl; rfl; exact U64; exact U64; (first | with_reducible assumption | exact Is.const rfl); exact rfl; (intro r; go_simp; first | done | exact rfl); intro r hr) | ((with_reducible apply Loose.step_eq); rfl; (intro n; go_simp; first | done | exact rfl); exact rfl; (go_simp; first | done | exact rfl)) | fail)
                      obtain ⟨iS, sc, hsq, hs1, hs2⟩ := HS.out
                      obtain ⟨gx, hgx, hx⟩ := HIMG.out.x
                      obtain ⟨gy, hgy, hy⟩ := HIMG.out.y
                      have hcx := cmp_img hgx hsq hx hs1 (Rat.le_trans hs2 (by decide))
                      have hcy := cmp_img hgy hsq hy hs1 (Rat.le_trans hs2 (by decide))
                      clear hsq hs1 hs2 hgx hx hgy hy
                      go_wp2_with (first | (apply wpList_wid; rfl; rfl; (first | with_reducible assumption | exact Is.const rfl); exact U32; exact U64; intro r n hr) | (apply wpList_farith; rfl; rfl; rfl; rfl; (first | with_reducible assumption | exact Is.const rfl); (first | with_reducible assumption | exact Is.const rfl); intro r n hr) | (apply wpList_fcmp; rfl; rfl; rfl; rfl; (first | with_reducible assumption | exact Is.const rfl); (first | with_reducible assumption | exact Is.const rfl); (first | with_reducible assumption | exact rfl)) | fail)
                      refine (gap9D_any _ _ _ _ (by assumption) (by assumption) _).mono ?_
                      rintro e w23 ⟨⟨g1, rfl, hg1⟩, n23, rfl⟩
                      go_wp2_with (first | (apply wpList_wid; rfl; rfl; (first | with_reducible assumption | exact Is.const rfl); exact U32; exact U64; intro r n hr) | (apply wpList_farith; rfl; rfl; rfl; rfl; (first | with_reducible assumption | exact Is.const rfl); (first | with_reducible assumption | exact Is.const rfl); intro r n hr) | (apply wpList_fcmp; rfl; rfl; rfl; rfl; (first | with_reducible assumption | exact Is.const rfl); (first | with_reducible assumption | exact Is.const rfl); (first | with_reducible assumption | exact rfl)) | fail)
                      refine (gap9D_any _ _ _ _ (by assumption) (by assumption) _).mono ?_
                      rintro e w24 ⟨⟨g2, rfl, hg2⟩, n24, rfl⟩
                      go_wp2_with (first | (apply wpList_wid; rfl; rfl; (first | with_reducible assumption | exact Is.const rfl); exact U32; exact U64; intro r n hr) | (apply wpList_farith; rfl; rfl; rfl; rfl; (first | with_reducible assumption | exact Is.const rfl); (first | with_reducible assumption | exact Is.const rfl); intro r n hr) | (apply wpList_fcmp; rfl; rfl; rfl; rfl; (first | with_reducible assumption | exact Is.const rfl); (first | with_reducible assumption | exact Is.const rfl); (first | with_reducible assumption | exact rfl)) | fail)
                      go_ret
                      exact ⟨rfl, HB6.out.trans ((D18.out.trans ((HB19.out.trans ((below_drewN HB22.out _).mono HB19.out.size)).mono D18.out.size)).mono HB6.out.size)⟩

/-! ### from the walk to the statement -/
theorem own : ownKnob Try.prog.godebug = none := by kernel_rfl
theorem laidOut : laidOutB Try.prog = true := by kernel_rfl
set_option maxRecDepth 100000 in
theorem lifted (os : Os) (started : os.Started) (H : Type) (enc : TypeId × Value → H) :
    ReturnsInHanded {} Try.checked os 13 .any (Rows.fnLinesSpec.pre6 enc Try.prog Try.f13 Rows.fnLinesRow.domain false) (Rows.fnLinesSpec.post enc Try.prog Try.f13 false true false false) := by
  refine returnsInHanded_of_change (C := Try.checked) own started (by kernel_rfl) Try.func13
    (ChangeSpec.witness6 (enc := enc) (C := Try.checked) false ⟨#[], #[.slice none 0 0, .slice none 0 0], []⟩ 8 (by kernel_rfl) (by kernel_rfl) (by kernel_rfl) (by kernel_rfl)) ?_
  intro W base args ds gs before hval0 hW hcnd _
  have hval : ∀ (j : Nat) t v, Try.f13.params[j]? = some t → args[j]? = some v → Value.okWide Try.prog W .any base t v := hval0
  have hW' := hW
  obtain ⟨p, q, hA0, hV, rfl, hfz, hnd⟩ := hW
  have hA : DataW.TrodAll enc Try.prog W 0 (fun _ => true) true Try.f13.params.toList args.toList ds p := hA0
  rw [Try.params13] at hA hval
  obtain ⟨v0, vs0, d0, ds0, p0, q0, hargs, rfl, rfl, h0, r0⟩ := trodAll_cons hA
  obtain ⟨v1, vs1, d1, ds1, p1, q1, rfl, rfl, rfl, h1, r1⟩ := trodAll_cons r0
  obtain ⟨rfl, rfl, rfl⟩ := trodAll_nil r1
  obtain rfl : args = #[v0, v1] := by cases args; simp_all
  obtain ⟨rfl, rfl⟩ := trodVars_none hV
  obtain ⟨a0, len0, cap0, rfl⟩ := okWide_slice Try.underlying52 (hval 0 52 v0 rfl rfl)
  have k0 := h0
  have lt0 : ∀ x ∈ p0, x.block < W.heap.size := by obtain ⟨m, hm⟩ := k0; exact DataW.trod_lt m _ _ _ hm
  obtain ⟨z0, w0⟩ : ∃ zs, Nl.NS .u8 W (.slice a0 len0 cap0) zs := Nl.open_nums Try.underlying52 Try.underlying5 (by kernel_rfl) h0
  obtain ⟨a1, len1, cap1, rfl⟩ := okWide_slice Try.underlying52 (hval 1 52 v1 rfl rfl)
  have k1 := h1
  have lt1 : ∀ x ∈ p1, x.block < W.heap.size := by obtain ⟨m, hm⟩ := k1; exact DataW.trod_lt m _ _ _ hm
  obtain ⟨z1, w1⟩ : ∃ zs, Nl.NS .u8 W (.slice a1 len1 cap1) zs := Nl.open_nums Try.underlying52 Try.underlying5 (by kernel_rfl) h1
  clear hA0 hval0
  refine (walk a0 len0 cap0 z0 a1 len1 cap1 z1 W w0 w1).mono fun e W' ⟨he, bel⟩ => ?_
  subst he
  exact ⟨_, rfl, _, _, _, [], _, [], hW', trodAll_mk1 (shut_bool Try.underlying4 _), (trodAll_cons_mk (Below.trod laidOut (by kernel_rfl) (of_decide_eq_true (by kernel_rfl)) k0 bel lt0) (trodAll_cons_mk (Below.trod laidOut (by kernel_rfl) (of_decide_eq_true (by kernel_rfl)) k1 bel lt1) trodAll_mk0)), rfl, bel.frame _, fun h => by cases h⟩

theorem over : Rows.fnLinesRow.holds Try.pinned (OpenSpec.ofChange Rows.fnLinesSpec) :=
  OpenClaim.holds_of_wide 13 Try.f13 rfl rfl rfl rfl rfl rfl rfl ⟨rfl, rfl, rfl, rfl, rfl⟩ rfl rfl rfl rfl rfl (by kernel_rfl) Try.func13 (by kernel_rfl)
    (of_decide_eq_true (by kernel_rfl)) (by unfold Func.isWrapper; first | (rw [if_pos (by decide +kernel)]; kernel_rfl) | (rw [if_neg (by decide +kernel)]; exact ⟨rfl, rfl⟩))
    (fun os started H enc _ => lifted os started H enc)

/-- The statement. -/
theorem proved : Rows.FnLinesSaid := over
#print axioms proved
end Go.Proofs.Ytpnmledanloboaa.fnLines
