/-
  Equations of neighbours, of the model.
-/
import Derived.Test.YtjfnecmnofcjbaaRowM
import Derived.Test.YtjfnecmnofcjbaaFby
import Derived.Deep.Cut
namespace Go.Proofs.Ytjfnecmnofcjbaa
open Go.Fl Go.RowKit
open Go.Joins (ownsRow_le)
set_option linter.unusedSimpArgs false
set_option linter.unusedVariables false

theorem row_at {B g n cap : Nat} {w : World} {rs : List Nat} (h : w.ownsRow B 37 1 (.slice (some ⟨g, 0, none⟩) n cap) n (rs.map (Value.float .f32))) {k : Nat} (hk : k < rs.length) (hm : k < n) : w.cell? ⟨g, k, none⟩ = some (.float .f32 (rs.getD k 0)) := by
  rw [h.cellAt k (by simpa using hm)]
  exact map_at hk

/-- How many numbers are handed back. -/
def rowN (lo mi up ri : List Nat) : Nat := if triFine lo mi up ri ri.length = true then ri.length else 0
theorem rowN_no {lo mi up ri : List Nat} (h : triFine lo mi up ri ri.length = false) : rowN lo mi up ri = 0 := by unfold rowN; rw [h]; rfl
theorem rowN_yes {lo mi up ri : List Nat} (h : triFine lo mi up ri ri.length = true) : rowN lo mi up ri = ri.length := by unfold rowN; rw [h]; rfl

set_option maxHeartbeats 10000000 in
set_option maxRecDepth 100000 in
theorem sRow1_any (u1 u2 u3 u4 : Value) (lo mi up ri : List Nat) (w : World) (h1 : FS .f32 w u1 lo) (h2 : FS .f32 w u2 mi) (h3 : FS .f32 w u3 up) (h4 : FS .f32 w u4 ri) (l1 : lo.length = ri.length) (l2 : mi.length = ri.length) (l3 : up.length = ri.length) (n1 : 1 ≤ ri.length) (n2 : ri.length ≤ 256) :
    Calls Try.prog 178 #[u1, u2, u3, u4] w fun e w' => (∃ v, e = .returned (.tuple #[v, .bool (triFine lo mi up ri ri.length)]) ∧ FRes w.heap.size w' v (rowN lo mi up ri) (triX lo mi up ri ri.length)) ∧ Below w.heap.size w w' := by
  obtain ⟨i0, hi, hz0, hz1, hz2⟩ := info_parts F32info
  have HI := Lib.hid hi; have HZ0 := Lib.hid hz0; have HZ1 := Lib.hid hz1; have HZ2 := Lib.hid hz2
  clear hi hz0 hz1
  have H1 := Lib.hid h1; have H2 := Lib.hid h2; have H3 := Lib.hid h3; have H4 := Lib.hid h4
  obtain ⟨a1, c1, rfl, _, _, wf1, _⟩ := h1
  obtain ⟨a2, c2, rfl, _, _, wf2, _⟩ := h2
  obtain ⟨a3, c3, rfl, _, _, wf3, _⟩ := h3
  obtain ⟨a4, c4, rfl, _, _, wf4, _⟩ := h4
  have W1 := Lib.hid wf1; have W2 := Lib.hid wf2; have W3 := Lib.hid wf3; have W4 := Lib.hid wf4
  have L1 := Lib.hid l1; have L2 := Lib.hid l2; have L3 := Lib.hid l3
  clear wf1 wf2 wf3 wf4 l1 l2 l3
  go_enter Try.func178, Try.ntmps178
  go_wp2_with fail
  have o1 := own_start w.heap.size w (Nat.le_refl _)
  have d1 := (Below.refl w.heap.size w).alloc (Nat.le_refl _) (.cells #[] 37)
  have ne1 : (w.alloc (.cells #[] 37)).heap.size = w.heap.size + 1 := by simp
  generalize w.alloc (.cells #[] 37) = w1 at o1 d1 ne1 ⊢
  have o2 := own_start w.heap.size w1 d1.size
  have o1' := World.ownsRow.alloc o1 (.cells #[] 37)
  have d2 := d1.alloc d1.size (.cells #[] 37)
  rw [ne1] at o2
  generalize w1.alloc (.cells #[] 37) = w2 at o1' o2 d2 ⊢
  have HO1 := Lib.hid o1'; have HO2 := Lib.hid o2; have HD0 := Lib.hid d2
  clear o1 o1' o2 d1 d2 ne1
  go_loopw [11, 12, 13] (fun s1 s2 i wr => ∃ cs ds : List Nat, i = .int .i64 (cs.length : Int) ∧ Hid (ds.length = cs.length) ∧ cs.length ≤ ri.length ∧ Hid (∀ j, j < cs.length → triGo lo mi up ri j = false) ∧ Hid (Eqs cs (triC lo mi up ri)) ∧ Hid (Eqs ds (triD lo mi up ri)) ∧ (∃ g cap g' cap', s1 = .slice (some ⟨g, 0, none⟩) cs.length cap ∧ s2 = .slice (some ⟨g', 0, none⟩) cs.length cap' ∧ Hid (g ≠ g') ∧ Hid (wr.ownsRow w.heap.size 37 1 s1 cs.length (cs.map (Value.float .f32))) ∧ Hid (wr.ownsRow w.heap.size 37 1 s2 cs.length (ds.map (Value.float .f32)))) ∧ Hid (Below w.heap.size w wr)) (fun _ _ i _ => ri.length - (intOf i).toNat)
  case atStart => exact ⟨[], [], rfl, Lib.hid rfl, Nat.zero_le _, Lib.hid (fun j h => absurd h (Nat.not_lt_zero j)), Lib.hid (Eqs.nil _), Lib.hid (Eqs.nil _), ⟨_, _, _, _, rfl, rfl, Lib.hid (by omega), HO1, HO2⟩, HD0⟩
  case round =>
    clear HO1 HO2 HD0
    obtain ⟨cs, ds, rfl, HSL, hk, HGO, HE1, HE2, ⟨g, cap, g', cap', rfl, rfl, HGG, HO1, HO2⟩, HD⟩ := hrel
    by_cases hlt : cs.length < ri.length
    · have ll1 : cs.length < lo.length := by have := L1.out; omega
      have ll2 : cs.length < mi.length := by have := L2.out; omega
      have ll3 : cs.length < up.length := by have := L3.out; omega
      obtain ⟨b1, o1, e1, x1⟩ := FS.at H1.out HD.out ll1
      obtain ⟨b2, o2, e2, x2⟩ := FS.at H2.out HD.out ll2
      obtain ⟨b3, o3, e3, x3⟩ := FS.at H3.out HD.out ll3
      obtain ⟨b4, o4, e4, x4⟩ := FS.at H4.out HD.out hlt
      obtain rfl := e1; obtain rfl := e2; obtain rfl := e3; obtain rfl := e4
      have ix1 := FS.is W1.out cs.length ll1
      have ix2 := FS.is W2.out cs.length ll2
      have ix3 := FS.is W3.out cs.length ll3
      have ix4 := FS.is W4.out cs.length hlt
      have eC := triC_eq lo mi up ri cs.length
      have eD := triD_eq lo mi up ri cs.length
      have eG : triGo lo mi up ri cs.length = fcmp .eql .f32 (triM lo mi up ri cs.length) 0 := rfl
      have iL1 : (cs.length : Int) < (lo.length : Int) := by omega
      have iL2 : (cs.length : Int) < (mi.length : Int) := by omega
      have iL3 : (cs.length : Int) < (up.length : Int) := by omega
      have iL4 : (cs.length : Int) < (ri.length : Int) := by omega
      have iL0 : (0 : Int) ≤ (cs.length : Int) := Int.natCast_nonneg _
      by_cases hk0 : cs.length = 0
      · have hz : ¬ (0 : Int) < (cs.length : Int) := by omega
        have eM : triM lo mi up ri cs.length = cn .f32 (mi.getD cs.length 0) := by rw [hk0]; rfl
        have eR : triR lo mi up ri cs.length = cn .f32 (ri.getD cs.length 0) := by rw [hk0]; rfl
        generalize cn .f32 (up.getD cs.length 0) = X3 at ix3 eC
        generalize cn .f32 (mi.getD cs.length 0) = X2 at ix2 eM
        generalize cn .f32 (ri.getD cs.length 0) = X4 at ix4 eR
        generalize mi.getD cs.length 0 = y2 at x2 ix2
        generalize up.getD cs.length 0 = y3 at x3 ix3
        generalize ri.getD cs.length 0 = y4 at x4 ix4
        clear hk0 x1 ix1
        cases hgo : triGo lo mi up ri cs.length with
        | true =>
          have HFI := Lib.hid (triFine_not hlt hgo)
          rw [eG, eM] at hgo
          clear eM eR eC eD
          go_wp2_with (first | (apply wpList_fcmp; rfl; rfl; rfl; rfl; (first | with_reducible assumption | exact Is.const rfl); (first | with_reducible assumption | exact Is.const rfl); (first | with_reducible assumption | exact rfl)) | (apply wpList_farith; rfl; rfl; rfl; rfl; (first | with_reducible assumption | exact Is.const rfl); (first | with_reducible assumption | exact Is.const rfl); intro r n hr) | ((with_reducible apply Loose.wp_start); kernel_rfl; kernel_rfl) | ((with_reducible apply Loose.start_cons)) | ((with_reducible apply Loose.start_nil)) | ((with_reducible apply Loose.walk_nil); intro n) | ((with_reducible apply Loose.walk_skip); exact rfl; (go_simp; first | done | exact rfl)) | ((with_reducible apply Loose.step_fc); rfl; rfl; rfl; rfl; (first | with_reducible assumption | exact Is.const rfl); (first | with_reducible assumption | exact Is.const rfl); (first | with_reducible assumption | exact rfl); exact rfl; (go_simp; first | done | exact rfl)) | ((with_reducible apply Loose.step_fa); rfl; rfl; rfl; rfl; (first | with_reducible assumption | exact Is.const rfl); (first | with_reducible assumption | exact Is.const rfl); exact rfl; (intro r; go_simp; first | done | exact rfl); intro r hr) | ((with_reducible apply Loose.step_wid); rfl; rfl; (first | with_reducible assumption | exact Is.const rfl); exact U32; exact U64; exact rfl; (intro r; go_simp; first | done | exact rfl); intro r hr) | ((with_reducible apply Loose.step_nar); rfl; rfl; (first | with_reducible assumption | exact Is.const rfl); exact U64; exact U32; (with_reducible assumption); exact rfl; (intro r; go_simp; first | done | exact rfl); intro r hr) | ((with_reducible apply Loose.step_assign); rfl; rfl; (with_reducible assumption); exact rfl; (intro r; go_simp; first | done | exact rfl); intro r hr) | ((with_reducible apply Loose.step_move); rfl; rfl; (with_reducible assumption); exact rfl; (intro r; go_simp; first | done | exact rfl); intro r hr) | ((with_reducible apply Loose.step_same); rfl; rfl; exact U32; exact U32; (first | with_reducible assumption | exact Is.const rfl); exact rfl; (intro r; go_simp; first | done | exact rfl); intro r hr) | ((with_reducible apply Loose.step_same); rfl; rfl; exact U64; exact U64; (first | with_reducible assumption | exact Is.const rfl); exact rfl; (intro r; go_simp; first | done | exact rfl); intro r hr) | ((with_reducible apply Loose.step_eq); rfl; (intro n; go_simp; first | done | exact rfl); exact rfl; (go_simp; first | done | exact rfl)))
          go_ret2
          rw [HFI.out, rowN_no HFI.out]
          exact ⟨⟨_, rfl, fres_none _ _ _⟩, by first | exact HD.out | exact below_drewN HD.out _⟩
        | false =>
          have HGO2 := Lib.hid hgo
          rw [eG, eM] at hgo
          rw [eM] at eC eD
          rw [eR] at eD
          have HEC := Lib.hid eC
          have HED := Lib.hid eD
          clear eM eR eC eD eG
          go_upto_region 14 with (first | (apply wpList_fcmp; rfl; rfl; rfl; rfl; (first | with_reducible assumption | exact Is.const rfl); (first | with_reducible assumption | exact Is.const rfl); (first | with_reducible assumption | exact rfl)) | (apply wpList_farith; rfl; rfl; rfl; rfl; (first | with_reducible assumption | exact Is.const rfl); (first | with_reducible assumption | exact Is.const rfl); intro r n hr) | ((with_reducible apply Loose.wp_start); kernel_rfl; kernel_rfl) | ((with_reducible apply Loose.start_cons)) | ((with_reducible apply Loose.start_nil)) | ((with_reducible apply Loose.walk_nil); intro n) | ((with_reducible apply Loose.walk_skip); exact rfl; (go_simp; first | done | exact rfl)) | ((with_reducible apply Loose.step_fc); rfl; rfl; rfl; rfl; (first | with_reducible assumption | exact Is.const rfl); (first | with_reducible assumption | exact Is.const rfl); (first | with_reducible assumption | exact rfl); exact rfl; (go_simp; first | done | exact rfl)) | ((with_reducible apply Loose.step_fa); rfl; rfl; rfl; rfl; (first | with_reducible assumption | exact Is.const rfl); (first | with_reducible assumption | exact Is.const rfl); exact rfl; (intro r; go_simp; first | done | exact rfl); intro r hr) | ((with_reducible apply Loose.step_wid); rfl; rfl; (first | with_reducible assumption | exact Is.const rfl); exact U32; exact U64; exact rfl; (intro r; go_simp; first | done | exact rfl); intro r hr) | ((with_reducible apply Loose.step_nar); rfl; rfl; (first | with_reducible assumption | exact Is.const rfl); exact U64; exact U32; (with_reducible assumption); exact rfl; (intro r; go_simp; first | done | exact rfl); intro r hr) | ((with_reducible apply Loose.step_assign); rfl; rfl; (with_reducible assumption); exact rfl; (intro r; go_simp; first | done | exact rfl); intro r hr) | ((with_reducible apply Loose.step_move); rfl; rfl; (with_reducible assumption); exact rfl; (intro r; go_simp; first | done | exact rfl); intro r hr) | ((with_reducible apply Loose.step_same); rfl; rfl; exact U32; exact U32; (first | with_reducible assumption | exact Is.const rfl); exact rfl; (intro r; go_simp; first | done | exact rfl); intro r hr) | ((with_reducible apply Loose.step_same); rfl; rfl; exact U64; exact U64; (first | with_reducible assumption | exact Is.const rfl); exact rfl; (intro r; go_simp; first | done | exact rfl); intro r hr) | ((with_reducible apply Loose.step_eq); rfl; (intro n; go_simp; first | done | exact rfl); exact rfl; (go_simp; first | done | exact rfl)))
          go_wp2_with (first | (apply wpList_farith; rfl; rfl; rfl; rfl; (first | with_reducible assumption | exact Is.const rfl); (first | with_reducible assumption | exact Is.const rfl); intro r n hr) | (at_builtin; refine wpList_append_lies _ rfl _ _ _ rfl w.heap.size 37 i0 _ 1 4 Try.underlying24 HI.out HZ0.out HZ1.out HZ2.out rfl (by omega) (.slice (some ⟨g, 0, none⟩) cs.length cap) cs.length (cs.map (Value.float .f32)) rfl (own_next HO1.out _ _) ⟨wr.heap.size, 0, none⟩ 1 1 [.float .f32 r] rfl rfl (World.news_of_block (cs := #[.float .f32 r]) (t := 37) (fr := (0, 0)) (heap_alloc_new _ _)) (by simp [Value.oneCell']) (by omega) (by unfold maxLen; omega) (by omega) (below_next HD.out _ _).size (wr.heap.size + 1) (by simp) ?_; intro g2 cap2 w3 hown4 hgrow hat hltg; have HR1 := Lib.hid hr; have HB3 := Lib.hid ((below_next HD.out _ _).grown hgrow (below_next HD.out _ _).size (fun k hk => (HO1.out.lt k hk).1)); have HO3 := Lib.hid (World.ownsRow.kept (own_next HO2.out _ _) hgrow (.inr (fun e => HGG.out (by simpa [Value.ownBlock] using e.symm)))); have HG3 := Lib.hid (show g2 ≠ g' from fun e => hat.elim (fun h => HGG.out (by simp [Value.ownBlock] at h; omega)) (fun h => by have := (HO2.out.lt g' rfl).2; omega)); have HN3 := Lib.hid (show w3.ownsRow w.heap.size 37 1 (.slice (some ⟨g2, 0, none⟩) (cs.length + 1) cap2) (cs.length + 1) ((cs ++ [r]).map (Value.float .f32)) by simpa using hown4); clear hown4 hgrow hat hltg hr) | (at_builtin; refine wpList_append_lies _ rfl _ _ _ rfl w.heap.size 37 i0 _ 1 4 Try.underlying24 HI.out HZ0.out HZ1.out HZ2.out rfl (by omega) (.slice (some ⟨g', 0, none⟩) cs.length cap') cs.length (ds.map (Value.float .f32)) rfl (own_next HO3.out _ _) ⟨w3.heap.size, 0, none⟩ 1 1 [.float .f32 r] rfl rfl (World.news_of_block (cs := #[.float .f32 r]) (t := 37) (fr := (0, 0)) (heap_alloc_new _ _)) (by simp [Value.oneCell']) (by omega) (by unfold maxLen; omega) (by omega) (below_next HB3.out _ _).size (w3.heap.size + 1) (by simp) ?_; intro g3 cap3 w4 hown4 hgrow hat hltg))
          have HB4 := Lib.hid ((below_next HB3.out _ _).grown hgrow (below_next HB3.out _ _).size (fun k hk => (HO3.out.lt k hk).1))
          have HN4 := Lib.hid (World.ownsRow.kept (own_next HN3.out _ _) hgrow (.inr (fun e => HG3.out (by simpa [Value.ownBlock] using e))))
          have HG4 := Lib.hid (show g2 ≠ g3 from fun e => hat.elim (fun h => HG3.out (by simp [Value.ownBlock] at h; omega)) (fun h => by have := (HN3.out.lt g2 rfl).2; omega))
          have HP4 := Lib.hid hown4
          have HX1 := Lib.hid (HE1.out.snoc (by rw [HEC.out]; exact HR1.out))
          have HX2 := Lib.hid (HE2.out.snoc (by rw [HSL.out, HED.out]; exact hr))
          clear hown4 hgrow hat hltg
          go_wp2
          go_roundw
          case rel =>
            refine ⟨_, _, ?_, Lib.hid ?_, ?_, Lib.hid ?_, HX1, HX2, ⟨g2, cap2, g3, cap3, ?_, ?_, HG4, ?_, Lib.hid ?_⟩, HB4⟩
            · rw [List.length_append, List.length_singleton]; go_num
            · rw [List.length_append, List.length_append, List.length_singleton, List.length_singleton, HSL.out]
            · rw [List.length_append, List.length_singleton]; omega
            · intro i hi
              rw [List.length_append, List.length_singleton] at hi
              rcases Nat.lt_or_ge i cs.length with h | h
              · exact HGO.out i h
              · rw [show i = cs.length by omega]; exact HGO2.out
            · rw [List.length_append, List.length_singleton]
            · rw [List.length_append, List.length_singleton]
            · rw [List.length_append, List.length_singleton]; exact HN4
            · rw [List.length_append, List.length_singleton]; simpa using HP4.out
          case measure => simp [intOf]; omega
      · obtain ⟨j, hj⟩ : ∃ j, cs.length = j + 1 := ⟨cs.length - 1, by omega⟩
        have hz : (0 : Int) < (cs.length : Int) := by omega
        have eM : triM lo mi up ri cs.length = fop .sub .f32 (cn .f32 (mi.getD cs.length 0)) (fop .mul .f32 (cn .f32 (lo.getD cs.length 0)) (triC lo mi up ri j)) := by rw [hj]; rfl
        have eR : triR lo mi up ri cs.length = fop .sub .f32 (cn .f32 (ri.getD cs.length 0)) (fop .mul .f32 (cn .f32 (lo.getD cs.length 0)) (triD lo mi up ri j)) := by rw [hj]; rfl
        have ix5 := HE1.out j (by omega)
        have ix6 := HE2.out j (by have := HSL.out; omega)
        have x5 := row_at HO1.out (k := j) (by omega) (by omega)
        have x6 := row_at HO2.out (k := j) (by have := HSL.out; omega) (by omega)
        have hw1 : IntKind.i64.wrap ((cs.length : Int) - 1) = (j : Int) := by rw [wrap_i64, wrap64_of (by omega) (by omega)]; omega
        have iJ0 : (0 : Int) ≤ (j : Int) := Int.natCast_nonneg _
        have iJ1 : (j : Int) < (cs.length : Int) := by omega
        have HJ := Lib.hid hj
        clear hj hk0
        generalize cn .f32 (up.getD cs.length 0) = X3 at ix3 eC
        generalize cn .f32 (mi.getD cs.length 0) = X2 at ix2 eM
        generalize cn .f32 (ri.getD cs.length 0) = X4 at ix4 eR
        generalize cn .f32 (lo.getD cs.length 0) = X1 at ix1 eM eR
        generalize triC lo mi up ri j = X5 at ix5 eM
        generalize triD lo mi up ri j = X6 at ix6 eR
        generalize lo.getD cs.length 0 = y1 at x1 ix1
        generalize mi.getD cs.length 0 = y2 at x2 ix2
        generalize up.getD cs.length 0 = y3 at x3 ix3
        generalize ri.getD cs.length 0 = y4 at x4 ix4
        generalize cs.getD j 0 = y5 at x5 ix5
        generalize ds.getD j 0 = y6 at x6 ix6
        cases hgo : triGo lo mi up ri cs.length with
        | true =>
          have HFI := Lib.hid (triFine_not hlt hgo)
          rw [eG, eM] at hgo
          clear eM eR eC eD
          go_wp2_with (first | (apply wpList_fcmp; rfl; rfl; rfl; rfl; (first | with_reducible assumption | exact Is.const rfl); (first | with_reducible assumption | exact Is.const rfl); (first | with_reducible assumption | exact rfl)) | (apply wpList_farith; rfl; rfl; rfl; rfl; (first | with_reducible assumption | exact Is.const rfl); (first | with_reducible assumption | exact Is.const rfl); intro r n hr) | ((with_reducible apply Loose.wp_start); kernel_rfl; kernel_rfl) | ((with_reducible apply Loose.start_cons)) | ((with_reducible apply Loose.start_nil)) | ((with_reducible apply Loose.walk_nil); intro n) | ((with_reducible apply Loose.walk_skip); exact rfl; (go_simp; first | done | exact rfl)) | ((with_reducible apply Loose.step_fc); rfl; rfl; rfl; rfl; (first | with_reducible assumption | exact Is.const rfl); (first | with_reducible assumption | exact Is.const rfl); (first | with_reducible assumption | exact rfl); exact rfl; (go_simp; first | done | exact rfl)) | ((with_reducible apply Loose.step_fa); rfl; rfl; rfl; rfl; (first | with_reducible assumption | exact Is.const rfl); (first | with_reducible assumption | exact Is.const rfl); exact rfl; (intro r; go_simp; first | done | exact rfl); intro r hr) | ((with_reducible apply Loose.step_wid); rfl; rfl; (first | with_reducible assumption | exact Is.const rfl); exact U32; exact U64; exact rfl; (intro r; go_simp; first | done | exact rfl); intro r hr) | ((with_reducible apply Loose.step_nar); rfl; rfl; (first | with_reducible assumption | exact Is.const rfl); exact U64; exact U32; (with_reducible assumption); exact rfl; (intro r; go_simp; first | done | exact rfl); intro r hr) | ((with_reducible apply Loose.step_assign); rfl; rfl; (with_reducible assumption); exact rfl; (intro r; go_simp; first | done | exact rfl); intro r hr) | ((with_reducible apply Loose.step_move); rfl; rfl; (with_reducible assumption); exact rfl; (intro r; go_simp; first | done | exact rfl); intro r hr) | ((with_reducible apply Loose.step_same); rfl; rfl; exact U32; exact U32; (first | with_reducible assumption | exact Is.const rfl); exact rfl; (intro r; go_simp; first | done | exact rfl); intro r hr) | ((with_reducible apply Loose.step_same); rfl; rfl; exact U64; exact U64; (first | with_reducible assumption | exact Is.const rfl); exact rfl; (intro r; go_simp; first | done | exact rfl); intro r hr) | ((with_reducible apply Loose.step_eq); rfl; (intro n; go_simp; first | done | exact rfl); exact rfl; (go_simp; first | done | exact rfl)))
          go_ret2
          rw [HFI.out, rowN_no HFI.out]
          exact ⟨⟨_, rfl, fres_none _ _ _⟩, by first | exact HD.out | exact below_drewN HD.out _⟩
        | false =>
          have HGO2 := Lib.hid hgo
          rw [eG, eM] at hgo
          rw [eM] at eC eD
          rw [eR] at eD
          have HEC := Lib.hid eC
          have HED := Lib.hid eD
          clear eM eR eC eD eG
          go_upto_region 14 with (first | (apply wpList_fcmp; rfl; rfl; rfl; rfl; (first | with_reducible assumption | exact Is.const rfl); (first | with_reducible assumption | exact Is.const rfl); (first | with_reducible assumption | exact rfl)) | (apply wpList_farith; rfl; rfl; rfl; rfl; (first | with_reducible assumption | exact Is.const rfl); (first | with_reducible assumption | exact Is.const rfl); intro r n hr) | ((with_reducible apply Loose.wp_start); kernel_rfl; kernel_rfl) | ((with_reducible apply Loose.start_cons)) | ((with_reducible apply Loose.start_nil)) | ((with_reducible apply Loose.walk_nil); intro n) | ((with_reducible apply Loose.walk_skip); exact rfl; (go_simp; first | done | exact rfl)) | ((with_reducible apply Loose.step_fc); rfl; rfl; rfl; rfl; (first | with_reducible assumption | exact Is.const rfl); (first | with_reducible assumption | exact Is.const rfl); (first | with_reducible assumption | exact rfl); exact rfl; (go_simp; first | done | exact rfl)) | ((with_reducible apply Loose.step_fa); rfl; rfl; rfl; rfl; (first | with_reducible assumption | exact Is.const rfl); (first | with_reducible assumption | exact Is.const rfl); exact rfl; (intro r; go_simp; first | done | exact rfl); intro r hr) | ((with_reducible apply Loose.step_wid); rfl; rfl; (first | with_reducible assumption | exact Is.const rfl); exact U32; exact U64; exact rfl; (intro r; go_simp; first | done | exact rfl); intro r hr) | ((with_reducible apply Loose.step_nar); rfl; rfl; (first | with_reducible assumption | exact Is.const rfl); exact U64; exact U32; (with_reducible assumption); exact rfl; (intro r; go_simp; first | done | exact rfl); intro r hr) | ((with_reducible apply Loose.step_assign); rfl; rfl; (with_reducible assumption); exact rfl; (intro r; go_simp; first | done | exact rfl); intro r hr) | ((with_reducible apply Loose.step_move); rfl; rfl; (with_reducible assumption); exact rfl; (intro r; go_simp; first | done | exact rfl); intro r hr) | ((with_reducible apply Loose.step_same); rfl; rfl; exact U32; exact U32; (first | with_reducible assumption | exact Is.const rfl); exact rfl; (intro r; go_simp; first | done | exact rfl); intro r hr) | ((with_reducible apply Loose.step_same); rfl; rfl; exact U64; exact U64; (first | with_reducible assumption | exact Is.const rfl); exact rfl; (intro r; go_simp; first | done | exact rfl); intro r hr) | ((with_reducible apply Loose.step_eq); rfl; (intro n; go_simp; first | done | exact rfl); exact rfl; (go_simp; first | done | exact rfl)))
          go_wp2_with (first | (apply wpList_farith; rfl; rfl; rfl; rfl; (first | with_reducible assumption | exact Is.const rfl); (first | with_reducible assumption | exact Is.const rfl); intro r n hr) | (at_builtin; refine wpList_append_lies _ rfl _ _ _ rfl w.heap.size 37 i0 _ 1 4 Try.underlying24 HI.out HZ0.out HZ1.out HZ2.out rfl (by omega) (.slice (some ⟨g, 0, none⟩) cs.length cap) cs.length (cs.map (Value.float .f32)) rfl (own_next HO1.out _ _) ⟨wr.heap.size, 0, none⟩ 1 1 [.float .f32 r] rfl rfl (World.news_of_block (cs := #[.float .f32 r]) (t := 37) (fr := (0, 0)) (heap_alloc_new _ _)) (by simp [Value.oneCell']) (by omega) (by unfold maxLen; omega) (by omega) (below_next HD.out _ _).size (wr.heap.size + 1) (by simp) ?_; intro g2 cap2 w3 hown4 hgrow hat hltg; have HR1 := Lib.hid hr; have HB3 := Lib.hid ((below_next HD.out _ _).grown hgrow (below_next HD.out _ _).size (fun k hk => (HO1.out.lt k hk).1)); have HO3 := Lib.hid (World.ownsRow.kept (own_next HO2.out _ _) hgrow (.inr (fun e => HGG.out (by simpa [Value.ownBlock] using e.symm)))); have HG3 := Lib.hid (show g2 ≠ g' from fun e => hat.elim (fun h => HGG.out (by simp [Value.ownBlock] at h; omega)) (fun h => by have := (HO2.out.lt g' rfl).2; omega)); have HN3 := Lib.hid (show w3.ownsRow w.heap.size 37 1 (.slice (some ⟨g2, 0, none⟩) (cs.length + 1) cap2) (cs.length + 1) ((cs ++ [r]).map (Value.float .f32)) by simpa using hown4); clear hown4 hgrow hat hltg hr) | (at_builtin; refine wpList_append_lies _ rfl _ _ _ rfl w.heap.size 37 i0 _ 1 4 Try.underlying24 HI.out HZ0.out HZ1.out HZ2.out rfl (by omega) (.slice (some ⟨g', 0, none⟩) cs.length cap') cs.length (ds.map (Value.float .f32)) rfl (own_next HO3.out _ _) ⟨w3.heap.size, 0, none⟩ 1 1 [.float .f32 r] rfl rfl (World.news_of_block (cs := #[.float .f32 r]) (t := 37) (fr := (0, 0)) (heap_alloc_new _ _)) (by simp [Value.oneCell']) (by omega) (by unfold maxLen; omega) (by omega) (below_next HB3.out _ _).size (w3.heap.size + 1) (by simp) ?_; intro g3 cap3 w4 hown4 hgrow hat hltg))
          have HB4 := Lib.hid ((below_next HB3.out _ _).grown hgrow (below_next HB3.out _ _).size (fun k hk => (HO3.out.lt k hk).1))
          have HN4 := Lib.hid (World.ownsRow.kept (own_next HN3.out _ _) hgrow (.inr (fun e => HG3.out (by simpa [Value.ownBlock] using e))))
          have HG4 := Lib.hid (show g2 ≠ g3 from fun e => hat.elim (fun h => HG3.out (by simp [Value.ownBlock] at h; omega)) (fun h => by have := (HN3.out.lt g2 rfl).2; omega))
          have HP4 := Lib.hid hown4
          have HX1 := Lib.hid (HE1.out.snoc (by rw [HEC.out]; exact HR1.out))
          have HX2 := Lib.hid (HE2.out.snoc (by rw [HSL.out, HED.out]; exact hr))
          clear hown4 hgrow hat hltg
          go_wp2
          go_roundw
          case rel =>
            refine ⟨_, _, ?_, Lib.hid ?_, ?_, Lib.hid ?_, HX1, HX2, ⟨g2, cap2, g3, cap3, ?_, ?_, HG4, ?_, Lib.hid ?_⟩, HB4⟩
            · rw [List.length_append, List.length_singleton]; go_num
            · rw [List.length_append, List.length_append, List.length_singleton, List.length_singleton, HSL.out]
            · rw [List.length_append, List.length_singleton]; omega
            · intro i hi
              rw [List.length_append, List.length_singleton] at hi
              rcases Nat.lt_or_ge i cs.length with h | h
              · exact HGO.out i h
              · rw [show i = cs.length by omega]; exact HGO2.out
            · rw [List.length_append, List.length_singleton]
            · rw [List.length_append, List.length_singleton]
            · rw [List.length_append, List.length_singleton]; exact HN4
            · rw [List.length_append, List.length_singleton]; simpa using HP4.out
          case measure => simp [intOf]; omega
    · have hk2 : cs.length = ri.length := by omega
      have HK2 := Lib.hid hk2
      have HFI := Lib.hid (show triFine lo mi up ri ri.length = true from triFine_all (fun j hj => HGO.out j (by omega)))
      have hb4 : i0.bytes * ri.length ≤ 281474976710656 := by rw [hz2]; omega
      have hml : ri.length ≤ maxLen := by unfold maxLen; omega
      have hwn : wrap64 ((ri.length : Int) - 1) = (ri.length : Int) - 1 := wrap64_of (by omega) (by omega)
      go_wp2_with (at_make; refine wpList_make_full _ rfl _ _ 24 rfl w.heap.size 37 i0 (.float .f32 0) 1 Try.underlying24 HI.out HZ0.out HZ1.out _ _ _ _ ri.length rfl rfl rfl rfl hb4 hml HD.out.size ?_; intro w4 hown hgrow)
      rw [Nat.mul_one, show (madeCells (Value.float .f32 0).cells ri.length).toList = (List.replicate ri.length 0).map (Value.float .f32) from (toList_madeCells_one (.float .f32 0) ri.length).trans (by simp)] at hown
      have d4 := HD.out.grown hgrow HD.out.size (fun k h => by cases h)
      have HC4 := Lib.hid (World.ownsRow.kept HO1.out hgrow (.inr (by simp [Value.ownBlock])))
      have HE4 := Lib.hid (World.ownsRow.kept HO2.out hgrow (.inr (by simp [Value.ownBlock])))
      have HGC := Lib.hid (show g ≠ wr.heap.size from by have := (HO1.out.lt g rfl).2; omega)
      have HGD := Lib.hid (show g' ≠ wr.heap.size from by have := (HO2.out.lt g' rfl).2; omega)
      have HO0 := Lib.hid hown
      have HD4 := Lib.hid d4
      clear hgrow hb4 hml HI HZ0 HZ1 HZ2 hown d4 HO1 HO2 HD
      generalize wr.heap.size = gx at HO0 HGC HGD ⊢
      go_loopw [17] (fun i wr => ∃ (j : Int) (t : Nat) (xs : List Nat), i = .int .i64 j ∧ Hid (j + 1 = (t : Int)) ∧ t ≤ ri.length ∧ Hid (xs.length = ri.length) ∧ Hid (EqOn xs (triX lo mi up ri ri.length) t ri.length) ∧ Hid (wr.ownsRow w.heap.size 37 1 (.slice (some ⟨gx, 0, none⟩) ri.length ri.length) ri.length (xs.map (Value.float .f32))) ∧ Hid (wr.ownsRow w.heap.size 37 1 (.slice (some ⟨g, 0, none⟩) cs.length cap) cs.length (cs.map (Value.float .f32))) ∧ Hid (wr.ownsRow w.heap.size 37 1 (.slice (some ⟨g', 0, none⟩) cs.length cap') cs.length (ds.map (Value.float .f32))) ∧ Hid (Below w.heap.size w wr)) (fun i _ => (intOf i + 1).toNat)
      case atStart => exact ⟨(ri.length : Int) - 1, ri.length, List.replicate ri.length 0, rfl, Lib.hid (by omega), Nat.le_refl _, Lib.hid (by simp), Lib.hid (EqOn.none _ _ _), HO0, HC4, HE4, HD4⟩
      case round =>
        clear HO0 HC4 HE4 HD4
        obtain ⟨j, t, xs, rfl, HJ, ht, HXL, HE, HO, HC, HDr, HD⟩ := hrel
        rcases t with _ | k
        · obtain rfl : j = -1 := by have := HJ.out; omega
          go_wp2_with fail
          go_ret2
          rw [HFI.out, rowN_yes HFI.out]
          exact ⟨⟨_, rfl, xs, HXL.out, EqOn.eqs HE.out HXL.out, by unfold FOwn; rw [HXL.out]; exact HO.out⟩, HD.out⟩
        · obtain rfl : j = (k : Int) := by have := HJ.out; omega
          have hkc : k < cs.length := by omega
          have iK0 : (0 : Int) ≤ (k : Int) := Int.natCast_nonneg _
          have iK1 : (k : Int) < (cs.length : Int) := by omega
          have iK2 : (k : Int) < (ri.length : Int) := by omega
          have hwk : wrap64 ((k : Int) - 1) = (k : Int) - 1 := wrap64_of (by omega) (by omega)
          have xd := row_at HDr.out (k := k) (by rw [HSL.out]; omega) hkc
          have xx := row_at HO.out (k := k) (by rw [HXL.out]; omega) (by omega)
          have hfx := HO.out.frozenAt k
          have ixd := HE2.out k (by rw [HSL.out]; omega)
          have STX := HO.out.stored k (.float .f32 (ds.getD k 0))
          rw [map_set] at STX
          have hgx := (HO.out.lt gx rfl).1
          have HSX := Lib.hid STX.1
          have HSC := Lib.hid (World.ownsRow.kept HC.out STX.2 (.inr (fun e => HGC.out (by simpa [Value.ownBlock] using e))))
          have HSD := Lib.hid (World.ownsRow.kept HDr.out STX.2 (.inr (fun e => HGD.out (by simpa [Value.ownBlock] using e))))
          have HB := Lib.hid (HD.out.setCell (p := ⟨gx, k, none⟩) hgx (.float .f32 (ds.getD k 0)))
          have hds : ds.getD k 0 = ds.getD k 0 := rfl
          generalize hy : ds.getD k 0 = y at xd ixd HSX HSC HSD HB
          clear STX hds
          have HY := Lib.hid hy
          clear hy
          by_cases hl : k + 1 = ri.length
          · have hnl : ¬ (k : Int) < (ri.length : Int) - 1 := by omega
            have HL := Lib.hid hl
            clear hl
            go_wp2_with fail
            go_roundw
            case rel => exact ⟨(k : Int) - 1, k, xs.set k y, rfl, Lib.hid (by omega), by omega, Lib.hid (by rw [List.length_set]; exact HXL.out), Lib.hid (EqOn.set_down HE.out (by rw [HXL.out]; omega) (by rw [show k = ri.length - 1 by have := HL.out; omega] at ixd ⊢; rw [triX_last]; exact ixd)), HSX, HSC, HSD, HB⟩
            case measure => simp [intOf]
          · have hnl : (k : Int) < (ri.length : Int) - 1 := by omega
            have iK3 : (k : Int) + 1 < (ri.length : Int) := by omega
            have iK4 : (0 : Int) ≤ (k : Int) + 1 := by omega
            have hwk1 : IntKind.i64.wrap ((k : Int) + 1) = (k : Int) + 1 := by rw [wrap_i64, wrap64_of (by omega) (by omega)]
            go_wp2_with fail
            clear xd xx hfx
            generalize wr.setCell ⟨gx, k, none⟩ (.float .f32 y) = w5 at HSX HSC HSD HB ⊢
            have xc := row_at HSC.out (k := k) (by omega) hkc
            have xd := row_at HSD.out (k := k) (by rw [HSL.out]; omega) hkc
            have x1 := row_at HSX.out (k := k + 1) (by rw [List.length_set, HXL.out]; omega) (by omega)
            have x0 := row_at HSX.out (k := k) (by rw [List.length_set, HXL.out]; omega) (by omega)
            rw [HY.out] at xd
            rw [getD_set xs k y (k + 1) (by rw [HXL.out]; omega), if_neg (by omega)] at x1
            have ixc := HE1.out k hkc
            have ix1 := HE.out (k + 1) (Nat.le_refl _) (by omega)
            have hfx := HSX.out.frozenAt k
            generalize hyc : cs.getD k 0 = yc at xc ixc
            have HYC := Lib.hid hyc
            generalize hy1 : xs.getD (k + 1) 0 = y1 at x1 ix1
            have HY1 := Lib.hid hy1
            clear hyc hy1
            have HEQ := Lib.hid (triX_step lo mi up ri (n := ri.length) (k := k) (by omega))
            generalize triC lo mi up ri k = XC at ixc HEQ
            generalize triD lo mi up ri k = XD at ixd HEQ
            generalize triX lo mi up ri ri.length (k + 1) = X1 at ix1 HEQ
            refine wp_region_noPanic ?_
            refine wp_region_held_drew (S := fun w' => w'.cell? ⟨g', k, none⟩ = some (.float .f32 y) ∧ w'.cell? ⟨g, k, none⟩ = some (.float .f32 yc) ∧ w'.cell? ⟨gx, k + 1, none⟩ = some (.float .f32 y1)) (by kernel_rfl) ⟨xd, xc, x1⟩ (fun hHeld => ?_)
            ((refine wpAnyH_take (i := 0) (v := ?_) rfl (by kernel_rfl) (by kernel_rfl) (by kernel_rfl) (fun _ _ _ h => h) (Or.inl ⟨by rfl, ?_⟩) (by assumption) ?_; rotate_left; (· intro w hSw; (try dsimp only at hSw); go_simp; first | done | with_reducible rfl); (try simp only [List.getElem_toArray, List.getElem_cons_zero, List.getElem_cons_succ, Act.put, List.setIfInBounds_toArray, List.set_cons_zero, List.set_cons_succ])); (refine wpAnyH_take (i := 1) (v := ?_) rfl (by kernel_rfl) (by kernel_rfl) (by kernel_rfl) (fun _ _ _ h => h) (Or.inl ⟨by rfl, ?_⟩) (by assumption) ?_; rotate_left; (· intro w hSw; (try dsimp only at hSw); go_simp; first | done | with_reducible rfl); (try simp only [List.getElem_toArray, List.getElem_cons_zero, List.getElem_cons_succ, Act.put, List.setIfInBounds_toArray, List.set_cons_zero, List.set_cons_succ])); (refine wpAnyH_take (i := 2) (v := ?_) rfl (by kernel_rfl) (by kernel_rfl) (by kernel_rfl) (fun _ _ _ h => h) (Or.inl ⟨by rfl, ?_⟩) (by assumption) ?_; rotate_left; (· intro w hSw; (try dsimp only at hSw); go_simp; first | done | with_reducible rfl); (try simp only [List.getElem_toArray, List.getElem_cons_zero, List.getElem_cons_succ, Act.put, List.setIfInBounds_toArray, List.set_cons_zero, List.set_cons_succ])); (refine wpAnyH_take (i := 3) (v := ?_) rfl (by kernel_rfl) (by kernel_rfl) (by kernel_rfl) (fun _ _ _ h => h) (Or.inl ⟨by rfl, ?_⟩) (by assumption) ?_; rotate_left; (· intro w hSw; (try dsimp only at hSw); go_simp; first | done | with_reducible rfl); (try simp only [List.getElem_toArray, List.getElem_cons_zero, List.getElem_cons_succ, Act.put, List.setIfInBounds_toArray, List.set_cons_zero, List.set_cons_succ])); (refine wpAnyH_take (i := 4) (v := ?_) rfl (by kernel_rfl) (by kernel_rfl) (by kernel_rfl) (fun _ _ _ h => h) (Or.inl ⟨by rfl, ?_⟩) (by assumption) ?_; rotate_left; (· intro w hSw; (try dsimp only at hSw); go_simp; first | done | with_reducible rfl); (try simp only [List.getElem_toArray, List.getElem_cons_zero, List.getElem_cons_succ, Act.put, List.setIfInBounds_toArray, List.set_cons_zero, List.set_cons_succ])); (refine wpAnyH_take (i := 5) (v := ?_) rfl (by kernel_rfl) (by kernel_rfl) (by kernel_rfl) (fun _ _ _ h => h) (Or.inl ⟨by rfl, ?_⟩) (by assumption) ?_; rotate_left; (· intro w hSw; (try dsimp only at hSw); go_simp; first | done | with_reducible rfl); (try simp only [List.getElem_toArray, List.getElem_cons_zero, List.getElem_cons_succ, Act.put, List.setIfInBounds_toArray, List.set_cons_zero, List.set_cons_succ])); (refine wpAnyH_take (i := 6) (v := ?_) rfl (by kernel_rfl) (by kernel_rfl) (by kernel_rfl) (fun _ _ _ h => h) (Or.inl ⟨by rfl, ?_⟩) (by assumption) ?_; rotate_left; (· intro w hSw; (try dsimp only at hSw); go_simp; first | done | with_reducible rfl); (try simp only [List.getElem_toArray, List.getElem_cons_zero, List.getElem_cons_succ, Act.put, List.setIfInBounds_toArray, List.set_cons_zero, List.set_cons_succ])); (refine wpAnyH_take (i := 7) (v := ?_) rfl (by kernel_rfl) (by kernel_rfl) (by kernel_rfl) (fun _ _ _ h => h) (Or.inl ⟨by rfl, ?_⟩) (by assumption) ?_; rotate_left; (· intro w hSw; (try dsimp only at hSw); go_simp; first | done | with_reducible rfl); (try simp only [List.getElem_toArray, List.getElem_cons_zero, List.getElem_cons_succ, Act.put, List.setIfInBounds_toArray, List.set_cons_zero, List.set_cons_succ])); (refine wpAnyH_take (i := 8) (v := ?_) rfl (by kernel_rfl) (by kernel_rfl) (by kernel_rfl) (fun _ _ _ h => h) (Or.inl ⟨by rfl, ?_⟩) (by assumption) ?_; rotate_left; (· intro w hSw; (try dsimp only at hSw); go_simp; first | done | with_reducible rfl); (try simp only [List.getElem_toArray, List.getElem_cons_zero, List.getElem_cons_succ, Act.put, List.setIfInBounds_toArray, List.set_cons_zero, List.set_cons_succ])); (refine wpAnyH_take (i := 9) (v := ?_) rfl (by kernel_rfl) (by kernel_rfl) (by kernel_rfl) (fun _ _ _ h => h) (Or.inl ⟨by rfl, ?_⟩) (by assumption) ?_; rotate_left; (· intro w hSw; (try dsimp only at hSw); go_simp; first | done | with_reducible rfl); (try simp only [List.getElem_toArray, List.getElem_cons_zero, List.getElem_cons_succ, Act.put, List.setIfInBounds_toArray, List.set_cons_zero, List.set_cons_succ])); (refine wpAnyH_take (i := 10) (v := ?_) rfl (by kernel_rfl) (by kernel_rfl) (by kernel_rfl) (fun _ _ _ h => h) (Or.inl ⟨by rfl, ?_⟩) (by assumption) ?_; rotate_left; (· intro w hSw; (try dsimp only at hSw); go_simp; first | done | with_reducible rfl); (try simp only [List.getElem_toArray, List.getElem_cons_zero, List.getElem_cons_succ, Act.put, List.setIfInBounds_toArray, List.set_cons_zero, List.set_cons_succ])); (refine wpAnyH_take (i := 11) (v := ?_) rfl (by kernel_rfl) (by kernel_rfl) (by kernel_rfl) (fun _ _ _ h => h) (Or.inl ⟨by rfl, ?_⟩) (by assumption) ?_; rotate_left; (· intro w hSw; (try dsimp only at hSw); go_simp; first | done | with_reducible rfl); (try simp only [List.getElem_toArray, List.getElem_cons_zero, List.getElem_cons_succ, Act.put, List.setIfInBounds_toArray, List.set_cons_zero, List.set_cons_succ])); (refine wpAnyH_take (i := 12) (v := ?_) rfl (by kernel_rfl) (by kernel_rfl) (by kernel_rfl) (fun _ _ _ h => h) (Or.inl ⟨by rfl, ?_⟩) (by assumption) ?_; rotate_left; (· intro w hSw; (try dsimp only at hSw); go_simp; first | done | with_reducible rfl); (try simp only [List.getElem_toArray, List.getElem_cons_zero, List.getElem_cons_succ, Act.put, List.setIfInBounds_toArray, List.set_cons_zero, List.set_cons_succ])); (refine wpAnyH_take (i := 13) (v := ?_) rfl (by kernel_rfl) (by kernel_rfl) (by kernel_rfl) (fun _ _ _ h => h) (Or.inl ⟨by rfl, ?_⟩) (by assumption) ?_; rotate_left; (· intro w hSw; (try dsimp only at hSw); go_simp; first | done | with_reducible rfl); (try simp only [List.getElem_toArray, List.getElem_cons_zero, List.getElem_cons_succ, Act.put, List.setIfInBounds_toArray, List.set_cons_zero, List.set_cons_succ])); (refine wpAnyH_take (i := 14) (v := ?_) rfl (by kernel_rfl) (by kernel_rfl) (by kernel_rfl) (fun _ _ _ h => h) (Or.inl ⟨by rfl, ?_⟩) (by assumption) ?_; rotate_left; (· intro w hSw; (try dsimp only at hSw); go_simp; first | done | with_reducible rfl); (try simp only [List.getElem_toArray, List.getElem_cons_zero, List.getElem_cons_succ, Act.put, List.setIfInBounds_toArray, List.set_cons_zero, List.set_cons_succ])))
            (refine wpAnyH_ready (rs := [15]) (by kernel_rfl) (by simp) ?_; refine AllReadyH.cons (i := 15) rfl (fun K hK => ?_) AllReadyH.nil)
            refine hstep_fa rfl .mul 37 37 _ _ rfl rfl .f32 yc y1 rfl rfl ixc ix1 ?_
            intro r1 n1 hr1
            (refine hK.out _ _ (by go_keep) (fun hHeld => ?_); clear hK K; (try simp only [List.getElem_toArray, List.getElem_cons_zero, List.getElem_cons_succ, Act.put, List.setIfInBounds_toArray, List.set_cons_zero, List.set_cons_succ]))
            (refine wpAnyH_ready (rs := [16]) (by kernel_rfl) (by simp) ?_; refine AllReadyH.cons (i := 16) rfl (fun K hK => ?_) AllReadyH.nil)
            refine hstep_fa rfl .sub 37 37 _ _ rfl rfl .f32 y r1 rfl rfl ixd hr1 ?_
            intro r2 n2 hr2
            (refine hK.out _ _ (by go_keep) (fun hHeld => ?_); clear hK K; (try simp only [List.getElem_toArray, List.getElem_cons_zero, List.getElem_cons_succ, Act.put, List.setIfInBounds_toArray, List.set_cons_zero, List.set_cons_succ]))
            have hr3 : Is .f32 r2 (triX lo mi up ri ri.length k) := by rw [HEQ.out]; exact hr2
            have HX5 : Hid ((w5.drewN (1 + n1 + n2)).ownsRow w.heap.size 37 1 (.slice (some ⟨gx, 0, none⟩) ri.length ri.length) ri.length ((xs.set k y).map (Value.float .f32))) := Lib.hid HSX.out
            have ST := HX5.out.stored k (.float .f32 r2)
            rw [map_set] at ST
            have HN1 := Lib.hid ST.1
            have HN2 := Lib.hid (World.ownsRow.kept (show (w5.drewN (1 + n1 + n2)).ownsRow w.heap.size 37 1 (.slice (some ⟨g, 0, none⟩) cs.length cap) cs.length (cs.map (Value.float .f32)) from HSC.out) ST.2 (.inr (fun e => HGC.out (by simpa [Value.ownBlock] using e))))
            have HN3 := Lib.hid (World.ownsRow.kept (show (w5.drewN (1 + n1 + n2)).ownsRow w.heap.size 37 1 (.slice (some ⟨g', 0, none⟩) cs.length cap') cs.length (ds.map (Value.float .f32)) from HSD.out) ST.2 (.inr (fun e => HGD.out (by simpa [Value.ownBlock] using e))))
            have HNB := Lib.hid ((below_drewN HB.out (1 + n1 + n2)).setCell (p := ⟨gx, k, none⟩) (HX5.out.lt gx rfl).1 (.float .f32 r2))
            have c1' := row_at HN1.out (k := k + 1) (by rw [List.length_set, List.length_set, HXL.out]; omega) (by omega)
            have c2' := row_at HN2.out (k := k) (by omega) hkc
            have c3' := row_at HN3.out (k := k) (by rw [HSL.out]; omega) hkc
            rw [getD_set _ k r2 (k + 1) (by rw [List.length_set, HXL.out]; omega), if_neg (by omega), getD_set xs k y (k + 1) (by rw [HXL.out]; omega), if_neg (by omega), HY1.out] at c1'
            rw [HYC.out] at c2'
            rw [HY.out] at c3'
            clear ST
            ((refine wpAnyH_take (i := 17) (v := ?_) rfl (by kernel_rfl) (by kernel_rfl) (by kernel_rfl) (fun _ _ _ h => h) (Or.inl ⟨by rfl, ?_⟩) (by assumption) ?_; rotate_left; (· intro w hSw; (try dsimp only at hSw); go_simp; first | done | with_reducible rfl); (try simp only [List.getElem_toArray, List.getElem_cons_zero, List.getElem_cons_succ, Act.put, List.setIfInBounds_toArray, List.set_cons_zero, List.set_cons_succ])))
            (refine wpAnyH_ready (rs := [18]) (by kernel_rfl) (by simp) ?_; refine AllReadyH.cons (i := 18) rfl (fun K hK => ?_) AllReadyH.nil)
            go_simp
            (refine hK.out _ _ (⟨c3', c2', c1'⟩) (fun hHeld => ?_); clear hK K; (try simp only [List.getElem_toArray, List.getElem_cons_zero, List.getElem_cons_succ, Act.put, List.setIfInBounds_toArray, List.set_cons_zero, List.set_cons_succ]))
            (refine wpAnyH_done (by kernel_rfl) ?_ _; refine NoPanic.normal ?_)
            clear hHeld xd xc x1 x0 hfx c1' c2' c3'
            go_wp2_with fail
            go_roundw
            case rel => exact ⟨(k : Int) - 1, k, (xs.set k y).set k r2, rfl, Lib.hid (by omega), by omega, Lib.hid (by rw [List.length_set, List.length_set]; exact HXL.out), Lib.hid (EqOn.set_down (EqOn.set_out HE.out (by rw [HXL.out]; omega) (.inl (by omega))) (by rw [List.length_set, HXL.out]; omega) hr3), HN1, HN2, HN3, HNB⟩
            case measure => simp [intOf]
end Go.Proofs.Ytjfnecmnofcjbaa
