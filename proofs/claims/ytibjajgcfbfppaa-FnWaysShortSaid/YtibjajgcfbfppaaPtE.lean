/-
  The energy of a list of particles, exactly.
-/
import Derived.Test.YtibjajgcfbfppaaPtM
namespace Go.Proofs.Ytibjajgcfbfppaa
open Go.Fl Go.RowKit
set_option linter.unusedSimpArgs false
set_option linter.unusedVariables false

set_option maxHeartbeats 1000000 in
set_option maxRecDepth 100000 in
theorem iEnergy_pt (B : Nat) (v : Value) (ts : List Pt) (w : World) (hv : POwn B w v ts) (h : oks ts) (hn : ts.length ≤ 64) :
    Calls Try.prog 24 #[v] w fun e w' => (∃ a, e = .returned (.tuple #[.float .f32 a, .bool true]) ∧ Dy .f32 139 a (sumI eneI ts ts.length)) ∧ Below w.heap.size w w' := by
  obtain ⟨a, cap, rfl, hf⟩ := p_form hv
  have HV := Lib.hid hv; have HO := Lib.hid h
  have HX := Lib.hid (sumI_le eneI ts 2048 (fun t ht => (by have := eneI_in (h t ht); omega)))
  clear hv h
  go_enter Try.func24, Try.ntmps24
  go_wp2_with fail
  refine (iAre_pt B _ ts _ HV.out HO.out hn).mono ?_
  rintro e w1 ⟨rfl, hb1⟩
  go_wp2_with fail
  go_loopw [4, 12] (fun s i wr => ∃ k : Nat, k ≤ ts.length ∧ i = .int .i64 k ∧ Below w.heap.size w wr ∧ ∃ x, s = .float .f64 x ∧ Hid (Dy .f64 1064 x (sumI eneI ts k))) (fun s i _ => ts.length - (intOf i).toNat)
  case atStart => exact ⟨0, Nat.zero_le _, rfl, hb1, 0, rfl, Lib.hid (dy_zero64 _)⟩
  case round =>
    clear hb1
    obtain ⟨k, hk, rfl, hb, x, rfl, HD⟩ := hrel
    by_cases hlt : k < ts.length
    · rcases hf with hf | ⟨g, rfl, _, _⟩
      · subst hf; simp at hlt
      obtain ⟨c0, c1, c2, c3⟩ := p_cells (r4_below HV.out hb) hlt
      have HT := Lib.hid (oks_at HO.out hlt)
      have b1 := HX.out k (by omega)
      have b3 := eneI_in HT.out
      have HSX := Lib.hid (sumI_succ eneI ts hlt)
      generalize ts[k] = t at c0 c1 c2 c3 HT b3 HSX
      have HB1 := Lib.hid (hb.alloc hb.size (.cells #[.complex .f32 (E8 t.n) (E8 t.m), .complex .f32 t.x t.y, .float .f32 (E8 t.c), .float .f32 (E8 t.s)] 68))
      have HS := Lib.hid (HD.out.add64 (eneF_dy HT.out) (by decide) (by omega))
      have is := (is_e8 t.s (by have := HT.out.s0; omega) (by have := HT.out.s1; omega)).1
      have ix := HT.out.dx.is; have iy := HT.out.dy.is; have iz := HD.out.is
      clear hb b1 b3
      go_wp2_with (first | ((with_reducible apply Loose.wp_start); kernel_rfl; kernel_rfl) | ((with_reducible apply Loose.start_cons)) | ((with_reducible apply Loose.start_nil)) | ((with_reducible apply Loose.walk_nil); intro n) | ((with_reducible apply Loose.walk_skip); exact rfl; (go_simp; first | done | exact rfl)) | ((with_reducible apply Loose.step_fc); rfl; rfl; rfl; rfl; (first | with_reducible assumption | exact Is.const rfl); (first | with_reducible assumption | exact Is.const rfl); (first | with_reducible assumption | exact rfl); exact rfl; (go_simp; first | done | exact rfl)) | ((with_reducible apply Loose.step_fa); rfl; rfl; rfl; rfl; (first | with_reducible assumption | exact Is.const rfl); (first | with_reducible assumption | exact Is.const rfl); exact rfl; (intro r; go_simp; first | done | exact rfl); intro r hr) | ((with_reducible apply Loose.step_wid); rfl; rfl; (first | with_reducible assumption | exact Is.const rfl); exact U32; exact U64; exact rfl; (intro r; go_simp; first | done | exact rfl); intro r hr) | ((with_reducible apply Loose.step_nar); rfl; rfl; (first | with_reducible assumption | exact Is.const rfl); exact U64; exact U32; (with_reducible assumption); exact rfl; (intro r; go_simp; first | done | exact rfl); intro r hr) | ((with_reducible apply Loose.step_assign); rfl; rfl; (with_reducible assumption); exact rfl; (intro r; go_simp; first | done | exact rfl); intro r hr) | ((with_reducible apply Loose.step_move); rfl; rfl; (with_reducible assumption); exact rfl; (intro r; go_simp; first | done | exact rfl); intro r hr) | ((with_reducible apply Loose.step_same); rfl; rfl; exact U32; exact U32; (first | with_reducible assumption | exact Is.const rfl); exact rfl; (intro r; go_simp; first | done | exact rfl); intro r hr) | ((with_reducible apply Loose.step_same); rfl; rfl; exact U64; exact U64; (first | with_reducible assumption | exact Is.const rfl); exact rfl; (intro r; go_simp; first | done | exact rfl); intro r hr) | ((with_reducible apply Loose.step_callF); rfl; (intro n; go_simp; first | exact ⟨rfl, rfl⟩ | exact rfl); (intro n; go_at_call 51; exact iWideP_any _ _ _ _ ix iy _); exact rfl; (intro r; go_simp; first | done | exact rfl); intro r hr) | ((with_reducible apply Loose.step_eq); rfl; (intro n; go_simp; first | done | exact rfl); exact rfl; (go_simp; first | done | exact rfl)))
      go_roundw
      case rel => exact ⟨k + 1, by omega, by go_num, below_drewN HB1.out _, _, rfl, Lib.hid (by rw [HSX.out]; exact dyis HS.out (by assumption))⟩
      case measure => simp [intOf]; omega
    · obtain rfl : k = ts.length := by omega
      clear hlt
      have i1 := HD.out.is
      have hfit := HD.out.fits (u := 139) (by have := HX.out ts.length (Nat.le_refl _); omega) (by decide)
      go_wp2_with fail
      refine (iNarrow_any _ _ i1 hfit _).mono ?_
      rintro e w2 ⟨⟨r, rfl, hr⟩, n, rfl⟩
      go_wp2_with fail
      go_ret2
      exact ⟨⟨_, rfl, dyis (HD.out.nar (u := 139) (by have := HX.out ts.length (Nat.le_refl _); omega) (by decide)) hr⟩, below_drewN hb _⟩
end Go.Proofs.Ytibjajgcfbfppaa
