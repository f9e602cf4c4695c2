/-
  The charge of a list of particles, exactly; numbers chosen by bytes; equal fields.
-/
import Derived.Test.YtnknhfhllifnhaaDepH
import Derived.Test.YtnknhfhllifnhaaDvC
import Derived.Test.YtnknhfhllifnhaaNl
namespace Go.Proofs.Ytnknhfhllifnhaa
open Go.Fl Go.RowKit
set_option linter.unusedSimpArgs false
set_option linter.unusedVariables false

def chgI (t : Pt) : Int := t.c
set_option maxHeartbeats 1000000 in
theorem iCharge_pt (B : Nat) (v : Value) (ts : List Pt) (w : World) (hv : POwn B w v ts) (h : oks ts) (hn : ts.length ≤ 64) :
    Calls Try.prog 15 #[v] w fun e w' => (∃ a, e = .returned (.tuple #[.float .f32 a, .bool true]) ∧ Dy .f32 146 a (sumI chgI ts ts.length)) ∧ Below w.heap.size w w' := by
  obtain ⟨a, cap, rfl, hf⟩ := p_form hv
  have HV := Lib.hid hv; have HO := Lib.hid h
  have HX := Lib.hid (sumI_le chgI ts 16 (fun t ht => ⟨(h t ht).c0, (h t ht).c1⟩))
  clear hv h
  go_enter Try.func15, Try.ntmps15
  go_wp2_with fail
  refine (iAre_pt B _ ts _ HV.out HO.out hn).mono ?_
  rintro e w1 ⟨rfl, hb1⟩
  go_wp2_with fail
  go_loopw [4, 12] (fun s i wr => ∃ k : Nat, k ≤ ts.length ∧ i = .int .i64 k ∧ Below w.heap.size w wr ∧ ∃ x, s = .float .f32 x ∧ Hid (Dy .f32 146 x (sumI chgI ts k))) (fun s i _ => ts.length - (intOf i).toNat)
  case atStart => exact ⟨0, Nat.zero_le _, rfl, hb1, 0, rfl, Lib.hid (dy_zero32 _)⟩
  case round =>
    clear hb1
    obtain ⟨k, hk, rfl, hb, x, rfl, HD⟩ := hrel
    by_cases hlt : k < ts.length
    · rcases hf with hf | ⟨g, rfl, _, _⟩
      · subst hf; simp at hlt
      obtain ⟨c0, c1, c2, c3⟩ := p_cells (r4_below HV.out hb) hlt
      have HT := Lib.hid (oks_at HO.out hlt)
      have b1 := HX.out k (by omega)
      have HSX := Lib.hid (sumI_succ chgI ts hlt)
      generalize ts[k] = t at c0 c1 c2 c3 HT HSX
      have HB1 := Lib.hid (hb.alloc hb.size (.cells #[.complex .f32 (E8 t.n) (E8 t.m), .complex .f32 t.x t.y, .float .f32 (E8 t.c), .float .f32 (E8 t.s)] 57))
      have hc := dy_e8' (n := t.c) (by have := HT.out.c0; omega) (by have := HT.out.c1; omega)
      have HS := Lib.hid (HD.out.addv32 hc (by decide) (by have := HT.out.c0; have := HT.out.c1; omega))
      have ix := HD.out.is; have iy := hc.is
      clear hb b1 hc
      go_wp2_with (apply wpList_farith; rfl; rfl; rfl; rfl; (first | with_reducible assumption | exact Is.const rfl); (first | with_reducible assumption | exact Is.const rfl); intro r n hr)
      go_roundw
      case rel => exact ⟨k + 1, by omega, by go_num, below_drewN HB1.out _, _, rfl, Lib.hid (by rw [HSX.out]; exact dyis HS.out (by assumption))⟩
      case measure => simp [intOf]; omega
    · obtain rfl : k = ts.length := by omega
      clear hlt
      go_wp2
      go_ret2
      exact ⟨⟨_, rfl, HD.out⟩, hb⟩

set_option maxRecDepth 100000 in
theorem lAt_any (a : Option Addr) (n cap : Nat) (z : List Int) (k : Int) (hk : k = 0 ∨ k = 1) (w : World) (h : Go.Nl.NS .u8 w (.slice a n cap) z) :
    Calls Try.prog 16 #[.slice a n cap, .int .i64 k, .int .i64 9] w fun e w' => (∃ x : Int, e = .returned (.int .i64 x) ∧ 0 ≤ x ∧ x < 9) ∧ w' = w := by
  obtain ⟨a', cap', e, hlc, hcm, hwf, hcell⟩ := h
  simp only [Value.slice.injEq] at e
  obtain ⟨rfl, rfl, rfl⟩ := e
  by_cases hlt : k < (z.length : Int)
  · obtain rfl | ⟨b, off, rfl, hbl, hcell⟩ := hcell
    · simp at hlt; omega
    have hb := byte_range (x := z.getD k.toNat 0) (hwf _ (by rw [List.getD_eq_getElem?_getD, List.getElem?_eq_getElem (show k.toNat < z.length by omega)]; exact List.getElem_mem _))
    have hc := hcell k.toNat (by omega)
    generalize z.getD k.toNat 0 = x at hb hc
    rcases hk with rfl | rfl
    · have h1 : ¬ ((z.length : Int) ≤ 0) := by omega
      have hc' : w.cell? ⟨b, off, none⟩ = some (.int .u8 x) := by simpa using hc
      go_enter Try.func16, Try.ntmps16
      go_wp2
      all_goals (go_ret; exact ⟨⟨_, rfl, by omega, by omega⟩, rfl⟩)
    · have h1 : ¬ ((z.length : Int) ≤ 1) := by omega
      have hc' : w.cell? ⟨b, off + 1, none⟩ = some (.int .u8 x) := by simpa using hc
      go_enter Try.func16, Try.ntmps16
      go_wp2
      all_goals (go_ret; exact ⟨⟨_, rfl, by omega, by omega⟩, rfl⟩)
  · clear hcell hwf hcm hlc
    generalize z.length = L at hlt ⊢
    rcases hk with rfl | rfl
    · obtain rfl : L = 0 := by omega
      go_enter Try.func16, Try.ntmps16
      go_wp2
      all_goals (go_ret; exact ⟨⟨_, rfl, by omega, by omega⟩, rfl⟩)
    · have hL : L = 0 ∨ L = 1 := by omega
      rcases hL with rfl | rfl
      · go_enter Try.func16, Try.ntmps16
        go_wp2
        all_goals (go_ret; exact ⟨⟨_, rfl, by omega, by omega⟩, rfl⟩)
      · go_enter Try.func16, Try.ntmps16
        go_wp2
        all_goals (go_ret; exact ⟨⟨_, rfl, by omega, by omega⟩, rfl⟩)

set_option maxHeartbeats 1000000 in
theorem lEqual_any (u v : Value) (xs ys : List Nat) (F : Nat → Int) (w : World) (hu : FS .f32 w u xs) (hv : FS .f32 w v ys) (hl : xs.length = ys.length) (hn : xs.length ≤ 256) (hx : DyL xs F) (hy : DyL ys F) :
    Calls Try.prog 21 #[u, v] w fun e w' => e = .returned (.bool true) ∧ ∃ n, w' = w.drewN n := by
  have HU := Lib.hid hu; have HV := Lib.hid hv; have HX := Lib.hid hx; have HY := Lib.hid hy; have HL := Lib.hid hl
  obtain ⟨a1, c1, rfl, hlc, hcm, hwf, hmem⟩ := hu
  obtain ⟨a2, c2, rfl, hlc2, hcm2, hwf2, hmem2⟩ := hv
  have hl2 : (ys.length : Int) = (xs.length : Int) := by omega
  clear hmem hmem2 hx hy hlc hlc2 hcm hcm2 hwf hwf2 hl
  go_enter Try.func21, Try.ntmps21
  go_wp2
  go_loopw [5] (fun i wr => ∃ k : Nat, k ≤ xs.length ∧ i = .int .i64 k ∧ ∃ n, wr = w.drewN n) (fun i _ => xs.length - (intOf i).toNat)
  case atStart => exact ⟨0, Nat.zero_le _, rfl, 0, rfl⟩
  case round =>
    obtain ⟨k, hk, rfl, n, rfl⟩ := hrel
    by_cases hlt : k < xs.length
    · obtain ⟨b1, o1, e1, hcx⟩ := FS.at HU.out (Below.refl _ w) hlt
      obtain ⟨b2, o2, e2, hcy⟩ := FS.at HV.out (Below.refl _ w) (show k < ys.length by have := HL.out; omega)
      obtain rfl := e1
      obtain rfl := e2
      have dx := HX.out k hlt; have dy := HY.out k (show k < ys.length by have := HL.out; omega)
      have ix := dx.is; have iy := dy.is
      have hq : fcmp .neq .f32 (xs.getD k 0) (ys.getD k 0) = false := by rw [dx.dv.neq dy.dv]; simp
      generalize xs.getD k 0 = x at hcx ix hq
      generalize ys.getD k 0 = y at hcy iy hq
      have hj : (k : Int) < (xs.length : Int) := by omega
      have hj2 : (k : Int) < (ys.length : Int) := by omega
      clear dx dy
      go_wp2_with (first | ((with_reducible apply Loose.wp_start); kernel_rfl; kernel_rfl) | ((with_reducible apply Loose.start_cons)) | ((with_reducible apply Loose.start_nil)) | ((with_reducible apply Loose.walk_nil); intro n) | ((with_reducible apply Loose.walk_skip); exact rfl; (go_simp; first | done | exact rfl)) | ((with_reducible apply Loose.step_fc); rfl; rfl; rfl; rfl; (first | with_reducible assumption | exact Is.const rfl); (first | with_reducible assumption | exact Is.const rfl); (first | with_reducible assumption | exact rfl); exact rfl; (go_simp; first | done | exact rfl)) | ((with_reducible apply Loose.step_fa); rfl; rfl; rfl; rfl; (first | with_reducible assumption | exact Is.const rfl); (first | with_reducible assumption | exact Is.const rfl); exact rfl; (intro r; go_simp; first | done | exact rfl); intro r hr) | ((with_reducible apply Loose.step_wid); rfl; rfl; (first | with_reducible assumption | exact Is.const rfl); exact U32; exact U64; exact rfl; (intro r; go_simp; first | done | exact rfl); intro r hr) | ((with_reducible apply Loose.step_nar); rfl; rfl; (first | with_reducible assumption | exact Is.const rfl); exact U64; exact U32; (with_reducible assumption); exact rfl; (intro r; go_simp; first | done | exact rfl); intro r hr) | ((with_reducible apply Loose.step_assign); rfl; rfl; (with_reducible assumption); exact rfl; (intro r; go_simp; first | done | exact rfl); intro r hr) | ((with_reducible apply Loose.step_move); rfl; rfl; (with_reducible assumption); exact rfl; (intro r; go_simp; first | done | exact rfl); intro r hr) | ((with_reducible apply Loose.step_same); rfl; rfl; exact U32; exact U32; (first | with_reducible assumption | exact Is.const rfl); exact rfl; (intro r; go_simp; first | done | exact rfl); intro r hr) | ((with_reducible apply Loose.step_same); rfl; rfl; exact U64; exact U64; (first | with_reducible assumption | exact Is.const rfl); exact rfl; (intro r; go_simp; first | done | exact rfl); intro r hr) | ((with_reducible apply Loose.step_eq); rfl; (intro n; go_simp; first | done | exact rfl); exact rfl; (go_simp; first | done | exact rfl)))
      go_roundw
      case rel => exact ⟨k + 1, by omega, by go_num, _, rfl⟩
      case measure => simp [intOf]; omega
    · obtain rfl : k = xs.length := by omega
      clear hlt
      go_wp2
      go_ret
      exact ⟨rfl, _, rfl⟩
end Go.Proofs.Ytnknhfhllifnhaa
