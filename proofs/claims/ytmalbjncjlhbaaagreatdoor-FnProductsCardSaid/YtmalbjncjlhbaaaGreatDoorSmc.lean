/-
  The model's SameComplex, and the law's comparison of two lists of complex numbers.
-/
import Derived.Test.YtmalbjncjlhbaaaGreatDoorNum
import Derived.Test.YtmalbjncjlhbaaaGreatDoorCl
namespace Go.Proofs.YtmalbjncjlhbaaaGreatDoor
open Go.Fl Go.RowKit
set_option linter.unusedSimpArgs false
set_option linter.unusedVariables false

theorem sCSame_yes (x x' y y' X Y : Nat) (ix : Is .f32 x X) (ix' : Is .f32 x' X) (iy : Is .f32 y Y) (iy' : Is .f32 y' Y) (w : World) :
    Calls Tryz.prog 93 #[.complex .f32 x y, .complex .f32 x' y'] w fun e w' => e = .returned (.bool true) ∧ w = w' := by
  have H1 := Lib.hid (fun w => by have h := sSame_any x X x' X ix ix' w; rw [decide_eq_true rfl] at h; exact h : ∀ w : World, Calls Tryz.prog 52 #[.float .f32 x, .float .f32 x'] w fun e w' => e = .returned (.bool true) ∧ w = w')
  have H2 := Lib.hid (fun w => by have h := sSame_any y Y y' Y iy iy' w; rw [decide_eq_true rfl] at h; exact h : ∀ w : World, Calls Tryz.prog 52 #[.float .f32 y, .float .f32 y'] w fun e w' => e = .returned (.bool true) ∧ w = w')
  go_enter Tryz.func93, Tryz.ntmps93
  go_wp2_with fail
  refine (H1.out _).mono ?_; rintro e w' ⟨rfl, rfl⟩
  go_wp2_with fail
  refine (H2.out _).mono ?_; rintro e w' ⟨rfl, rfl⟩
  go_wp2_with fail
  go_ret
  exact ⟨rfl, rfl⟩
theorem sSameCx_yes (x x' y y' X Y : Nat) (ix : Is .f32 x X) (ix' : Is .f32 x' X) (iy : Is .f32 y Y) (iy' : Is .f32 y' Y) (w : World) :
    Calls Tryz.prog 71 #[.complex .f32 x y, .complex .f32 x' y'] w fun e w' => e = .returned (.bool true) ∧ w = w' := by
  have H := Lib.hid (sCSame_yes x x' y y' X Y ix ix' iy iy')
  go_enter Tryz.func71, Tryz.ntmps71
  go_wp2_with fail
  refine (H.out _).mono ?_; rintro e w' ⟨rfl, rfl⟩
  go_wp2_with fail
  go_ret
  exact ⟨rfl, rfl⟩
set_option maxHeartbeats 1000000 in
set_option maxRecDepth 100000 in
theorem same10_yes (B B' : Nat) (u v : Value) (ys xs : List (Nat × Nat)) (w : World) (hu : COwn B w u ys) (hv : COwn B' w v xs) (hl : ys.length = xs.length)
    (h : ∀ k, k < xs.length → ∃ X Y, Is .f32 (ys.getD k (0, 0)).1 X ∧ Is .f32 (xs.getD k (0, 0)).1 X ∧ Is .f32 (ys.getD k (0, 0)).2 Y ∧ Is .f32 (xs.getD k (0, 0)).2 Y) (hn : xs.length ≤ 1048576) :
    Calls Tryz.prog 33 #[u, v] w fun e w' => e = .returned (.bool true) ∧ ∃ n, w' = w.drewN n := by
  obtain ⟨a, cap, rfl, hf⟩ := cown_form hu
  obtain ⟨a', cap', rfl, hf'⟩ := cown_form hv
  have HU := Lib.hid hu; have HV := Lib.hid hv; have HX := Lib.hid h; have HL := Lib.hid hl
  rw [hl]
  clear hu hv h hl
  go_enter Tryz.func33, Tryz.ntmps33
  go_wp2_with fail
  go_loopw [4, 13] (fun z i wr => ∃ k : Nat, z = .bool false ∧ k ≤ xs.length ∧ i = .int .i64 k ∧ ∃ n, wr = w.drewN n) (fun _ i _ => xs.length - (intOf i).toNat)
  case atStart => exact ⟨0, rfl, Nat.zero_le _, rfl, 0, rfl⟩
  case round =>
    obtain ⟨k, rfl, hk, rfl, n, rfl⟩ := hrel
    by_cases hlt : k < xs.length
    · rcases hf with h0 | ⟨g, rfl, _, _⟩
      · have h1 := HL.out; rw [h0] at h1; simp at h1; omega
      rcases hf' with h0 | ⟨g', rfl, _, _⟩
      · rw [h0] at hlt; simp at hlt
      have hcell := cown_at HU.out rfl (show k < ys.length by rw [HL.out]; exact hlt)
      have hcell' := cown_at HV.out rfl hlt
      obtain ⟨X, Y, i1, i2, i3, i4⟩ := HX.out k hlt
      generalize (ys.getD k (0, 0)).1 = x1 at hcell i1
      generalize (ys.getD k (0, 0)).2 = y1 at hcell i3
      generalize (xs.getD k (0, 0)).1 = x2 at hcell' i2
      generalize (xs.getD k (0, 0)).2 = y2 at hcell' i4
      have HS := Lib.hid (sSameCx_yes x1 x2 y1 y2 X Y i1 i2 i3 i4)
      go_wp2_with (first | ((with_reducible apply Loose.wp_start); kernel_rfl; kernel_rfl) | ((with_reducible apply Loose.start_cons)) | ((with_reducible apply Loose.start_nil)) | ((with_reducible apply Loose.walk_nil); intro n) | ((with_reducible apply Loose.walk_skip); exact rfl; (go_simp; first | done | exact rfl)) | ((with_reducible apply Loose.step_fc); rfl; rfl; rfl; rfl; (first | with_reducible assumption | exact Is.const rfl); (first | with_reducible assumption | exact Is.const rfl); (first | with_reducible assumption | exact rfl); exact rfl; (go_simp; first | done | exact rfl)) | ((with_reducible apply Loose.step_fa); rfl; rfl; rfl; rfl; (first | with_reducible assumption | exact Is.const rfl); (first | with_reducible assumption | exact Is.const rfl); exact rfl; (intro r; go_simp; first | done | exact rfl); intro r hr) | ((with_reducible apply Loose.step_wid); rfl; rfl; (first | with_reducible assumption | exact Is.const rfl); exact U32; exact U64; exact rfl; (intro r; go_simp; first | done | exact rfl); intro r hr) | ((with_reducible apply Loose.step_nar); rfl; rfl; (first | with_reducible assumption | exact Is.const rfl); exact U64; exact U32; (with_reducible assumption); exact rfl; (intro r; go_simp; first | done | exact rfl); intro r hr) | ((with_reducible apply Loose.step_assign); rfl; rfl; (with_reducible assumption); exact rfl; (intro r; go_simp; first | done | exact rfl); intro r hr) | ((with_reducible apply Loose.step_move); rfl; rfl; (with_reducible assumption); exact rfl; (intro r; go_simp; first | done | exact rfl); intro r hr) | ((with_reducible apply Loose.step_same); rfl; rfl; exact U32; exact U32; (first | with_reducible assumption | exact Is.const rfl); exact rfl; (intro r; go_simp; first | done | exact rfl); intro r hr) | ((with_reducible apply Loose.step_same); rfl; rfl; exact U64; exact U64; (first | with_reducible assumption | exact Is.const rfl); exact rfl; (intro r; go_simp; first | done | exact rfl); intro r hr) | ((with_reducible apply Loose.step_call); rfl; (intro n; go_simp; first | exact ⟨rfl, rfl⟩ | exact rfl); (intro n; go_at_call 71; exact Loose.same_world (HS.out _)); exact rfl; (go_simp; first | done | exact rfl)) | ((with_reducible apply Loose.step_eq); rfl; (intro n; go_simp; first | done | exact rfl); exact rfl; (go_simp; first | done | exact rfl)))
      go_roundw
      case rel => exact ⟨k + 1, rfl, by omega, by go_num, _, rfl⟩
      case measure => simp [intOf]; omega
    · have hk2 : k = xs.length := by omega
      subst hk2
      clear hlt
      go_wp2_with fail
      go_ret
      exact ⟨rfl, _, rfl⟩
end Go.Proofs.YtmalbjncjlhbaaaGreatDoor
