/-
  Lists of complex numbers of the call's own: what keeps them, the laws' comparison and marks.
-/
import Derived.Test.YtlfnbnhbobohlaaOwn
import Derived.Test.YtlfnbnhbobohlaaCw
namespace Go.Proofs.Ytlfnbnhbobohlaa
open Go.Fl Go.RowKit

theorem C32 : Try.prog.underlying 41 = some (.complex .f32) := Try.underlying41
theorem C64 : Try.prog.underlying 45 = some (.complex .f64) := Try.underlying45
theorem C32info : (Try.prog.info? 41).map (fun i => (i.zero, i.size, i.bytes)) = some (some (.complex .f32 0 0), 1, 8) := by kernel_rfl
def cV (p : Nat × Nat) : Value := .complex .f32 p.1 p.2
/-- A slice of the call's own, perhaps nil, with the complex numbers xs. -/
def COwn (B : Nat) (w : World) (v : Value) (xs : List (Nat × Nat)) : Prop := w.ownsRow B 41 1 v xs.length (xs.map cV)
def c32 (xs : List (Nat × Nat)) : Prop := ∀ p ∈ xs, p.1 < 2 ^ FloatKind.f32.format.width ∧ p.2 < 2 ^ FloatKind.f32.format.width

theorem cown_form {B : Nat} {w : World} {v : Value} {xs : List (Nat × Nat)} (h : COwn B w v xs) : ∃ a cap, v = .slice a xs.length cap ∧ (xs = [] ∨ ∃ g, a = some ⟨g, 0, none⟩ ∧ B ≤ g ∧ g < w.heap.size) := by
  have hl := h.lt
  rcases h.2 with ⟨rfl, h0⟩ | ⟨g, cap, cur, rfl, hB, _⟩
  · exact ⟨none, 0, by rw [h0], .inl (List.length_eq_zero_iff.1 h0)⟩
  · exact ⟨_, _, rfl, .inr ⟨g, rfl, hl g rfl⟩⟩
theorem cown_below {B : Nat} {w w' : World} {v : Value} {xs : List (Nat × Nat)} (h : COwn B w v xs) (hb : Below w.heap.size w w') : COwn B w' v xs :=
  World.ownsRow.kept h (grown_below (row := none) hb) (by cases v.ownBlock <;> simp)
theorem cown_grown {B : Nat} {w w' : World} {u v : Value} {xs : List (Nat × Nat)} (h : COwn B w v xs) (hg : w.grownBy w' u.ownBlock) (hne : v.ownBlock = none ∨ v.ownBlock ≠ u.ownBlock) : COwn B w' v xs :=
  World.ownsRow.kept h hg hne
theorem cown_at {B : Nat} {w : World} {g n cap : Nat} {xs : List (Nat × Nat)} (h : w.ownsRow B 41 1 (.slice (some ⟨g, 0, none⟩) n cap) n (xs.map cV)) {k : Nat} (hn : n = xs.length) (hk : k < xs.length) :
    w.cell? ⟨g, k, none⟩ = some (.complex .f32 (xs.getD k (0, 0)).1 (xs.getD k (0, 0)).2) := by
  rw [h.cellAt k (by omega), List.getElem?_map, List.getElem?_eq_getElem hk]
  simp [cV, List.getD, hk]
theorem c32_at {xs : List (Nat × Nat)} (h : c32 xs) {k : Nat} (hk : k < xs.length) : Is .f32 (xs.getD k (0, 0)).1 (cn .f32 (xs.getD k (0, 0)).1) ∧ Is .f32 (xs.getD k (0, 0)).2 (cn .f32 (xs.getD k (0, 0)).2) := by
  have := h (xs.getD k (0, 0)) (by simp [List.getD, hk])
  exact ⟨Is.of_lt this.1, Is.of_lt this.2⟩

theorem sameC_any (a b c d A B : Nat) (ia : Is .f64 a A) (ic : Is .f64 c A) (ib : Is .f64 b B) (id : Is .f64 d B) (w : World) :
    Calls Try.prog 31 #[.complex .f64 a b, .complex .f64 c d] w fun e w' => e = .returned (.bool true) ∧ ∃ n, w' = w.drewN n := by
  go_enter Try.func31, Try.ntmps31
  go_wp2_with fail
  refine (sameFloat_any _ _ _ ia ic _).mono ?_; rintro e w' ⟨rfl, n, rfl⟩
  go_wp2_with fail
  refine (sameFloat_any _ _ _ ib id _).mono ?_; rintro e w' ⟨rfl, m, rfl⟩
  go_wp2_with fail
  go_ret
  exact ⟨rfl, _, rfl⟩

set_option maxHeartbeats 1000000 in
set_option maxRecDepth 100000 in
theorem eqC_any (B B' : Nat) (u v : Value) (xs : List (Nat × Nat)) (w : World) (hu : COwn B w u xs) (hv : COwn B' w v xs) (hx : c32 xs) (hn : xs.length ≤ 1048576) :
    Calls Try.prog 26 #[u, v] w fun e w' => e = .returned (.bool true) ∧ ∃ n, w' = w.drewN n := by
  obtain ⟨a, cap, rfl, hf⟩ := cown_form hu
  obtain ⟨a', cap', rfl, hf'⟩ := cown_form hv
  have HU := Lib.hid hu; have HV := Lib.hid hv; have HX := Lib.hid hx
  clear hu hv hx
  go_enter Try.func26, Try.ntmps26
  go_wp2
  go_loopw [5] (fun i wr => ∃ k : Nat, k ≤ xs.length ∧ i = .int .i64 k ∧ ∃ n, wr = w.drewN n) (fun i _ => xs.length - (intOf i).toNat)
  case atStart => exact ⟨0, Nat.zero_le _, rfl, 0, rfl⟩
  case round =>
    obtain ⟨k, hk, rfl, n, rfl⟩ := hrel
    by_cases hlt : k < xs.length
    · rcases hf with rfl | ⟨g, rfl, _, _⟩
      · simp at hlt
      rcases hf' with rfl | ⟨g', rfl, _, _⟩
      · simp at hlt
      have hcell := cown_at HU.out rfl hlt
      have hcell' := cown_at HV.out rfl hlt
      obtain ⟨ix, iy⟩ := c32_at HX.out hlt
      generalize xs.getD k (0, 0) = p at hcell hcell' ix iy
      generalize cn .f32 p.1 = X at ix
      generalize cn .f32 p.2 = Y at iy
      generalize p.1 = x at hcell hcell' ix
      generalize p.2 = y at hcell hcell' iy
      go_wp2_with (first | ((with_reducible apply Loose.wp_start); kernel_rfl; kernel_rfl) | ((with_reducible apply Loose.start_cons)) | ((with_reducible apply Loose.start_nil)) | ((with_reducible apply Loose.walk_nil); intro n) | ((with_reducible apply Loose.walk_skip); exact rfl; (go_simp; first | done | exact rfl)) | ((with_reducible apply Loose.step_fc); rfl; rfl; rfl; rfl; (first | with_reducible assumption | exact Is.const rfl); (first | with_reducible assumption | exact Is.const rfl); (first | with_reducible assumption | exact rfl); exact rfl; (go_simp; first | done | exact rfl)) | ((with_reducible apply Loose.step_fa); rfl; rfl; rfl; rfl; (first | with_reducible assumption | exact Is.const rfl); (first | with_reducible assumption | exact Is.const rfl); exact rfl; (intro r; go_simp; first | done | exact rfl); intro r hr) | ((with_reducible apply Loose.step_wid); rfl; rfl; (first | with_reducible assumption | exact Is.const rfl); exact U32; exact U64; exact rfl; (intro r; go_simp; first | done | exact rfl); intro r hr) | ((with_reducible apply Loose.step_nar); rfl; rfl; (first | with_reducible assumption | exact Is.const rfl); exact U64; exact U32; (with_reducible assumption); exact rfl; (intro r; go_simp; first | done | exact rfl); intro r hr) | ((with_reducible apply Loose.step_assign); rfl; rfl; (with_reducible assumption); exact rfl; (intro r; go_simp; first | done | exact rfl); intro r hr) | ((with_reducible apply Loose.step_move); rfl; rfl; (with_reducible assumption); exact rfl; (intro r; go_simp; first | done | exact rfl); intro r hr) | ((with_reducible apply Loose.step_same); rfl; rfl; exact U32; exact U32; (first | with_reducible assumption | exact Is.const rfl); exact rfl; (intro r; go_simp; first | done | exact rfl); intro r hr) | ((with_reducible apply Loose.step_same); rfl; rfl; exact U64; exact U64; (first | with_reducible assumption | exact Is.const rfl); exact rfl; (intro r; go_simp; first | done | exact rfl); intro r hr) | ((with_reducible apply Loose.step_cwid); rfl; rfl; (with_reducible assumption); (with_reducible assumption); exact C32; exact C64; exact rfl; (intro r s; go_simp; first | done | exact rfl); intro r s hr hs) | ((with_reducible apply Loose.step_call); rfl; (intro n; go_simp; first | exact ⟨rfl, rfl⟩ | exact rfl); (intro n; go_at_call 31; exact sameC_any _ _ _ _ _ _ (by assumption) (by assumption) (by assumption) (by assumption) _); exact rfl; (go_simp; first | done | exact rfl)) | ((with_reducible apply Loose.step_eq); rfl; (intro n; go_simp; first | done | exact rfl); exact rfl; (go_simp; first | done | exact rfl)))
      go_roundw
      case rel => exact ⟨k + 1, by omega, by go_num, _, rfl⟩
      case measure => simp [intOf]; omega
    · have : k = xs.length := by omega
      subst this
      clear hlt
      go_wp2
      go_ret
      exact ⟨rfl, _, rfl⟩
end Go.Proofs.Ytlfnbnhbobohlaa
