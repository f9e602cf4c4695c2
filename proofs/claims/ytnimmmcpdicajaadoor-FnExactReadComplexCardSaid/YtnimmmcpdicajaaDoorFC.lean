/-
  Lists of 32-bit numbers: the laws' own copies and comparisons; bits of numbers.
-/
import Derived.Test.YtnimmmcpdicajaaDoorMath
import Derived.Test.YtnimmmcpdicajaaDoorLists
import Derived.Test.YtnimmmcpdicajaaDoorLoose
import Derived.Lib.Hide
namespace Go.Proofs.YtnimmmcpdicajaaDoor
open Go.Fl Go.RowKit

theorem F32info : (Tryd.prog.info? 34).map (fun i => (i.zero, i.size, i.bytes)) = some (some (.float .f32 0), 1, 4) := by kernel_rfl


/-- Two lists with the same numbers are equal to the laws. -/
theorem eqF_any (u v : Value) (xs ys : List Nat) (w : World) (hu : FS .f32 w u xs) (hv : FS .f32 w v ys) (hlen : xs.length = ys.length) (hn : xs.length ≤ 1048576)
    (hsame : ∀ i, i < xs.length → cn .f32 (xs.getD i 0) = cn .f32 (ys.getD i 0)) : Calls Tryd.prog 7 #[u, v] w fun e w' => e = .returned (.bool true) ∧ ∃ n, w' = w.drewN n := by
  obtain ⟨a, cap, rfl, hlc, hcm, hwf, hmem⟩ := hu
  obtain ⟨a', cap', rfl, hlc', hcm', hwf', hmem'⟩ := hv
  rw [← hlen]
  have HL := Lib.hid hlen
  rw [← hlen] at hlc'
  clear hlen
  unfold maxLen at hcm hcm'
  go_enter Tryd.func7, Tryd.ntmps7
  go_wp2
  go_loopw [5] (fun i wr => ∃ k : Nat, k ≤ xs.length ∧ i = .int .i64 k ∧ ∃ n, wr = w.drewN n) (fun i _ => xs.length - (intOf i).toNat)
  case atStart => exact ⟨0, Nat.zero_le _, rfl, 0, rfl⟩
  case round =>
    obtain ⟨k, hk, rfl, n, rfl⟩ := hrel
    by_cases hlt : k < xs.length
    · rcases hmem with rfl | ⟨b, off, rfl, hb, hc⟩
      · simp at hlt
      rcases hmem' with rfl | ⟨b', off', rfl, hb', hc'⟩
      · have := HL.out; simp at this; subst this; simp at hlt
      have hcell := hc k hlt
      have hcell' := hc' k (by have := HL.out; omega)
      have hx := FS.is hwf k hlt
      have hy := FS.is hwf' k (by have := HL.out; omega)
      rw [← hsame k hlt] at hy
      clear hc hc' hsame
      generalize cn .f32 (xs.getD k 0) = X at hx hy
      generalize xs.getD k 0 = x at hcell hx
      generalize ys.getD k 0 = y at hcell' hy
      go_wp2_with (first | ((with_reducible apply Loose.wp_start); kernel_rfl; kernel_rfl) | ((with_reducible apply Loose.start_cons)) | ((with_reducible apply Loose.start_nil)) | ((with_reducible apply Loose.walk_nil); intro n) | ((with_reducible apply Loose.walk_skip); exact rfl; (go_simp; first | done | exact rfl)) | ((with_reducible apply Loose.step_fc); rfl; rfl; rfl; rfl; (first | with_reducible assumption | exact Is.const rfl); (first | with_reducible assumption | exact Is.const rfl); (first | with_reducible assumption | exact rfl); exact rfl; (go_simp; first | done | exact rfl)) | ((with_reducible apply Loose.step_fa); rfl; rfl; rfl; rfl; (first | with_reducible assumption | exact Is.const rfl); (first | with_reducible assumption | exact Is.const rfl); exact rfl; (intro r; go_simp; first | done | exact rfl); intro r hr) | ((with_reducible apply Loose.step_wid); rfl; rfl; (first | with_reducible assumption | exact Is.const rfl); exact U32; exact U64; exact rfl; (intro r; go_simp; first | done | exact rfl); intro r hr) | ((with_reducible apply Loose.step_nar); rfl; rfl; (first | with_reducible assumption | exact Is.const rfl); exact U64; exact U32; (with_reducible assumption); exact rfl; (intro r; go_simp; first | done | exact rfl); intro r hr) | ((with_reducible apply Loose.step_assign); rfl; rfl; (with_reducible assumption); exact rfl; (intro r; go_simp; first | done | exact rfl); intro r hr) | ((with_reducible apply Loose.step_move); rfl; rfl; (with_reducible assumption); exact rfl; (intro r; go_simp; first | done | exact rfl); intro r hr) | ((with_reducible apply Loose.step_same); rfl; rfl; exact U32; exact U32; (first | with_reducible assumption | exact Is.const rfl); exact rfl; (intro r; go_simp; first | done | exact rfl); intro r hr) | ((with_reducible apply Loose.step_same); rfl; rfl; exact U64; exact U64; (first | with_reducible assumption | exact Is.const rfl); exact rfl; (intro r; go_simp; first | done | exact rfl); intro r hr) | ((with_reducible apply Loose.step_call); rfl; (intro n; go_simp; first | exact ⟨rfl, rfl⟩ | exact rfl); (intro n; go_at_call 18; exact sameFloat_any _ _ _ (by assumption) (by assumption) _); exact rfl; (go_simp; first | done | exact rfl)) | ((with_reducible apply Loose.step_eq); rfl; (intro n; go_simp; first | done | exact rfl); exact rfl; (go_simp; first | done | exact rfl)))
      go_roundw
      case rel => exact ⟨k + 1, by omega, by go_num, _, rfl⟩
      case measure => simp [intOf]; omega
    · have : k = xs.length := by omega
      subst this
      clear hlt
      go_wp2
      go_ret
      exact ⟨rfl, _, rfl⟩


theorem lt64 {x X : Nat} (h : Is .f64 x X) : x < 18446744073709551616 := by have := h.lt; rwa [w64] at this
theorem lt32 {x X : Nat} (h : Is .f32 x X) : x < 4294967296 := by have := h.lt; rwa [w32] at this

/-! ### bits -/
theorem bits_of {x X : Nat} (ix : Is .f32 x X) (h : nan .f32 X = false) : bits32 X = x := by
  unfold bits32; rw [h]; exact (ix.same h).symm

theorem wrap_nat (x : Nat) (h : x < 4294967296) : wrap64 (x : Int) = (x : Int) := by unfold wrap64; omega

theorem sBits_any (x X : Nat) (ix : Is .f32 x X) (w : World) : Calls Tryd.prog 25 #[.float .f32 x] w fun e w' => e = .returned (.int .i64 (bits32 X : Int)) ∧ w = w' := by
  have hl := lt32 ix
  by_cases hn : nan .f32 X = true
  · have hc : fcmp .neq .f32 X X = true := by rw [fcmp_neq_self, hn]
    have e : bits32 X = 2143289344 := by unfold bits32; rw [if_pos hn]
    rw [e]
    clear e hn
    go_enter Tryd.func25, Tryd.ntmps25
    go_wp2_with (apply wpList_fcmp; rfl; rfl; rfl; rfl; (first | with_reducible assumption | exact Is.const rfl); (first | with_reducible assumption | exact Is.const rfl); (first | with_reducible assumption | exact rfl))
    go_ret
    exact ⟨rfl, rfl⟩
  · have hn' : nan .f32 X = false := by simpa using hn
    have hc : fcmp .neq .f32 X X = false := by rw [fcmp_neq_self, hn']
    rw [bits_of ix hn']
    clear hn hn'
    go_enter Tryd.func25, Tryd.ntmps25
    go_wp2_with (apply wpList_fcmp; rfl; rfl; rfl; rfl; (first | with_reducible assumption | exact Is.const rfl); (first | with_reducible assumption | exact Is.const rfl); (first | with_reducible assumption | exact rfl))
    go_ret
    exact ⟨rfl, rfl⟩

theorem iBitsOf_any (x X : Nat) (ix : Is .f32 x X) (w : World) : Calls Tryd.prog 40 #[.float .f32 x] w fun e w' => e = .returned (.int .i64 (bits32 X : Int)) ∧ w = w' := by
  have hl := lt32 ix
  by_cases hn : nan .f32 X = true
  · have hc : fcmp .neq .f32 X X = true := by rw [fcmp_neq_self, hn]
    have e : bits32 X = 2143289344 := by unfold bits32; rw [if_pos hn]
    rw [e]
    clear e hn
    go_enter Tryd.func40, Tryd.ntmps40
    go_wp2_with (apply wpList_fcmp; rfl; rfl; rfl; rfl; (first | with_reducible assumption | exact Is.const rfl); (first | with_reducible assumption | exact Is.const rfl); (first | with_reducible assumption | exact rfl))
    go_ret
    exact ⟨rfl, rfl⟩
  · have hn' : nan .f32 X = false := by simpa using hn
    have hc : fcmp .neq .f32 X X = false := by rw [fcmp_neq_self, hn']
    rw [bits_of ix hn']
    clear hn hn'
    go_enter Tryd.func40, Tryd.ntmps40
    go_wp2_with (apply wpList_fcmp; rfl; rfl; rfl; rfl; (first | with_reducible assumption | exact Is.const rfl); (first | with_reducible assumption | exact Is.const rfl); (first | with_reducible assumption | exact rfl))
    go_ret
    exact ⟨rfl, rfl⟩


theorem sFrom_any (n : Int) (h0 : 0 ≤ n) (h1 : n ≤ 4294967295) (w : World) : Calls Tryd.prog 24 #[.int .i64 n] w fun e w' => e = .returned (.float .f32 n.toNat) ∧ w = w' := by
  go_enter Tryd.func24, Tryd.ntmps24
  go_wp2
  go_ret
  exact ⟨rfl, rfl⟩


end Go.Proofs.YtnimmmcpdicajaaDoor
