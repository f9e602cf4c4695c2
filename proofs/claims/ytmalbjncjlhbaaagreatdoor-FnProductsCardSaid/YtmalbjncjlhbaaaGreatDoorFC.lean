/-
  Lists of 32-bit numbers: the laws' own copies and comparisons; bits of numbers.
-/
import Derived.Test.YtmalbjncjlhbaaaGreatDoorMath
import Derived.Test.YtmalbjncjlhbaaaGreatDoorLists
import Derived.Test.YtmalbjncjlhbaaaGreatDoorLoose
import Derived.Lib.Hide
namespace Go.Proofs.YtmalbjncjlhbaaaGreatDoor
open Go.Fl Go.RowKit

theorem F32info : (Tryz.prog.info? 24).map (fun i => (i.zero, i.size, i.bytes)) = some (some (.float .f32 0), 1, 4) := by kernel_rfl




theorem lt64 {x X : Nat} (h : Is .f64 x X) : x < 18446744073709551616 := by have := h.lt; rwa [w64] at this
theorem lt32 {x X : Nat} (h : Is .f32 x X) : x < 4294967296 := by have := h.lt; rwa [w32] at this

/-! ### bits -/
theorem bits_of {x X : Nat} (ix : Is .f32 x X) (h : nan .f32 X = false) : bits32 X = x := by
  unfold bits32; rw [h]; exact (ix.same h).symm

theorem wrap_nat (x : Nat) (h : x < 4294967296) : wrap64 (x : Int) = (x : Int) := by unfold wrap64; omega

theorem sBits_any (x X : Nat) (ix : Is .f32 x X) (w : World) : Calls Tryz.prog 85 #[.float .f32 x] w fun e w' => e = .returned (.int .i64 (bits32 X : Int)) ∧ w = w' := by
  have hl := lt32 ix
  by_cases hn : nan .f32 X = true
  · have hc : fcmp .neq .f32 X X = true := by rw [fcmp_neq_self, hn]
    have e : bits32 X = 2143289344 := by unfold bits32; rw [if_pos hn]
    rw [e]
    clear e hn
    go_enter Tryz.func85, Tryz.ntmps85
    go_wp2_with (apply wpList_fcmp; rfl; rfl; rfl; rfl; (first | with_reducible assumption | exact Is.const rfl); (first | with_reducible assumption | exact Is.const rfl); (first | with_reducible assumption | exact rfl))
    go_ret
    exact ⟨rfl, rfl⟩
  · have hn' : nan .f32 X = false := by simpa using hn
    have hc : fcmp .neq .f32 X X = false := by rw [fcmp_neq_self, hn']
    rw [bits_of ix hn']
    clear hn hn'
    go_enter Tryz.func85, Tryz.ntmps85
    go_wp2_with (apply wpList_fcmp; rfl; rfl; rfl; rfl; (first | with_reducible assumption | exact Is.const rfl); (first | with_reducible assumption | exact Is.const rfl); (first | with_reducible assumption | exact rfl))
    go_ret
    exact ⟨rfl, rfl⟩

theorem iBitsOf_any (x X : Nat) (ix : Is .f32 x X) (w : World) : Calls Tryz.prog 8 #[.float .f32 x] w fun e w' => e = .returned (.int .i64 (bits32 X : Int)) ∧ w = w' := by
  have hl := lt32 ix
  by_cases hn : nan .f32 X = true
  · have hc : fcmp .neq .f32 X X = true := by rw [fcmp_neq_self, hn]
    have e : bits32 X = 2143289344 := by unfold bits32; rw [if_pos hn]
    rw [e]
    clear e hn
    go_enter Tryz.func8, Tryz.ntmps8
    go_wp2_with (apply wpList_fcmp; rfl; rfl; rfl; rfl; (first | with_reducible assumption | exact Is.const rfl); (first | with_reducible assumption | exact Is.const rfl); (first | with_reducible assumption | exact rfl))
    go_ret
    exact ⟨rfl, rfl⟩
  · have hn' : nan .f32 X = false := by simpa using hn
    have hc : fcmp .neq .f32 X X = false := by rw [fcmp_neq_self, hn']
    rw [bits_of ix hn']
    clear hn hn'
    go_enter Tryz.func8, Tryz.ntmps8
    go_wp2_with (apply wpList_fcmp; rfl; rfl; rfl; rfl; (first | with_reducible assumption | exact Is.const rfl); (first | with_reducible assumption | exact Is.const rfl); (first | with_reducible assumption | exact rfl))
    go_ret
    exact ⟨rfl, rfl⟩


theorem sFrom_any (n : Int) (h0 : 0 ≤ n) (h1 : n ≤ 4294967295) (w : World) : Calls Tryz.prog 41 #[.int .i64 n] w fun e w' => e = .returned (.float .f32 n.toNat) ∧ w = w' := by
  go_enter Tryz.func41, Tryz.ntmps41
  go_wp2
  go_ret
  exact ⟨rfl, rfl⟩


end Go.Proofs.YtmalbjncjlhbaaaGreatDoor
