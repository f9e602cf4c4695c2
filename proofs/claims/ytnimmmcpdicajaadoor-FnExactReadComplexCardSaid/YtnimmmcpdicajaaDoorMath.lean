/-
  The functions of package math that the program calls, by contract.
-/
import Derived.Test.YtnimmmcpdicajaaDoorFn
import Derived.Test.YtnimmmcpdicajaaDoorChecked
import Derived.WalkLawsBesides
import Derived.Lib.Hide
namespace Go.Proofs.YtnimmmcpdicajaaDoor
open Go.Fl Go.RowKit

theorem U32 : Tryd.prog.underlying 34 = some (.float .f32) := Tryd.underlying34
theorem UI : Tryd.prog.underlying 2 = some (.int .i64) := Tryd.underlying2
theorem U64 : Tryd.prog.underlying 37 = some (.float .f64) := Tryd.underlying37

@[go_sem] theorem call_f32bits (b : Nat) (w : World) : (callFunc 32 #[.float .f32 b]).run Tryd.prog w = .ok (.value (.int .u32 b)) w := by kernel_rfl
@[go_sem] theorem call_f32from (n : Int) (w : World) : (callFunc 29 #[.int .u32 n]).run Tryd.prog w = .ok (.value (.float .f32 n.toNat)) w := by kernel_rfl

/-! ### the laws' own comparison -/
theorem sameFloat_any (a b A : Nat) (ia : Is .f64 a A) (ib : Is .f64 b A) (w : World) : Calls Tryd.prog 18 #[.float .f64 a, .float .f64 b] w fun e w' => e = .returned (.bool true) ∧ ∃ n, w' = w.drewN n := by
  by_cases hn : nan .f64 A = true
  · have hc : fcmp .neq .f64 A A = true := by rw [fcmp_neq_self, hn]
    clear hn
    go_enter Tryd.func18, Tryd.ntmps18
    go_wp2_with (first | (apply wpList_fcmp; rfl; rfl; rfl; rfl; (first | with_reducible assumption | exact Is.const rfl); (first | with_reducible assumption | exact Is.const rfl); (first | with_reducible assumption | exact rfl)) | (apply wpList_farith; rfl; rfl; rfl; rfl; (first | with_reducible assumption | exact Is.const rfl); (first | with_reducible assumption | exact Is.const rfl); intro r n hr))
    go_ret
    exact ⟨rfl, 0, rfl⟩
  · have hn' : nan .f64 A = false := by simpa using hn
    have hc : fcmp .neq .f64 A A = false := by rw [fcmp_neq_self, hn']
    by_cases hz : fcmp .eql .f64 A 0 = true
    · clear hn hn'
      go_enter Tryd.func18, Tryd.ntmps18
      go_wp2_with (first | (apply wpList_fcmp; rfl; rfl; rfl; rfl; (first | with_reducible assumption | exact Is.const rfl); (first | with_reducible assumption | exact Is.const rfl); (first | with_reducible assumption | exact rfl)) | (apply wpList_farith; rfl; rfl; rfl; rfl; (first | with_reducible assumption | exact Is.const rfl); (first | with_reducible assumption | exact Is.const rfl); intro r n hr))
      go_ret
      exact ⟨by simp, _, rfl⟩
    · have hz' : fcmp .eql .f64 A 0 = false := by simpa using hz
      have he : fcmp .eql .f64 A A = true := by rw [fcmp_eql_self, hn']; rfl
      clear hn hn' hz
      go_enter Tryd.func18, Tryd.ntmps18
      go_wp2_with (first | (apply wpList_fcmp; rfl; rfl; rfl; rfl; (first | with_reducible assumption | exact Is.const rfl); (first | with_reducible assumption | exact Is.const rfl); (first | with_reducible assumption | exact rfl)) | (apply wpList_farith; rfl; rfl; rfl; rfl; (first | with_reducible assumption | exact Is.const rfl); (first | with_reducible assumption | exact Is.const rfl); intro r n hr))
      go_ret
      exact ⟨rfl, 0, rfl⟩

end Go.Proofs.YtnimmmcpdicajaaDoor
