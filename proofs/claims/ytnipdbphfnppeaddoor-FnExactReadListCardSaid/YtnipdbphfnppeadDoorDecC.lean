/-
  Decimal: contracts of the program's function and of the model's.
-/
import Derived.Test.YtnipdbphfnppeadDoorDec
import Derived.Test.YtnipdbphfnppeadDoorShelf
import Derived.Lib.LaidTab
namespace Go.Proofs.YtnipdbphfnppeadDoor
open Go.RowKit

theorem gPow : Tryd.prog.globalNamed "internal/strconv.uint64pow10" = some 1 := by kernel_rfl

theorem digits_len {N : Nat} (h : N ≤ 9223372036854775808) : (Lib.decDigits N).length ≤ 21 := by
  have h1 := Lib.itoa_length_le (-(N : Int)) (by omega) (by omega)
  unfold Lib.itoa at h1
  by_cases h0 : -(N : Int) < 0
  · rw [if_pos h0, List.length_cons, Int.natAbs_neg, Int.natAbs_natCast] at h1; omega
  · rw [if_neg h0] at h1
    have : N = 0 := by omega
    subst this
    exact h1

theorem sDec_any (n : Int) (w : World) (h0 : -9223372036854775808 ≤ n) (h1 : n ≤ 9223372036854775807) :
    Calls Tryd.prog 22 #[.int .i64 n] w fun e w' => e = .returned (.string ⟨(Lib.itoa n).toArray⟩) ∧ Below w.heap.size w w' := by
  unfold Lib.itoa
  by_cases h : n < 0
  · rw [if_pos h]
    have := sDec_neg n.natAbs w (by omega) (by omega) (digits_len (by omega))
    rwa [show -((n.natAbs : Nat) : Int) = n by omega] at this
  · rw [if_neg h]
    have := sDec_pos n.toNat w (by omega) (digits_len (by omega))
    rwa [show ((n.toNat : Nat) : Int) = n by omega] at this


theorem grow_below {w : World} {k : Nat} {os : Array Obj} : Below w.heap.size w (Sort.grow (w.drewN k) os) :=
  ⟨rfl, rfl, rfl, by simp [Sort.grow], fun i hi => by
    show ((w.drewN k).heap ++ os)[i]? = _
    rw [Array.getElem?_append_left (by show i < w.heap.size; omega)]
    rfl⟩

theorem iDec_any (n : Int) (w : World) (h0 : -9223372036854775808 ≤ n) (h1 : n ≤ 9223372036854775807) (htab : Lib.TabIs Tryd.prog w "internal/strconv.uint64pow10" .u64 Lib.pow10Tab) :
    Calls Tryd.prog 17 #[.int .i64 n] w fun e w' => e = .returned (.string ⟨(Lib.itoa n).toArray⟩) ∧ Below w.heap.size w w' := by
  go_enter Tryd.func17, Tryd.ntmps17
  go_wp2_with (go_at_call 24; refine (Tryd.strconv_FormatInt_10 n h0 h1 _ htab).mono ?_; rintro e w' ⟨rfl, k, os, rfl⟩)
  go_ret
  exact ⟨rfl, grow_below⟩
end Go.Proofs.YtnipdbphfnppeadDoor
