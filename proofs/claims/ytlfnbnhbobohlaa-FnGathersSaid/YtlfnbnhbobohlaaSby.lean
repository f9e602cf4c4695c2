/-
  Sums of what a function tells of the first indices, whatever function tells it: the program's sumBy.
-/
import Derived.Test.YtlfnbnhbobohlaaFields
import Derived.Test.YtlfnbnhbobohlaaCsm
import Derived.Shelf.Abstract
namespace Go.Proofs.Ytlfnbnhbobohlaa
open Go.Fl Go.RowKit
set_option linter.unusedSimpArgs false
set_option linter.unusedVariables false

/-- The sum of the first n numbers, from +0 on. -/
def sumFn (k : FloatKind) (F : Nat → Nat) : Nat → Nat
  | 0 => 0
  | n + 1 => fop .add k (sumFn k F n) (F n)

/-- What a function tells of the first n indices. -/
def TellsK (w : World) (f : FuncId) (cs : Array Value) (n : Nat) (k : FloatKind) (F : Nat → Nat) : Prop :=
  (∀ args w, (callFunc f args).run Try.prog w = .ok (.enter f args) w) ∧ ∀ (i : Nat) (wr : World), i < n → Below w.heap.size w wr →
    Calls Try.prog f (#[.int .i64 i] ++ cs) wr fun e w' => (∃ r, e = .returned (.float k r) ∧ Is k r (F i)) ∧ Below wr.heap.size wr w'
/-- The same for complex numbers: both parts. -/
def TellsC (w : World) (f : FuncId) (cs : Array Value) (n : Nat) (F G : Nat → Nat) : Prop :=
  (∀ args w, (callFunc f args).run Try.prog w = .ok (.enter f args) w) ∧ ∀ (i : Nat) (wr : World), i < n → Below w.heap.size w wr →
    Calls Try.prog f (#[.int .i64 i] ++ cs) wr fun e w' => (∃ r s, e = .returned (.complex .f32 r s) ∧ Is .f32 r (F i) ∧ Is .f32 s (G i)) ∧ Below wr.heap.size wr w'

set_option maxHeartbeats 1000000 in
set_option maxRecDepth 100000 in
theorem sumBy32_any (n : Nat) (f : FuncId) (cs : Array Value) (F : Nat → Nat) (w : World) (hn : n ≤ 1048576) (hf : TellsK w f cs n .f32 F) :
    Calls Try.prog 69 #[.int .i64 (n : Int), .func (.func f) #[] cs] w fun e w' => (∃ r, e = .returned (.float .f32 r) ∧ Is .f32 r (sumFn .f32 F n)) ∧ Below w.heap.size w w' := by
  have HF := Lib.hid hf
  clear hf
  go_enter Try.func69, Try.ntmps69
  go_wp2_with fail
  go_loopw [5, 8] (fun s i wr => ∃ k : Nat, i = .int .i64 (k : Int) ∧ k ≤ n ∧ (∃ r, s = .float .f32 r ∧ Is .f32 r (sumFn .f32 F k)) ∧ Hid (Below w.heap.size w wr)) (fun _ i _ => n - (intOf i).toNat)
  case atStart => exact ⟨0, rfl, Nat.zero_le _, ⟨_, rfl, Is.const rfl⟩, Lib.hid (Below.refl _ _)⟩
  case round =>
    obtain ⟨k, rfl, hk, ⟨r, rfl, hr⟩, HB⟩ := hrel
    by_cases hlt : k < n
    · have HS := Lib.hid (show sumFn .f32 F (k + 1) = fop .add .f32 (sumFn .f32 F k) (F k) from rfl)
      go_wp2_with fail
      rw [HF.out.1]
      go_simp
      refine (HF.out.2 k _ hlt HB.out).mono ?_; rintro e w2 ⟨⟨s, rfl, hs⟩, hb⟩
      have HB2 := Lib.hid (HB.out.trans (hb.mono HB.out.size))
      clear hb
      go_wp2_with (first | (apply wpList_farith; rfl; rfl; rfl; rfl; (first | with_reducible assumption | exact Is.const rfl); (first | with_reducible assumption | exact Is.const rfl); intro r n hr) | fail)
      go_roundw
      case rel => exact ⟨k + 1, by go_num, by omega, ⟨_, rfl, by rw [HS.out]; assumption⟩, Lib.hid (below_drewN HB2.out _)⟩
      case measure => simp [intOf]; omega
    · obtain rfl : k = n := by omega
      go_wp2_with fail
      go_ret
      exact ⟨⟨_, rfl, hr⟩, HB.out⟩

set_option maxHeartbeats 1000000 in
set_option maxRecDepth 100000 in
theorem sumBy64_any (n : Nat) (f : FuncId) (cs : Array Value) (F : Nat → Nat) (w : World) (hn : n ≤ 1048576) (hf : TellsK w f cs n .f64 F) :
    Calls Try.prog 108 #[.int .i64 (n : Int), .func (.func f) #[] cs] w fun e w' => (∃ r, e = .returned (.float .f64 r) ∧ Is .f64 r (sumFn .f64 F n)) ∧ Below w.heap.size w w' := by
  have HF := Lib.hid hf
  clear hf
  go_enter Try.func108, Try.ntmps108
  go_wp2_with fail
  go_loopw [5, 8] (fun s i wr => ∃ k : Nat, i = .int .i64 (k : Int) ∧ k ≤ n ∧ (∃ r, s = .float .f64 r ∧ Is .f64 r (sumFn .f64 F k)) ∧ Hid (Below w.heap.size w wr)) (fun _ i _ => n - (intOf i).toNat)
  case atStart => exact ⟨0, rfl, Nat.zero_le _, ⟨_, rfl, Is.const rfl⟩, Lib.hid (Below.refl _ _)⟩
  case round =>
    obtain ⟨k, rfl, hk, ⟨r, rfl, hr⟩, HB⟩ := hrel
    by_cases hlt : k < n
    · have HS := Lib.hid (show sumFn .f64 F (k + 1) = fop .add .f64 (sumFn .f64 F k) (F k) from rfl)
      go_wp2_with fail
      rw [HF.out.1]
      go_simp
      refine (HF.out.2 k _ hlt HB.out).mono ?_; rintro e w2 ⟨⟨s, rfl, hs⟩, hb⟩
      have HB2 := Lib.hid (HB.out.trans (hb.mono HB.out.size))
      clear hb
      go_wp2_with (first | (apply wpList_farith; rfl; rfl; rfl; rfl; (first | with_reducible assumption | exact Is.const rfl); (first | with_reducible assumption | exact Is.const rfl); intro r n hr) | fail)
      go_roundw
      case rel => exact ⟨k + 1, by go_num, by omega, ⟨_, rfl, by rw [HS.out]; assumption⟩, Lib.hid (below_drewN HB2.out _)⟩
      case measure => simp [intOf]; omega
    · obtain rfl : k = n := by omega
      go_wp2_with fail
      go_ret
      exact ⟨⟨_, rfl, hr⟩, HB.out⟩

set_option maxHeartbeats 1000000 in
set_option maxRecDepth 100000 in
theorem sumByC_any (n : Nat) (f : FuncId) (cs : Array Value) (F G : Nat → Nat) (w : World) (hn : n ≤ 1048576) (hf : TellsC w f cs n F G) :
    Calls Try.prog 135 #[.int .i64 (n : Int), .func (.func f) #[] cs] w fun e w' => (∃ r s, e = .returned (.complex .f32 r s) ∧ Is .f32 r (sumFn .f32 F n) ∧ Is .f32 s (sumFn .f32 G n)) ∧ Below w.heap.size w w' := by
  have HF := Lib.hid hf
  clear hf
  go_enter Try.func135, Try.ntmps135
  go_wp2_with fail
  go_loopw [5, 8] (fun s i wr => ∃ k : Nat, i = .int .i64 (k : Int) ∧ k ≤ n ∧ (∃ r t, s = .complex .f32 r t ∧ Is .f32 r (sumFn .f32 F k) ∧ Is .f32 t (sumFn .f32 G k)) ∧ Hid (Below w.heap.size w wr)) (fun _ i _ => n - (intOf i).toNat)
  case atStart => exact ⟨0, rfl, Nat.zero_le _, ⟨_, _, rfl, Is.const rfl, Is.const rfl⟩, Lib.hid (Below.refl _ _)⟩
  case round =>
    obtain ⟨k, rfl, hk, ⟨r, t, rfl, hr, ht⟩, HB⟩ := hrel
    by_cases hlt : k < n
    · have HS := Lib.hid (show sumFn .f32 F (k + 1) = fop .add .f32 (sumFn .f32 F k) (F k) from rfl)
      have HT := Lib.hid (show sumFn .f32 G (k + 1) = fop .add .f32 (sumFn .f32 G k) (G k) from rfl)
      go_wp2_with fail
      rw [HF.out.1]
      go_simp
      refine (HF.out.2 k _ hlt HB.out).mono ?_; rintro e w2 ⟨⟨s, u, rfl, hs, hu⟩, hb⟩
      have HB2 := Lib.hid (HB.out.trans (hb.mono HB.out.size))
      clear hb
      go_wp2_with (first | (apply wpList_csum; rfl; exact .inl rfl; rfl; rfl; (with_reducible exact hr); (with_reducible exact ht); (with_reducible exact hs); (with_reducible exact hu); intro x y m hx hy) | fail)
      go_roundw
      case rel => exact ⟨k + 1, by go_num, by omega, ⟨_, _, rfl, by rw [HS.out]; assumption, by rw [HT.out]; assumption⟩, Lib.hid (below_drewN HB2.out _)⟩
      case measure => simp [intOf]; omega
    · obtain rfl : k = n := by omega
      go_wp2_with fail
      go_ret
      exact ⟨⟨_, _, rfl, hr, ht⟩, HB.out⟩
end Go.Proofs.Ytlfnbnhbobohlaa
