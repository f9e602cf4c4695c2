/-
  Structs of two integers by value, opened and shut.
-/
import Derived.Lib.SmallJoins
import Derived.ProofKit
import Derived.OpenShut
namespace Go.Fl
open Go.Joins Go.ChangeShapes Go.WideShapes Go.RowKit Go.Deep

theorem open_pair {H : Type} {enc : TypeId × Value → H} {P : Program} {w : World} {base : Nat} {spare : Nat → Bool} {held : Bool} {r : Reach} {b0 : Nat} {t e : TypeId} {v : Value} {d : DataW H} {p : List MemPlace}
    {f0 f1 : Field} (hs : P.underlying t = some (.struct #[f0, f1])) (he : P.underlying e = some (.int .i64)) (hone : (oneCellFields P #[f0, f1] && (f0.type == e) && (f1.type == e)) = true) (hC : P.cellsOf t = 2)
    (hv : Value.okWide P w r b0 t v) (h : DataW.Trod enc P w base spare held t v d p) :
    ∃ a b : Int, v = .agg #[.int .i64 a, .int .i64 b] ∧ d = .agg [.lit (.int .i64 a), .lit (.int .i64 b)] ∧ p = [] ∧ (Lit.int .i64 a).wf = true ∧ (Lit.int .i64 b).wf = true := by
  simp only [Bool.and_eq_true, beq_iff_eq] at hone
  obtain ⟨⟨h1, h2⟩, h3⟩ := hone
  obtain ⟨c0, c1, y0, y1, m, rfl, rfl, rfl, hy0, hy1⟩ := open_agg2 hs h1 hC hv h
  rw [h2] at hy0
  rw [h3] at hy1
  obtain ⟨a, e0, rfl, wa⟩ := DataW.trod_int he hy0
  obtain ⟨b, e1, rfl, wb⟩ := DataW.trod_int he hy1
  simp at e0 e1
  subst e0 e1
  exact ⟨a, b, rfl, rfl, rfl, wa, wb⟩

theorem shut_pair {H : Type} {enc : TypeId × Value → H} {P : Program} {w : World} {base : Nat} {spare : Nat → Bool} {held : Bool} {t e : TypeId} {f0 f1 : Field} {a b : Int}
    (hs : P.underlying t = some (.struct #[f0, f1])) (he : P.underlying e = some (.int .i64)) (hone : (oneCellFields P #[f0, f1] && (f0.type == e) && (f1.type == e)) = true) (hC : P.cellsOf t = 2)
    (wa : (Lit.int .i64 a).wf = true) (wb : (Lit.int .i64 b).wf = true) :
    DataW.Trod enc P w base spare held t (.agg #[.int .i64 a, .int .i64 b]) (.agg [.lit (.int .i64 a), .lit (.int .i64 b)]) [] := by
  simp only [Bool.and_eq_true, beq_iff_eq] at hone
  obtain ⟨⟨h1, h2⟩, h3⟩ := hone
  exact shut_agg2 (y0 := (.lit (.int .i64 a), [])) (y1 := (.lit (.int .i64 b), [])) hs h1 hC ⟨1, by rw [h2]; simp [DataW.trod, he, wa]⟩ ⟨1, by rw [h3]; simp [DataW.trod, he, wb]⟩

theorem wf_i64 {a : Int} (h : (Lit.int .i64 a).wf = true) : -9223372036854775808 ≤ a ∧ a ≤ 9223372036854775807 := by
  simp [Lit.wf, IntKind.min, IntKind.max, IntKind.signed, IntKind.bits] at h
  omega
end Go.Fl
