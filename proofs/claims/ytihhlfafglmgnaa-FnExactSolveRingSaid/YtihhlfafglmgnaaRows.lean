/-
  No cell of these rows narrows 'for every input' (looked for: loops, veiled, ifaces, maps, wideKeys, modest, calm, conditions, laid).
  DERIVED. THE GIVEN ROWS OF THIS SEAT. 12 by the template 'for every input the law returns true; each argument reads behind the call as it read before'; 0 by the template 'total and deterministic' (their statements: YtihhlfafglmgnaaTotals.lean).
  GIVEN WITH THE SEED: the statements are not yours to turn. If you find one false, say at which input.
  Laid BY PROGRAM, IN A SANDBOX (cutbox-rows.mjs): the forced cells as the released guide's own fill.sh prints them over the translation 965d03d58b88ab35… (all of the seat's roots in one cut). By AI agents, Wed Nov 11 2026. No macro, syntax, notation, axiom, sorry.
-/
import Derived.Test.YtihhlfafglmgnaaChecked
import GoSem.Claim
import GoSem.ClaimJoined
import GoSem.ClaimMapViews
import Derived.JoinedTies
import Derived.KernelRfl
namespace Go.Proofs.Ytihhlfafglmgnaa
/- THE CELL 'sum', in the pinned program and in every row, IS THE sha256 OF THE DUMP (.gsa) THAT YtihhlfafglmgnaaProg.lean LOADS. Nothing in Lean hashes anything: it is a label: what it is worth is what the hold of that sum in a sandbox is worth. -/
noncomputable def Try.pinned : Pinned := { name := "ytihhlfafglmgnaa", sum := "965d03d58b88ab3563a181c1b04e17dae937f1478b567275be2af552c0647770", checked := Try.checked }
namespace Rows
def none {H : Type} : Left H := { results := [], args := [] }

/-- 'laws.FnExactMeanOf': WHATEVER THE INPUT: true; the input reads as it did. -/
def fnExactMeanOfSpec : ChangeSpec := { name := "fnExactMeanOf", fn := fun _ => fun
  | [d1, d2] => { results := [.lit (.bool true)], args := [d1, d2] }
  | _ => none }
def fnExactMeanOfRow : OpenClaim := { program := "ytihhlfafglmgnaa", sum := "965d03d58b88ab3563a181c1b04e17dae937f1478b567275be2af552c0647770", func := "loop.example/g01226/laws.FnExactMeanOf", spec := "fnExactMeanOf", apart := false }
def FnExactMeanOfSaid : Prop := fnExactMeanOfRow.holds Try.pinned (OpenSpec.ofChange fnExactMeanOfSpec)

/-- ITS FALSE NEIGHBOUR: 'it returns false'. Refute it at one input. -/
def fnExactMeanOfWrong : ChangeSpec := { name := "fnExactMeanOf", fn := fun _ => fun
  | [d1, d2] => { results := [.lit (.bool false)], args := [d1, d2] }
  | _ => none }
def FnExactMeanOfWrongFalsely : Prop := fnExactMeanOfRow.holds Try.pinned (OpenSpec.ofChange fnExactMeanOfWrong)

/-- 'laws.FnExactWithoutMean': WHATEVER THE INPUT: true; the input reads as it did. -/
def fnExactWithoutMeanSpec : ChangeSpec := { name := "fnExactWithoutMean", fn := fun _ => fun
  | [d1, d2] => { results := [.lit (.bool true)], args := [d1, d2] }
  | _ => none }
def fnExactWithoutMeanRow : OpenClaim := { program := "ytihhlfafglmgnaa", sum := "965d03d58b88ab3563a181c1b04e17dae937f1478b567275be2af552c0647770", func := "loop.example/g01226/laws.FnExactWithoutMean", spec := "fnExactWithoutMean", apart := false }
def FnExactWithoutMeanSaid : Prop := fnExactWithoutMeanRow.holds Try.pinned (OpenSpec.ofChange fnExactWithoutMeanSpec)

/-- ITS FALSE NEIGHBOUR: 'it returns false'. Refute it at one input. -/
def fnExactWithoutMeanWrong : ChangeSpec := { name := "fnExactWithoutMean", fn := fun _ => fun
  | [d1, d2] => { results := [.lit (.bool false)], args := [d1, d2] }
  | _ => none }
def FnExactWithoutMeanWrongFalsely : Prop := fnExactWithoutMeanRow.holds Try.pinned (OpenSpec.ofChange fnExactWithoutMeanWrong)

/-- 'laws.FnExactLaplaceOf': WHATEVER THE INPUT: true; the input reads as it did. -/
def fnExactLaplaceOfSpec : ChangeSpec := { name := "fnExactLaplaceOf", fn := fun _ => fun
  | [d1, d2] => { results := [.lit (.bool true)], args := [d1, d2] }
  | _ => none }
def fnExactLaplaceOfRow : OpenClaim := { program := "ytihhlfafglmgnaa", sum := "965d03d58b88ab3563a181c1b04e17dae937f1478b567275be2af552c0647770", func := "loop.example/g01226/laws.FnExactLaplaceOf", spec := "fnExactLaplaceOf", unfollowed := true, recurses := true, apart := false }
def FnExactLaplaceOfSaid : Prop := fnExactLaplaceOfRow.holds Try.pinned (OpenSpec.ofChange fnExactLaplaceOfSpec)

/-- ITS FALSE NEIGHBOUR: 'it returns false'. Refute it at one input. -/
def fnExactLaplaceOfWrong : ChangeSpec := { name := "fnExactLaplaceOf", fn := fun _ => fun
  | [d1, d2] => { results := [.lit (.bool false)], args := [d1, d2] }
  | _ => none }
def FnExactLaplaceOfWrongFalsely : Prop := fnExactLaplaceOfRow.holds Try.pinned (OpenSpec.ofChange fnExactLaplaceOfWrong)

/-- 'laws.FnExactResidualOf': WHATEVER THE INPUT: true; the input reads as it did. -/
def fnExactResidualOfSpec : ChangeSpec := { name := "fnExactResidualOf", fn := fun _ => fun
  | [d1, d2, d3] => { results := [.lit (.bool true)], args := [d1, d2, d3] }
  | _ => none }
def fnExactResidualOfRow : OpenClaim := { program := "ytihhlfafglmgnaa", sum := "965d03d58b88ab3563a181c1b04e17dae937f1478b567275be2af552c0647770", func := "loop.example/g01226/laws.FnExactResidualOf", spec := "fnExactResidualOf", unfollowed := true, recurses := true, apart := false }
def FnExactResidualOfSaid : Prop := fnExactResidualOfRow.holds Try.pinned (OpenSpec.ofChange fnExactResidualOfSpec)

/-- ITS FALSE NEIGHBOUR: 'it returns false'. Refute it at one input. -/
def fnExactResidualOfWrong : ChangeSpec := { name := "fnExactResidualOf", fn := fun _ => fun
  | [d1, d2, d3] => { results := [.lit (.bool false)], args := [d1, d2, d3] }
  | _ => none }
def FnExactResidualOfWrongFalsely : Prop := fnExactResidualOfRow.holds Try.pinned (OpenSpec.ofChange fnExactResidualOfWrong)

/-- 'laws.FnExactCoarseField': WHATEVER THE INPUT: true; the input reads as it did. -/
def fnExactCoarseFieldSpec : ChangeSpec := { name := "fnExactCoarseField", fn := fun _ => fun
  | [d1, d2] => { results := [.lit (.bool true)], args := [d1, d2] }
  | _ => none }
def fnExactCoarseFieldRow : OpenClaim := { program := "ytihhlfafglmgnaa", sum := "965d03d58b88ab3563a181c1b04e17dae937f1478b567275be2af552c0647770", func := "loop.example/g01226/laws.FnExactCoarseField", spec := "fnExactCoarseField", unfollowed := true, recurses := true, apart := false }
def FnExactCoarseFieldSaid : Prop := fnExactCoarseFieldRow.holds Try.pinned (OpenSpec.ofChange fnExactCoarseFieldSpec)

/-- ITS FALSE NEIGHBOUR: 'it returns false'. Refute it at one input. -/
def fnExactCoarseFieldWrong : ChangeSpec := { name := "fnExactCoarseField", fn := fun _ => fun
  | [d1, d2] => { results := [.lit (.bool false)], args := [d1, d2] }
  | _ => none }
def FnExactCoarseFieldWrongFalsely : Prop := fnExactCoarseFieldRow.holds Try.pinned (OpenSpec.ofChange fnExactCoarseFieldWrong)

/-- 'laws.FnExactFineField': WHATEVER THE INPUT: true; the input reads as it did. -/
def fnExactFineFieldSpec : ChangeSpec := { name := "fnExactFineField", fn := fun _ => fun
  | [d1, d2] => { results := [.lit (.bool true)], args := [d1, d2] }
  | _ => none }
def fnExactFineFieldRow : OpenClaim := { program := "ytihhlfafglmgnaa", sum := "965d03d58b88ab3563a181c1b04e17dae937f1478b567275be2af552c0647770", func := "loop.example/g01226/laws.FnExactFineField", spec := "fnExactFineField", unfollowed := true, recurses := true, apart := false }
def FnExactFineFieldSaid : Prop := fnExactFineFieldRow.holds Try.pinned (OpenSpec.ofChange fnExactFineFieldSpec)

/-- ITS FALSE NEIGHBOUR: 'it returns false'. Refute it at one input. -/
def fnExactFineFieldWrong : ChangeSpec := { name := "fnExactFineField", fn := fun _ => fun
  | [d1, d2] => { results := [.lit (.bool false)], args := [d1, d2] }
  | _ => none }
def FnExactFineFieldWrongFalsely : Prop := fnExactFineFieldRow.holds Try.pinned (OpenSpec.ofChange fnExactFineFieldWrong)

/-- 'laws.FnExactFieldsOf': WHATEVER THE INPUT: true; the input reads as it did. -/
def fnExactFieldsOfSpec : ChangeSpec := { name := "fnExactFieldsOf", fn := fun _ => fun
  | [d1, d2] => { results := [.lit (.bool true)], args := [d1, d2] }
  | _ => none }
def fnExactFieldsOfRow : OpenClaim := { program := "ytihhlfafglmgnaa", sum := "965d03d58b88ab3563a181c1b04e17dae937f1478b567275be2af552c0647770", func := "loop.example/g01226/laws.FnExactFieldsOf", spec := "fnExactFieldsOf", unfollowed := true, recurses := true, apart := false }
def FnExactFieldsOfSaid : Prop := fnExactFieldsOfRow.holds Try.pinned (OpenSpec.ofChange fnExactFieldsOfSpec)

/-- ITS FALSE NEIGHBOUR: 'it returns false'. Refute it at one input. -/
def fnExactFieldsOfWrong : ChangeSpec := { name := "fnExactFieldsOf", fn := fun _ => fun
  | [d1, d2] => { results := [.lit (.bool false)], args := [d1, d2] }
  | _ => none }
def FnExactFieldsOfWrongFalsely : Prop := fnExactFieldsOfRow.holds Try.pinned (OpenSpec.ofChange fnExactFieldsOfWrong)

/-- 'laws.FnExactFieldEnergy': WHATEVER THE INPUT: true; the input reads as it did. -/
def fnExactFieldEnergySpec : ChangeSpec := { name := "fnExactFieldEnergy", fn := fun _ => fun
  | [d1, d2, d3] => { results := [.lit (.bool true)], args := [d1, d2, d3] }
  | _ => none }
def fnExactFieldEnergyRow : OpenClaim := { program := "ytihhlfafglmgnaa", sum := "965d03d58b88ab3563a181c1b04e17dae937f1478b567275be2af552c0647770", func := "loop.example/g01226/laws.FnExactFieldEnergy", spec := "fnExactFieldEnergy", unfollowed := true, recurses := true, apart := false }
def FnExactFieldEnergySaid : Prop := fnExactFieldEnergyRow.holds Try.pinned (OpenSpec.ofChange fnExactFieldEnergySpec)

/-- ITS FALSE NEIGHBOUR: 'it returns false'. Refute it at one input. -/
def fnExactFieldEnergyWrong : ChangeSpec := { name := "fnExactFieldEnergy", fn := fun _ => fun
  | [d1, d2, d3] => { results := [.lit (.bool false)], args := [d1, d2, d3] }
  | _ => none }
def FnExactFieldEnergyWrongFalsely : Prop := fnExactFieldEnergyRow.holds Try.pinned (OpenSpec.ofChange fnExactFieldEnergyWrong)

/-- 'laws.FnExactSolveRow': WHATEVER THE INPUT: true; the input reads as it did. -/
def fnExactSolveRowSpec : ChangeSpec := { name := "fnExactSolveRow", fn := fun _ => fun
  | [d1, d2, d3, d4] => { results := [.lit (.bool true)], args := [d1, d2, d3, d4] }
  | _ => none }
def fnExactSolveRowRow : OpenClaim := { program := "ytihhlfafglmgnaa", sum := "965d03d58b88ab3563a181c1b04e17dae937f1478b567275be2af552c0647770", func := "loop.example/g01226/laws.FnExactSolveRow", spec := "fnExactSolveRow", apart := false }
def FnExactSolveRowSaid : Prop := fnExactSolveRowRow.holds Try.pinned (OpenSpec.ofChange fnExactSolveRowSpec)

/-- ITS FALSE NEIGHBOUR: 'it returns false'. Refute it at one input. -/
def fnExactSolveRowWrong : ChangeSpec := { name := "fnExactSolveRow", fn := fun _ => fun
  | [d1, d2, d3, d4] => { results := [.lit (.bool false)], args := [d1, d2, d3, d4] }
  | _ => none }
def FnExactSolveRowWrongFalsely : Prop := fnExactSolveRowRow.holds Try.pinned (OpenSpec.ofChange fnExactSolveRowWrong)

/-- 'laws.FnExactSolveRing': WHATEVER THE INPUT: true; the input reads as it did. -/
def fnExactSolveRingSpec : ChangeSpec := { name := "fnExactSolveRing", fn := fun _ => fun
  | [d] => { results := [.lit (.bool true)], args := [d] }
  | _ => none }
def fnExactSolveRingRow : OpenClaim := { program := "ytihhlfafglmgnaa", sum := "965d03d58b88ab3563a181c1b04e17dae937f1478b567275be2af552c0647770", func := "loop.example/g01226/laws.FnExactSolveRing", spec := "fnExactSolveRing", apart := false }
def FnExactSolveRingSaid : Prop := fnExactSolveRingRow.holds Try.pinned (OpenSpec.ofChange fnExactSolveRingSpec)

/-- ITS FALSE NEIGHBOUR: 'it returns false'. Refute it at one input. -/
def fnExactSolveRingWrong : ChangeSpec := { name := "fnExactSolveRing", fn := fun _ => fun
  | [d] => { results := [.lit (.bool false)], args := [d] }
  | _ => none }
def FnExactSolveRingWrongFalsely : Prop := fnExactSolveRingRow.holds Try.pinned (OpenSpec.ofChange fnExactSolveRingWrong)

/-- 'laws.FnExactSweepColour': WHATEVER THE INPUT: true; the input reads as it did. -/
def fnExactSweepColourSpec : ChangeSpec := { name := "fnExactSweepColour", fn := fun _ => fun
  | [d1, d2, d3, d4] => { results := [.lit (.bool true)], args := [d1, d2, d3, d4] }
  | _ => none }
def fnExactSweepColourRow : OpenClaim := { program := "ytihhlfafglmgnaa", sum := "965d03d58b88ab3563a181c1b04e17dae937f1478b567275be2af552c0647770", func := "loop.example/g01226/laws.FnExactSweepColour", spec := "fnExactSweepColour", unfollowed := true, recurses := true, apart := false }
def FnExactSweepColourSaid : Prop := fnExactSweepColourRow.holds Try.pinned (OpenSpec.ofChange fnExactSweepColourSpec)

/-- ITS FALSE NEIGHBOUR: 'it returns false'. Refute it at one input. -/
def fnExactSweepColourWrong : ChangeSpec := { name := "fnExactSweepColour", fn := fun _ => fun
  | [d1, d2, d3, d4] => { results := [.lit (.bool false)], args := [d1, d2, d3, d4] }
  | _ => none }
def FnExactSweepColourWrongFalsely : Prop := fnExactSweepColourRow.holds Try.pinned (OpenSpec.ofChange fnExactSweepColourWrong)

/-- 'laws.FnShares': WHATEVER THE INPUT: true; the input reads as it did. -/
def fnSharesSpec : ChangeSpec := { name := "fnShares", fn := fun _ => fun
  | [d1, d2] => { results := [.lit (.bool true)], args := [d1, d2] }
  | _ => none }
def fnSharesRow : OpenClaim := { program := "ytihhlfafglmgnaa", sum := "965d03d58b88ab3563a181c1b04e17dae937f1478b567275be2af552c0647770", func := "loop.example/g01226/laws.FnShares", spec := "fnShares", inPlace := ["math.Float64bits", "math.Float64frombits", "math.archFloor", "math.archTrunc"], unfollowed := true, recurses := true, apart := false }
def FnSharesSaid : Prop := fnSharesRow.holds Try.pinned (OpenSpec.ofChange fnSharesSpec)

/-- ITS FALSE NEIGHBOUR: 'it returns false'. Refute it at one input. -/
def fnSharesWrong : ChangeSpec := { name := "fnShares", fn := fun _ => fun
  | [d1, d2] => { results := [.lit (.bool false)], args := [d1, d2] }
  | _ => none }
def FnSharesWrongFalsely : Prop := fnSharesRow.holds Try.pinned (OpenSpec.ofChange fnSharesWrong)

/- THE SECOND FORM. 'bulk': how many values and letters a reading holds, each counted each time it is reached (what is shared counts as often as it is met; a slice's spare places count too). A statement '..UptoSaid' is the law's where the arguments, and the package variables that the reading takes, are together of bulk at most 1048576: NARROWER than '..Said'. Prove '..Said' where nothing that the law and all that it calls make is longer than what came in: it says more and counts as full. Else prove '..UptoSaid'. A law counts once. -/
mutual
def uptoBulk {H : Type} : DataW H → Nat
  | .lit (.string bytes) => bytes.length + 1
  | .lit _ => 1
  | .nil => 1
  | .ptr d => uptoBulk d + 1
  | .slice elems spare => uptoBulkAll elems + uptoBulkAll spare + 1
  | .agg parts => uptoBulkAll parts + 1
  | .iface _ d => uptoBulk d + 1
  | .map entries => uptoBulkEntries entries + 1
  | .held _ => 1
def uptoBulkAll {H : Type} : List (DataW H) → Nat
  | [] => 0
  | d :: r => uptoBulk d + uptoBulkAll r
def uptoBulkEntries {H : Type} : List (Lit × DataW H) → Nat
  | [] => 0
  | x :: r => uptoBulkEntry x + uptoBulkEntries r
def uptoBulkEntry {H : Type} : Lit × DataW H → Nat
  | (.string bytes, d) => bytes.length + uptoBulk d + 1
  | (_, d) => uptoBulk d + 1
 end
def uptoSmall : (H : Type) → List (DataW H) → Bool := fun _ ds => decide (uptoBulkAll ds ≤ 1048576)
def OpenSpec.upto (s : _root_.Go.ChangeSpec) : _root_.Go.OpenSpec := { _root_.Go.OpenSpec.ofChange s with cond := some uptoSmall }

/-- 'laws.FnExactMeanOf', WHERE WHAT IT READS IS OF BULK AT MOST 1048576: true; the input reads as it did. -/
def fnExactMeanOfUptoRow : OpenClaim := { program := "ytihhlfafglmgnaa", sum := "965d03d58b88ab3563a181c1b04e17dae937f1478b567275be2af552c0647770", func := "loop.example/g01226/laws.FnExactMeanOf", spec := "fnExactMeanOf", apart := false, narrowed := true }
def FnExactMeanOfUptoSaid : Prop := fnExactMeanOfUptoRow.holds Try.pinned (OpenSpec.upto fnExactMeanOfSpec)

/-- 'laws.FnExactWithoutMean', WHERE WHAT IT READS IS OF BULK AT MOST 1048576: true; the input reads as it did. -/
def fnExactWithoutMeanUptoRow : OpenClaim := { program := "ytihhlfafglmgnaa", sum := "965d03d58b88ab3563a181c1b04e17dae937f1478b567275be2af552c0647770", func := "loop.example/g01226/laws.FnExactWithoutMean", spec := "fnExactWithoutMean", apart := false, narrowed := true }
def FnExactWithoutMeanUptoSaid : Prop := fnExactWithoutMeanUptoRow.holds Try.pinned (OpenSpec.upto fnExactWithoutMeanSpec)

/-- 'laws.FnExactLaplaceOf', WHERE WHAT IT READS IS OF BULK AT MOST 1048576: true; the input reads as it did. -/
def fnExactLaplaceOfUptoRow : OpenClaim := { program := "ytihhlfafglmgnaa", sum := "965d03d58b88ab3563a181c1b04e17dae937f1478b567275be2af552c0647770", func := "loop.example/g01226/laws.FnExactLaplaceOf", spec := "fnExactLaplaceOf", unfollowed := true, recurses := true, apart := false, narrowed := true }
def FnExactLaplaceOfUptoSaid : Prop := fnExactLaplaceOfUptoRow.holds Try.pinned (OpenSpec.upto fnExactLaplaceOfSpec)

/-- 'laws.FnExactResidualOf', WHERE WHAT IT READS IS OF BULK AT MOST 1048576: true; the input reads as it did. -/
def fnExactResidualOfUptoRow : OpenClaim := { program := "ytihhlfafglmgnaa", sum := "965d03d58b88ab3563a181c1b04e17dae937f1478b567275be2af552c0647770", func := "loop.example/g01226/laws.FnExactResidualOf", spec := "fnExactResidualOf", unfollowed := true, recurses := true, apart := false, narrowed := true }
def FnExactResidualOfUptoSaid : Prop := fnExactResidualOfUptoRow.holds Try.pinned (OpenSpec.upto fnExactResidualOfSpec)

/-- 'laws.FnExactCoarseField', WHERE WHAT IT READS IS OF BULK AT MOST 1048576: true; the input reads as it did. -/
def fnExactCoarseFieldUptoRow : OpenClaim := { program := "ytihhlfafglmgnaa", sum := "965d03d58b88ab3563a181c1b04e17dae937f1478b567275be2af552c0647770", func := "loop.example/g01226/laws.FnExactCoarseField", spec := "fnExactCoarseField", unfollowed := true, recurses := true, apart := false, narrowed := true }
def FnExactCoarseFieldUptoSaid : Prop := fnExactCoarseFieldUptoRow.holds Try.pinned (OpenSpec.upto fnExactCoarseFieldSpec)

/-- 'laws.FnExactFineField', WHERE WHAT IT READS IS OF BULK AT MOST 1048576: true; the input reads as it did. -/
def fnExactFineFieldUptoRow : OpenClaim := { program := "ytihhlfafglmgnaa", sum := "965d03d58b88ab3563a181c1b04e17dae937f1478b567275be2af552c0647770", func := "loop.example/g01226/laws.FnExactFineField", spec := "fnExactFineField", unfollowed := true, recurses := true, apart := false, narrowed := true }
def FnExactFineFieldUptoSaid : Prop := fnExactFineFieldUptoRow.holds Try.pinned (OpenSpec.upto fnExactFineFieldSpec)

/-- 'laws.FnExactFieldsOf', WHERE WHAT IT READS IS OF BULK AT MOST 1048576: true; the input reads as it did. -/
def fnExactFieldsOfUptoRow : OpenClaim := { program := "ytihhlfafglmgnaa", sum := "965d03d58b88ab3563a181c1b04e17dae937f1478b567275be2af552c0647770", func := "loop.example/g01226/laws.FnExactFieldsOf", spec := "fnExactFieldsOf", unfollowed := true, recurses := true, apart := false, narrowed := true }
def FnExactFieldsOfUptoSaid : Prop := fnExactFieldsOfUptoRow.holds Try.pinned (OpenSpec.upto fnExactFieldsOfSpec)

/-- 'laws.FnExactFieldEnergy', WHERE WHAT IT READS IS OF BULK AT MOST 1048576: true; the input reads as it did. -/
def fnExactFieldEnergyUptoRow : OpenClaim := { program := "ytihhlfafglmgnaa", sum := "965d03d58b88ab3563a181c1b04e17dae937f1478b567275be2af552c0647770", func := "loop.example/g01226/laws.FnExactFieldEnergy", spec := "fnExactFieldEnergy", unfollowed := true, recurses := true, apart := false, narrowed := true }
def FnExactFieldEnergyUptoSaid : Prop := fnExactFieldEnergyUptoRow.holds Try.pinned (OpenSpec.upto fnExactFieldEnergySpec)

/-- 'laws.FnExactSolveRow', WHERE WHAT IT READS IS OF BULK AT MOST 1048576: true; the input reads as it did. -/
def fnExactSolveRowUptoRow : OpenClaim := { program := "ytihhlfafglmgnaa", sum := "965d03d58b88ab3563a181c1b04e17dae937f1478b567275be2af552c0647770", func := "loop.example/g01226/laws.FnExactSolveRow", spec := "fnExactSolveRow", apart := false, narrowed := true }
def FnExactSolveRowUptoSaid : Prop := fnExactSolveRowUptoRow.holds Try.pinned (OpenSpec.upto fnExactSolveRowSpec)

/-- 'laws.FnExactSolveRing', WHERE WHAT IT READS IS OF BULK AT MOST 1048576: true; the input reads as it did. -/
def fnExactSolveRingUptoRow : OpenClaim := { program := "ytihhlfafglmgnaa", sum := "965d03d58b88ab3563a181c1b04e17dae937f1478b567275be2af552c0647770", func := "loop.example/g01226/laws.FnExactSolveRing", spec := "fnExactSolveRing", apart := false, narrowed := true }
def FnExactSolveRingUptoSaid : Prop := fnExactSolveRingUptoRow.holds Try.pinned (OpenSpec.upto fnExactSolveRingSpec)

/-- 'laws.FnExactSweepColour', WHERE WHAT IT READS IS OF BULK AT MOST 1048576: true; the input reads as it did. -/
def fnExactSweepColourUptoRow : OpenClaim := { program := "ytihhlfafglmgnaa", sum := "965d03d58b88ab3563a181c1b04e17dae937f1478b567275be2af552c0647770", func := "loop.example/g01226/laws.FnExactSweepColour", spec := "fnExactSweepColour", unfollowed := true, recurses := true, apart := false, narrowed := true }
def FnExactSweepColourUptoSaid : Prop := fnExactSweepColourUptoRow.holds Try.pinned (OpenSpec.upto fnExactSweepColourSpec)

/-- 'laws.FnShares', WHERE WHAT IT READS IS OF BULK AT MOST 1048576: true; the input reads as it did. -/
def fnSharesUptoRow : OpenClaim := { program := "ytihhlfafglmgnaa", sum := "965d03d58b88ab3563a181c1b04e17dae937f1478b567275be2af552c0647770", func := "loop.example/g01226/laws.FnShares", spec := "fnShares", inPlace := ["math.Float64bits", "math.Float64frombits", "math.archFloor", "math.archTrunc"], unfollowed := true, recurses := true, apart := false, narrowed := true }
def FnSharesUptoSaid : Prop := fnSharesUptoRow.holds Try.pinned (OpenSpec.upto fnSharesSpec)

end Rows
end Go.Proofs.Ytihhlfafglmgnaa
