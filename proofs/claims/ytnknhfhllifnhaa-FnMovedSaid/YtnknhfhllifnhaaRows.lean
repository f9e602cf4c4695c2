/-
  No cell of these rows narrows 'for every input' (looked for: loops, veiled, ifaces, maps, wideKeys, modest, calm, conditions, laid).
  DERIVED. THE GIVEN ROWS OF THIS SEAT. 7 by the template 'for every input the law returns true; each argument reads behind the call as it read before'; 0 by the template 'total and deterministic' (their statements: YtnknhfhllifnhaaTotals.lean).
  GIVEN WITH THE SEED: the statements are not yours to turn. If you find one false, say at which input.
  Laid BY PROGRAM, IN A SANDBOX (cutbox-rows.mjs): the forced cells as the released guide's own fill.sh prints them over the translation 02fee7ab1bb1467d… (all of the seat's roots in one cut). By AI agents, Wed Nov 11 2026. No macro, syntax, notation, axiom, sorry.
-/
import Derived.Test.YtnknhfhllifnhaaChecked
import GoSem.Claim
import GoSem.ClaimJoined
import GoSem.ClaimMapViews
import Derived.JoinedTies
import Derived.KernelRfl
namespace Go.Proofs.Ytnknhfhllifnhaa
/- THE CELL 'sum', in the pinned program and in every row, IS THE sha256 OF THE DUMP (.gsa) THAT YtnknhfhllifnhaaProg.lean LOADS. Nothing in Lean hashes anything: it is a label: what it is worth is what the hold of that sum in a sandbox is worth. -/
noncomputable def Try.pinned : Pinned := { name := "ytnknhfhllifnhaa", sum := "02fee7ab1bb1467d12ca25451a644d3c9ee83ea0381a8ca9c66d2f684d8b99bc", checked := Try.checked }
namespace Rows
def none {H : Type} : Left H := { results := [], args := [] }

/-- 'laws.FnDeposits': WHATEVER THE INPUT: true; the input reads as it did. -/
def fnDepositsSpec : ChangeSpec := { name := "fnDeposits", fn := fun _ => fun
  | [d1, d2] => { results := [.lit (.bool true)], args := [d1, d2] }
  | _ => none }
def fnDepositsRow : OpenClaim := { program := "ytnknhfhllifnhaa", sum := "02fee7ab1bb1467d12ca25451a644d3c9ee83ea0381a8ca9c66d2f684d8b99bc", func := "loop.example/g01226/laws.FnDeposits", spec := "fnDeposits", inPlace := ["math.Float64bits", "math.Float64frombits", "math.archFloor", "math.archTrunc"], unfollowed := true, recurses := true, apart := false }
def FnDepositsSaid : Prop := fnDepositsRow.holds Try.pinned (OpenSpec.ofChange fnDepositsSpec)

/-- ITS FALSE NEIGHBOUR: 'it returns false'. Refute it at one input. -/
def fnDepositsWrong : ChangeSpec := { name := "fnDeposits", fn := fun _ => fun
  | [d1, d2] => { results := [.lit (.bool false)], args := [d1, d2] }
  | _ => none }
def FnDepositsWrongFalsely : Prop := fnDepositsRow.holds Try.pinned (OpenSpec.ofChange fnDepositsWrong)

/-- 'laws.FnMoved': WHATEVER THE INPUT: true; the input reads as it did. -/
def fnMovedSpec : ChangeSpec := { name := "fnMoved", fn := fun _ => fun
  | [d1, d2] => { results := [.lit (.bool true)], args := [d1, d2] }
  | _ => none }
def fnMovedRow : OpenClaim := { program := "ytnknhfhllifnhaa", sum := "02fee7ab1bb1467d12ca25451a644d3c9ee83ea0381a8ca9c66d2f684d8b99bc", func := "loop.example/g01226/laws.FnMoved", spec := "fnMoved", inPlace := ["math.Float64bits", "math.Float64frombits", "math.archFloor", "math.archTrunc"], unfollowed := true, recurses := true, apart := false }
def FnMovedSaid : Prop := fnMovedRow.holds Try.pinned (OpenSpec.ofChange fnMovedSpec)

/-- ITS FALSE NEIGHBOUR: 'it returns false'. Refute it at one input. -/
def fnMovedWrong : ChangeSpec := { name := "fnMoved", fn := fun _ => fun
  | [d1, d2] => { results := [.lit (.bool false)], args := [d1, d2] }
  | _ => none }
def FnMovedWrongFalsely : Prop := fnMovedRow.holds Try.pinned (OpenSpec.ofChange fnMovedWrong)

/-- 'laws.FnSorted': WHATEVER THE INPUT: true; the input reads as it did. -/
def fnSortedSpec : ChangeSpec := { name := "fnSorted", fn := fun _ => fun
  | [d1, d2] => { results := [.lit (.bool true)], args := [d1, d2] }
  | _ => none }
def fnSortedRow : OpenClaim := { program := "ytnknhfhllifnhaa", sum := "02fee7ab1bb1467d12ca25451a644d3c9ee83ea0381a8ca9c66d2f684d8b99bc", func := "loop.example/g01226/laws.FnSorted", spec := "fnSorted", inPlace := ["math.Float64bits", "math.Float64frombits", "math.archFloor", "math.archTrunc", "math.Float32bits"], unfollowed := true, recurses := true, apart := false }
def FnSortedSaid : Prop := fnSortedRow.holds Try.pinned (OpenSpec.ofChange fnSortedSpec)

/-- ITS FALSE NEIGHBOUR: 'it returns false'. Refute it at one input. -/
def fnSortedWrong : ChangeSpec := { name := "fnSorted", fn := fun _ => fun
  | [d1, d2] => { results := [.lit (.bool false)], args := [d1, d2] }
  | _ => none }
def FnSortedWrongFalsely : Prop := fnSortedRow.holds Try.pinned (OpenSpec.ofChange fnSortedWrong)

/-- 'laws.FnCrowds': WHATEVER THE INPUT: true; the input reads as it did. -/
def fnCrowdsSpec : ChangeSpec := { name := "fnCrowds", fn := fun _ => fun
  | [d1, d2] => { results := [.lit (.bool true)], args := [d1, d2] }
  | _ => none }
def fnCrowdsRow : OpenClaim := { program := "ytnknhfhllifnhaa", sum := "02fee7ab1bb1467d12ca25451a644d3c9ee83ea0381a8ca9c66d2f684d8b99bc", func := "loop.example/g01226/laws.FnCrowds", spec := "fnCrowds", inPlace := ["math.Float64bits", "math.Float64frombits", "math.archFloor", "math.archTrunc", "math.Float32bits", "math.sqrt"], unfollowed := true, recurses := true, apart := false }
def FnCrowdsSaid : Prop := fnCrowdsRow.holds Try.pinned (OpenSpec.ofChange fnCrowdsSpec)

/-- ITS FALSE NEIGHBOUR: 'it returns false'. Refute it at one input. -/
def fnCrowdsWrong : ChangeSpec := { name := "fnCrowds", fn := fun _ => fun
  | [d1, d2] => { results := [.lit (.bool false)], args := [d1, d2] }
  | _ => none }
def FnCrowdsWrongFalsely : Prop := fnCrowdsRow.holds Try.pinned (OpenSpec.ofChange fnCrowdsWrong)

/-- 'laws.FnSources': WHATEVER THE INPUT: true; the input reads as it did. -/
def fnSourcesSpec : ChangeSpec := { name := "fnSources", fn := fun _ => fun
  | [d1, d2] => { results := [.lit (.bool true)], args := [d1, d2] }
  | _ => none }
def fnSourcesRow : OpenClaim := { program := "ytnknhfhllifnhaa", sum := "02fee7ab1bb1467d12ca25451a644d3c9ee83ea0381a8ca9c66d2f684d8b99bc", func := "loop.example/g01226/laws.FnSources", spec := "fnSources", inPlace := ["math.Float64bits", "math.Float64frombits", "math.sqrt"], unfollowed := true, recurses := true, apart := false }
def FnSourcesSaid : Prop := fnSourcesRow.holds Try.pinned (OpenSpec.ofChange fnSourcesSpec)

/-- ITS FALSE NEIGHBOUR: 'it returns false'. Refute it at one input. -/
def fnSourcesWrong : ChangeSpec := { name := "fnSources", fn := fun _ => fun
  | [d1, d2] => { results := [.lit (.bool false)], args := [d1, d2] }
  | _ => none }
def FnSourcesWrongFalsely : Prop := fnSourcesRow.holds Try.pinned (OpenSpec.ofChange fnSourcesWrong)

/-- 'laws.FnExactLaneSum': WHATEVER THE INPUT: true; the input reads as it did. -/
def fnExactLaneSumSpec : ChangeSpec := { name := "fnExactLaneSum", fn := fun _ => fun
  | [d] => { results := [.lit (.bool true)], args := [d] }
  | _ => none }
def fnExactLaneSumRow : OpenClaim := { program := "ytnknhfhllifnhaa", sum := "02fee7ab1bb1467d12ca25451a644d3c9ee83ea0381a8ca9c66d2f684d8b99bc", func := "loop.example/g01226/laws.FnExactLaneSum", spec := "fnExactLaneSum", apart := false }
def FnExactLaneSumSaid : Prop := fnExactLaneSumRow.holds Try.pinned (OpenSpec.ofChange fnExactLaneSumSpec)

/-- ITS FALSE NEIGHBOUR: 'it returns false'. Refute it at one input. -/
def fnExactLaneSumWrong : ChangeSpec := { name := "fnExactLaneSum", fn := fun _ => fun
  | [d] => { results := [.lit (.bool false)], args := [d] }
  | _ => none }
def FnExactLaneSumWrongFalsely : Prop := fnExactLaneSumRow.holds Try.pinned (OpenSpec.ofChange fnExactLaneSumWrong)

/-- 'laws.FnExactRowsFor': WHATEVER THE INPUT: true; the input reads as it did. -/
def fnExactRowsForSpec : ChangeSpec := { name := "fnExactRowsFor", fn := fun _ => fun
  | [d1, d2] => { results := [.lit (.bool true)], args := [d1, d2] }
  | _ => none }
def fnExactRowsForRow : OpenClaim := { program := "ytnknhfhllifnhaa", sum := "02fee7ab1bb1467d12ca25451a644d3c9ee83ea0381a8ca9c66d2f684d8b99bc", func := "loop.example/g01226/laws.FnExactRowsFor", spec := "fnExactRowsFor", apart := false }
def FnExactRowsForSaid : Prop := fnExactRowsForRow.holds Try.pinned (OpenSpec.ofChange fnExactRowsForSpec)

/-- ITS FALSE NEIGHBOUR: 'it returns false'. Refute it at one input. -/
def fnExactRowsForWrong : ChangeSpec := { name := "fnExactRowsFor", fn := fun _ => fun
  | [d1, d2] => { results := [.lit (.bool false)], args := [d1, d2] }
  | _ => none }
def FnExactRowsForWrongFalsely : Prop := fnExactRowsForRow.holds Try.pinned (OpenSpec.ofChange fnExactRowsForWrong)

/- THE SECOND FORM. 'bulk': how many values and letters a reading holds, each counted each time it is reached (what is shared counts as often as it is met; a slice's spare places count too). A statement '..UptoSaid' is the law's where the arguments, and the package variables that the reading takes, are together of bulk at most 1048576: NARROWER than '..Said'. Prove '..Said' where nothing that the law and all that it calls make is longer than what came in: it says more and counts as full. Else prove '..UptoSaid'. A law counts once. -/
mutual
def uptoBulk {H : Type} : DataW H → Nat
  | .lit (.string bytes) => bytes.length + 1
  | .lit _ => 1
  | .nil => 1
  | .ptr d => uptoBulk d + 1
  | .slice elems spare => uptoBulkAll elems + uptoBulkAll spare + 1
  | .agg parts => uptoBulkAll parts + 1
  | .iface _ d => uptoBulk d + 1
  | .map entries => uptoBulkEntries entries + 1
  | .held _ => 1
def uptoBulkAll {H : Type} : List (DataW H) → Nat
  | [] => 0
  | d :: r => uptoBulk d + uptoBulkAll r
def uptoBulkEntries {H : Type} : List (Lit × DataW H) → Nat
  | [] => 0
  | x :: r => uptoBulkEntry x + uptoBulkEntries r
def uptoBulkEntry {H : Type} : Lit × DataW H → Nat
  | (.string bytes, d) => bytes.length + uptoBulk d + 1
  | (_, d) => uptoBulk d + 1
 end
def uptoSmall : (H : Type) → List (DataW H) → Bool := fun _ ds => decide (uptoBulkAll ds ≤ 1048576)
def OpenSpec.upto (s : _root_.Go.ChangeSpec) : _root_.Go.OpenSpec := { _root_.Go.OpenSpec.ofChange s with cond := some uptoSmall }

/-- 'laws.FnDeposits', WHERE WHAT IT READS IS OF BULK AT MOST 1048576: true; the input reads as it did. -/
def fnDepositsUptoRow : OpenClaim := { program := "ytnknhfhllifnhaa", sum := "02fee7ab1bb1467d12ca25451a644d3c9ee83ea0381a8ca9c66d2f684d8b99bc", func := "loop.example/g01226/laws.FnDeposits", spec := "fnDeposits", inPlace := ["math.Float64bits", "math.Float64frombits", "math.archFloor", "math.archTrunc"], unfollowed := true, recurses := true, apart := false, narrowed := true }
def FnDepositsUptoSaid : Prop := fnDepositsUptoRow.holds Try.pinned (OpenSpec.upto fnDepositsSpec)

/-- 'laws.FnMoved', WHERE WHAT IT READS IS OF BULK AT MOST 1048576: true; the input reads as it did. -/
def fnMovedUptoRow : OpenClaim := { program := "ytnknhfhllifnhaa", sum := "02fee7ab1bb1467d12ca25451a644d3c9ee83ea0381a8ca9c66d2f684d8b99bc", func := "loop.example/g01226/laws.FnMoved", spec := "fnMoved", inPlace := ["math.Float64bits", "math.Float64frombits", "math.archFloor", "math.archTrunc"], unfollowed := true, recurses := true, apart := false, narrowed := true }
def FnMovedUptoSaid : Prop := fnMovedUptoRow.holds Try.pinned (OpenSpec.upto fnMovedSpec)

/-- 'laws.FnSorted', WHERE WHAT IT READS IS OF BULK AT MOST 1048576: true; the input reads as it did. -/
def fnSortedUptoRow : OpenClaim := { program := "ytnknhfhllifnhaa", sum := "02fee7ab1bb1467d12ca25451a644d3c9ee83ea0381a8ca9c66d2f684d8b99bc", func := "loop.example/g01226/laws.FnSorted", spec := "fnSorted", inPlace := ["math.Float64bits", "math.Float64frombits", "math.archFloor", "math.archTrunc", "math.Float32bits"], unfollowed := true, recurses := true, apart := false, narrowed := true }
def FnSortedUptoSaid : Prop := fnSortedUptoRow.holds Try.pinned (OpenSpec.upto fnSortedSpec)

/-- 'laws.FnCrowds', WHERE WHAT IT READS IS OF BULK AT MOST 1048576: true; the input reads as it did. -/
def fnCrowdsUptoRow : OpenClaim := { program := "ytnknhfhllifnhaa", sum := "02fee7ab1bb1467d12ca25451a644d3c9ee83ea0381a8ca9c66d2f684d8b99bc", func := "loop.example/g01226/laws.FnCrowds", spec := "fnCrowds", inPlace := ["math.Float64bits", "math.Float64frombits", "math.archFloor", "math.archTrunc", "math.Float32bits", "math.sqrt"], unfollowed := true, recurses := true, apart := false, narrowed := true }
def FnCrowdsUptoSaid : Prop := fnCrowdsUptoRow.holds Try.pinned (OpenSpec.upto fnCrowdsSpec)

/-- 'laws.FnSources', WHERE WHAT IT READS IS OF BULK AT MOST 1048576: true; the input reads as it did. -/
def fnSourcesUptoRow : OpenClaim := { program := "ytnknhfhllifnhaa", sum := "02fee7ab1bb1467d12ca25451a644d3c9ee83ea0381a8ca9c66d2f684d8b99bc", func := "loop.example/g01226/laws.FnSources", spec := "fnSources", inPlace := ["math.Float64bits", "math.Float64frombits", "math.sqrt"], unfollowed := true, recurses := true, apart := false, narrowed := true }
def FnSourcesUptoSaid : Prop := fnSourcesUptoRow.holds Try.pinned (OpenSpec.upto fnSourcesSpec)

/-- 'laws.FnExactLaneSum', WHERE WHAT IT READS IS OF BULK AT MOST 1048576: true; the input reads as it did. -/
def fnExactLaneSumUptoRow : OpenClaim := { program := "ytnknhfhllifnhaa", sum := "02fee7ab1bb1467d12ca25451a644d3c9ee83ea0381a8ca9c66d2f684d8b99bc", func := "loop.example/g01226/laws.FnExactLaneSum", spec := "fnExactLaneSum", apart := false, narrowed := true }
def FnExactLaneSumUptoSaid : Prop := fnExactLaneSumUptoRow.holds Try.pinned (OpenSpec.upto fnExactLaneSumSpec)

/-- 'laws.FnExactRowsFor', WHERE WHAT IT READS IS OF BULK AT MOST 1048576: true; the input reads as it did. -/
def fnExactRowsForUptoRow : OpenClaim := { program := "ytnknhfhllifnhaa", sum := "02fee7ab1bb1467d12ca25451a644d3c9ee83ea0381a8ca9c66d2f684d8b99bc", func := "loop.example/g01226/laws.FnExactRowsFor", spec := "fnExactRowsFor", apart := false, narrowed := true }
def FnExactRowsForUptoSaid : Prop := fnExactRowsForUptoRow.holds Try.pinned (OpenSpec.upto fnExactRowsForSpec)

end Rows
end Go.Proofs.Ytnknhfhllifnhaa
