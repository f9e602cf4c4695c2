/-
  No cell of these rows narrows 'for every input' (looked for: loops, veiled, ifaces, maps, wideKeys, modest, calm, conditions, laid).
  DERIVED. THE GIVEN ROWS OF THIS SEAT. 12 by the template 'for every input the law returns true; each argument reads behind the call as it read before'; 0 by the template 'total and deterministic' (their statements: YtjfnecmnofcjbaaTotals.lean).
  GIVEN WITH THE SEED: the statements are not yours to turn. If you find one false, say at which input.
  Laid BY PROGRAM, IN A SANDBOX (cutbox-rows.mjs): the forced cells as the released guide's own fill.sh prints them over the translation 8ee0fb858ea68fc5… (all of the seat's roots in one cut). By AI agents, Wed Nov 11 2026. No macro, syntax, notation, axiom, sorry.
-/
import Derived.Test.YtjfnecmnofcjbaaChecked
import GoSem.Claim
import GoSem.ClaimJoined
import GoSem.ClaimMapViews
import Derived.JoinedTies
import Derived.KernelRfl
namespace Go.Proofs.Ytjfnecmnofcjbaa
/- THE CELL 'sum', in the pinned program and in every row, IS THE sha256 OF THE DUMP (.gsa) THAT YtjfnecmnofcjbaaProg.lean LOADS. Nothing in Lean hashes anything: it is a label: what it is worth is what the hold of that sum in a sandbox is worth. -/
noncomputable def Try.pinned : Pinned := { name := "ytjfnecmnofcjbaa", sum := "8ee0fb858ea68fc53083c36abcdfddd5754a92aac8e5a53cca77e07f5184b7a7", checked := Try.checked }
namespace Rows
def none {H : Type} : Left H := { results := [], args := [] }

/-- 'laws.FnExactSweepColour': WHATEVER THE INPUT: true; the input reads as it did. -/
def fnExactSweepColourSpec : ChangeSpec := { name := "fnExactSweepColour", fn := fun _ => fun
  | [d1, d2, d3, d4] => { results := [.lit (.bool true)], args := [d1, d2, d3, d4] }
  | _ => none }
def fnExactSweepColourRow : OpenClaim := { program := "ytjfnecmnofcjbaa", sum := "8ee0fb858ea68fc53083c36abcdfddd5754a92aac8e5a53cca77e07f5184b7a7", func := "loop.example/g01226/laws.FnExactSweepColour", spec := "fnExactSweepColour", unfollowed := true, recurses := true, leaving := true, apart := false }
def FnExactSweepColourSaid : Prop := fnExactSweepColourRow.holds Try.pinned (OpenSpec.ofChange fnExactSweepColourSpec)

/-- ITS FALSE NEIGHBOUR: 'it returns false'. Refute it at one input. -/
def fnExactSweepColourWrong : ChangeSpec := { name := "fnExactSweepColour", fn := fun _ => fun
  | [d1, d2, d3, d4] => { results := [.lit (.bool false)], args := [d1, d2, d3, d4] }
  | _ => none }
def FnExactSweepColourWrongFalsely : Prop := fnExactSweepColourRow.holds Try.pinned (OpenSpec.ofChange fnExactSweepColourWrong)

/-- 'laws.FnExactSolvePotential': WHATEVER THE INPUT: true; the input reads as it did. -/
def fnExactSolvePotentialSpec : ChangeSpec := { name := "fnExactSolvePotential", fn := fun _ => fun
  | [d1, d2, d3] => { results := [.lit (.bool true)], args := [d1, d2, d3] }
  | _ => none }
def fnExactSolvePotentialRow : OpenClaim := { program := "ytjfnecmnofcjbaa", sum := "8ee0fb858ea68fc53083c36abcdfddd5754a92aac8e5a53cca77e07f5184b7a7", func := "loop.example/g01226/laws.FnExactSolvePotential", spec := "fnExactSolvePotential", unfollowed := true, recurses := true, leaving := true, apart := false }
def FnExactSolvePotentialSaid : Prop := fnExactSolvePotentialRow.holds Try.pinned (OpenSpec.ofChange fnExactSolvePotentialSpec)

/-- ITS FALSE NEIGHBOUR: 'it returns false'. Refute it at one input. -/
def fnExactSolvePotentialWrong : ChangeSpec := { name := "fnExactSolvePotential", fn := fun _ => fun
  | [d1, d2, d3] => { results := [.lit (.bool false)], args := [d1, d2, d3] }
  | _ => none }
def FnExactSolvePotentialWrongFalsely : Prop := fnExactSolvePotentialRow.holds Try.pinned (OpenSpec.ofChange fnExactSolvePotentialWrong)

/-- 'laws.FnExactTwoGrids': WHATEVER THE INPUT: true; the input reads as it did. -/
def fnExactTwoGridsSpec : ChangeSpec := { name := "fnExactTwoGrids", fn := fun _ => fun
  | [d1, d2, d3, d4] => { results := [.lit (.bool true)], args := [d1, d2, d3, d4] }
  | _ => none }
def fnExactTwoGridsRow : OpenClaim := { program := "ytjfnecmnofcjbaa", sum := "8ee0fb858ea68fc53083c36abcdfddd5754a92aac8e5a53cca77e07f5184b7a7", func := "loop.example/g01226/laws.FnExactTwoGrids", spec := "fnExactTwoGrids", unfollowed := true, recurses := true, leaving := true, apart := false }
def FnExactTwoGridsSaid : Prop := fnExactTwoGridsRow.holds Try.pinned (OpenSpec.ofChange fnExactTwoGridsSpec)

/-- ITS FALSE NEIGHBOUR: 'it returns false'. Refute it at one input. -/
def fnExactTwoGridsWrong : ChangeSpec := { name := "fnExactTwoGrids", fn := fun _ => fun
  | [d1, d2, d3, d4] => { results := [.lit (.bool false)], args := [d1, d2, d3, d4] }
  | _ => none }
def FnExactTwoGridsWrongFalsely : Prop := fnExactTwoGridsRow.holds Try.pinned (OpenSpec.ofChange fnExactTwoGridsWrong)

/-- 'laws.FnExactSweepRows': WHATEVER THE INPUT: true; the input reads as it did. -/
def fnExactSweepRowsSpec : ChangeSpec := { name := "fnExactSweepRows", fn := fun _ => fun
  | [d1, d2, d3] => { results := [.lit (.bool true)], args := [d1, d2, d3] }
  | _ => none }
def fnExactSweepRowsRow : OpenClaim := { program := "ytjfnecmnofcjbaa", sum := "8ee0fb858ea68fc53083c36abcdfddd5754a92aac8e5a53cca77e07f5184b7a7", func := "loop.example/g01226/laws.FnExactSweepRows", spec := "fnExactSweepRows", apart := false }
def FnExactSweepRowsSaid : Prop := fnExactSweepRowsRow.holds Try.pinned (OpenSpec.ofChange fnExactSweepRowsSpec)

/-- ITS FALSE NEIGHBOUR: 'it returns false'. Refute it at one input. -/
def fnExactSweepRowsWrong : ChangeSpec := { name := "fnExactSweepRows", fn := fun _ => fun
  | [d1, d2, d3] => { results := [.lit (.bool false)], args := [d1, d2, d3] }
  | _ => none }
def FnExactSweepRowsWrongFalsely : Prop := fnExactSweepRowsRow.holds Try.pinned (OpenSpec.ofChange fnExactSweepRowsWrong)

/-- 'laws.FnExactSpringField': WHATEVER THE INPUT: true; the input reads as it did. -/
def fnExactSpringFieldSpec : ChangeSpec := { name := "fnExactSpringField", fn := fun _ => fun
  | [d1, d2] => { results := [.lit (.bool true)], args := [d1, d2] }
  | _ => none }
def fnExactSpringFieldRow : OpenClaim := { program := "ytjfnecmnofcjbaa", sum := "8ee0fb858ea68fc53083c36abcdfddd5754a92aac8e5a53cca77e07f5184b7a7", func := "loop.example/g01226/laws.FnExactSpringField", spec := "fnExactSpringField", inPlace := ["math.Float64bits", "math.Float64frombits"], unfollowed := true, recurses := true, leaving := true, apart := false }
def FnExactSpringFieldSaid : Prop := fnExactSpringFieldRow.holds Try.pinned (OpenSpec.ofChange fnExactSpringFieldSpec)

/-- ITS FALSE NEIGHBOUR: 'it returns false'. Refute it at one input. -/
def fnExactSpringFieldWrong : ChangeSpec := { name := "fnExactSpringField", fn := fun _ => fun
  | [d1, d2] => { results := [.lit (.bool false)], args := [d1, d2] }
  | _ => none }
def FnExactSpringFieldWrongFalsely : Prop := fnExactSpringFieldRow.holds Try.pinned (OpenSpec.ofChange fnExactSpringFieldWrong)

/-- 'laws.FnWaysShort': WHATEVER THE INPUT: true; the input reads as it did. -/
def fnWaysShortSpec : ChangeSpec := { name := "fnWaysShort", fn := fun _ => fun
  | [d1, d2] => { results := [.lit (.bool true)], args := [d1, d2] }
  | _ => none }
def fnWaysShortRow : OpenClaim := { program := "ytjfnecmnofcjbaa", sum := "8ee0fb858ea68fc53083c36abcdfddd5754a92aac8e5a53cca77e07f5184b7a7", func := "loop.example/g01226/laws.FnWaysShort", spec := "fnWaysShort", inPlace := ["math.Float64bits", "math.Float64frombits", "math.archFloor", "math.archTrunc", "math.Float32bits"], unfollowed := true, recurses := true, leaving := true, apart := false }
def FnWaysShortSaid : Prop := fnWaysShortRow.holds Try.pinned (OpenSpec.ofChange fnWaysShortSpec)

/-- ITS FALSE NEIGHBOUR: 'it returns false'. Refute it at one input. -/
def fnWaysShortWrong : ChangeSpec := { name := "fnWaysShort", fn := fun _ => fun
  | [d1, d2] => { results := [.lit (.bool false)], args := [d1, d2] }
  | _ => none }
def FnWaysShortWrongFalsely : Prop := fnWaysShortRow.holds Try.pinned (OpenSpec.ofChange fnWaysShortWrong)

/-- 'laws.FnDeposits': WHATEVER THE INPUT: true; the input reads as it did. -/
def fnDepositsSpec : ChangeSpec := { name := "fnDeposits", fn := fun _ => fun
  | [d1, d2] => { results := [.lit (.bool true)], args := [d1, d2] }
  | _ => none }
def fnDepositsRow : OpenClaim := { program := "ytjfnecmnofcjbaa", sum := "8ee0fb858ea68fc53083c36abcdfddd5754a92aac8e5a53cca77e07f5184b7a7", func := "loop.example/g01226/laws.FnDeposits", spec := "fnDeposits", inPlace := ["math.Float64bits", "math.Float64frombits", "math.archFloor", "math.archTrunc"], unfollowed := true, recurses := true, leaving := true, apart := false }
def FnDepositsSaid : Prop := fnDepositsRow.holds Try.pinned (OpenSpec.ofChange fnDepositsSpec)

/-- ITS FALSE NEIGHBOUR: 'it returns false'. Refute it at one input. -/
def fnDepositsWrong : ChangeSpec := { name := "fnDeposits", fn := fun _ => fun
  | [d1, d2] => { results := [.lit (.bool false)], args := [d1, d2] }
  | _ => none }
def FnDepositsWrongFalsely : Prop := fnDepositsRow.holds Try.pinned (OpenSpec.ofChange fnDepositsWrong)

/-- 'laws.FnPushes': WHATEVER THE INPUT: true; the input reads as it did. -/
def fnPushesSpec : ChangeSpec := { name := "fnPushes", fn := fun _ => fun
  | [d1, d2] => { results := [.lit (.bool true)], args := [d1, d2] }
  | _ => none }
def fnPushesRow : OpenClaim := { program := "ytjfnecmnofcjbaa", sum := "8ee0fb858ea68fc53083c36abcdfddd5754a92aac8e5a53cca77e07f5184b7a7", func := "loop.example/g01226/laws.FnPushes", spec := "fnPushes", inPlace := ["math.Float64bits", "math.Float64frombits", "math.sqrt"], apart := false }
def FnPushesSaid : Prop := fnPushesRow.holds Try.pinned (OpenSpec.ofChange fnPushesSpec)

/-- ITS FALSE NEIGHBOUR: 'it returns false'. Refute it at one input. -/
def fnPushesWrong : ChangeSpec := { name := "fnPushes", fn := fun _ => fun
  | [d1, d2] => { results := [.lit (.bool false)], args := [d1, d2] }
  | _ => none }
def FnPushesWrongFalsely : Prop := fnPushesRow.holds Try.pinned (OpenSpec.ofChange fnPushesWrong)

/-- 'laws.FnStarts': WHATEVER THE INPUT: true; the input reads as it did. -/
def fnStartsSpec : ChangeSpec := { name := "fnStarts", fn := fun _ => fun
  | [d1, d2] => { results := [.lit (.bool true)], args := [d1, d2] }
  | _ => none }
def fnStartsRow : OpenClaim := { program := "ytjfnecmnofcjbaa", sum := "8ee0fb858ea68fc53083c36abcdfddd5754a92aac8e5a53cca77e07f5184b7a7", func := "loop.example/g01226/laws.FnStarts", spec := "fnStarts", inPlace := ["math.Float64bits", "math.Float64frombits", "math.sqrt", "math.archFloor", "math.archTrunc"], unfollowed := true, recurses := true, leaving := true, apart := false }
def FnStartsSaid : Prop := fnStartsRow.holds Try.pinned (OpenSpec.ofChange fnStartsSpec)

/-- ITS FALSE NEIGHBOUR: 'it returns false'. Refute it at one input. -/
def fnStartsWrong : ChangeSpec := { name := "fnStarts", fn := fun _ => fun
  | [d1, d2] => { results := [.lit (.bool false)], args := [d1, d2] }
  | _ => none }
def FnStartsWrongFalsely : Prop := fnStartsRow.holds Try.pinned (OpenSpec.ofChange fnStartsWrong)

/-- 'laws.FnCircles': WHATEVER THE INPUT: true; the input reads as it did. -/
def fnCirclesSpec : ChangeSpec := { name := "fnCircles", fn := fun _ => fun
  | [d1, d2] => { results := [.lit (.bool true)], args := [d1, d2] }
  | _ => none }
def fnCirclesRow : OpenClaim := { program := "ytjfnecmnofcjbaa", sum := "8ee0fb858ea68fc53083c36abcdfddd5754a92aac8e5a53cca77e07f5184b7a7", func := "loop.example/g01226/laws.FnCircles", spec := "fnCircles", inPlace := ["math.Float64bits", "math.Float64frombits", "math.sqrt", "math.archFloor", "math.archTrunc", "math.Float32bits"], apart := false }
def FnCirclesSaid : Prop := fnCirclesRow.holds Try.pinned (OpenSpec.ofChange fnCirclesSpec)

/-- ITS FALSE NEIGHBOUR: 'it returns false'. Refute it at one input. -/
def fnCirclesWrong : ChangeSpec := { name := "fnCircles", fn := fun _ => fun
  | [d1, d2] => { results := [.lit (.bool false)], args := [d1, d2] }
  | _ => none }
def FnCirclesWrongFalsely : Prop := fnCirclesRow.holds Try.pinned (OpenSpec.ofChange fnCirclesWrong)

/-- 'laws.FnExactSweepShared': WHATEVER THE INPUT: true; the input reads as it did. -/
def fnExactSweepSharedSpec : ChangeSpec := { name := "fnExactSweepShared", fn := fun _ => fun
  | [d1, d2, d3, d4, d5] => { results := [.lit (.bool true)], args := [d1, d2, d3, d4, d5] }
  | _ => none }
def fnExactSweepSharedRow : OpenClaim := { program := "ytjfnecmnofcjbaa", sum := "8ee0fb858ea68fc53083c36abcdfddd5754a92aac8e5a53cca77e07f5184b7a7", func := "loop.example/g01226/laws.FnExactSweepShared", spec := "fnExactSweepShared", inPlace := ["(*sync.WaitGroup).Go", "(*sync.WaitGroup).Add", "internal/race.ReleaseMerge", "internal/race.Disable", "internal/race.Enable", "internal/synctest.IsInBubble", "internal/synctest.Associate[sync.WaitGroup]", "sync.fatal", "sync/atomic.OrUint64", "sync/atomic.AddUint64", "internal/race.Read", "sync/atomic.LoadUint64", "sync/atomic.StoreUint64", "internal/synctest.Disassociate[sync.WaitGroup]", "sync.runtime_Semrelease", "(*sync.WaitGroup).Go$1", "(*sync.WaitGroup).Go$1$1", "(*sync.WaitGroup).Done", "(*sync.WaitGroup).Wait", "internal/race.Acquire", "internal/synctest.IsAssociated[sync.WaitGroup]", "sync/atomic.CompareAndSwapUint64", "internal/race.Write", "sync.runtime_SemacquireWaitGroup"], unfollowed := true, recurses := true, leaving := true, apart := false }
def FnExactSweepSharedSaid : Prop := fnExactSweepSharedRow.holds Try.pinned (OpenSpec.ofChange fnExactSweepSharedSpec)

/-- ITS FALSE NEIGHBOUR: 'it returns false'. Refute it at one input. -/
def fnExactSweepSharedWrong : ChangeSpec := { name := "fnExactSweepShared", fn := fun _ => fun
  | [d1, d2, d3, d4, d5] => { results := [.lit (.bool false)], args := [d1, d2, d3, d4, d5] }
  | _ => none }
def FnExactSweepSharedWrongFalsely : Prop := fnExactSweepSharedRow.holds Try.pinned (OpenSpec.ofChange fnExactSweepSharedWrong)

/-- 'laws.FnRows': WHATEVER THE INPUT: true; the input reads as it did. -/
def fnRowsSpec : ChangeSpec := { name := "fnRows", fn := fun _ => fun
  | [d1, d2] => { results := [.lit (.bool true)], args := [d1, d2] }
  | _ => none }
def fnRowsRow : OpenClaim := { program := "ytjfnecmnofcjbaa", sum := "8ee0fb858ea68fc53083c36abcdfddd5754a92aac8e5a53cca77e07f5184b7a7", func := "loop.example/g01226/laws.FnRows", spec := "fnRows", unfollowed := true, recurses := true, leaving := true, apart := false }
def FnRowsSaid : Prop := fnRowsRow.holds Try.pinned (OpenSpec.ofChange fnRowsSpec)

/-- ITS FALSE NEIGHBOUR: 'it returns false'. Refute it at one input. -/
def fnRowsWrong : ChangeSpec := { name := "fnRows", fn := fun _ => fun
  | [d1, d2] => { results := [.lit (.bool false)], args := [d1, d2] }
  | _ => none }
def FnRowsWrongFalsely : Prop := fnRowsRow.holds Try.pinned (OpenSpec.ofChange fnRowsWrong)

/- THE SECOND FORM. 'bulk': how many values and letters a reading holds, each counted each time it is reached (what is shared counts as often as it is met; a slice's spare places count too). A statement '..UptoSaid' is the law's where the arguments, and the package variables that the reading takes, are together of bulk at most 1048576: NARROWER than '..Said'. Prove '..Said' where nothing that the law and all that it calls make is longer than what came in: it says more and counts as full. Else prove '..UptoSaid'. A law counts once. -/
mutual
def uptoBulk {H : Type} : DataW H → Nat
  | .lit (.string bytes) => bytes.length + 1
  | .lit _ => 1
  | .nil => 1
  | .ptr d => uptoBulk d + 1
  | .slice elems spare => uptoBulkAll elems + uptoBulkAll spare + 1
  | .agg parts => uptoBulkAll parts + 1
  | .iface _ d => uptoBulk d + 1
  | .map entries => uptoBulkEntries entries + 1
  | .held _ => 1
def uptoBulkAll {H : Type} : List (DataW H) → Nat
  | [] => 0
  | d :: r => uptoBulk d + uptoBulkAll r
def uptoBulkEntries {H : Type} : List (Lit × DataW H) → Nat
  | [] => 0
  | x :: r => uptoBulkEntry x + uptoBulkEntries r
def uptoBulkEntry {H : Type} : Lit × DataW H → Nat
  | (.string bytes, d) => bytes.length + uptoBulk d + 1
  | (_, d) => uptoBulk d + 1
 end
def uptoSmall : (H : Type) → List (DataW H) → Bool := fun _ ds => decide (uptoBulkAll ds ≤ 1048576)
def OpenSpec.upto (s : _root_.Go.ChangeSpec) : _root_.Go.OpenSpec := { _root_.Go.OpenSpec.ofChange s with cond := some uptoSmall }

/-- 'laws.FnExactSweepColour', WHERE WHAT IT READS IS OF BULK AT MOST 1048576: true; the input reads as it did. -/
def fnExactSweepColourUptoRow : OpenClaim := { program := "ytjfnecmnofcjbaa", sum := "8ee0fb858ea68fc53083c36abcdfddd5754a92aac8e5a53cca77e07f5184b7a7", func := "loop.example/g01226/laws.FnExactSweepColour", spec := "fnExactSweepColour", unfollowed := true, recurses := true, leaving := true, apart := false, narrowed := true }
def FnExactSweepColourUptoSaid : Prop := fnExactSweepColourUptoRow.holds Try.pinned (OpenSpec.upto fnExactSweepColourSpec)

/-- 'laws.FnExactSolvePotential', WHERE WHAT IT READS IS OF BULK AT MOST 1048576: true; the input reads as it did. -/
def fnExactSolvePotentialUptoRow : OpenClaim := { program := "ytjfnecmnofcjbaa", sum := "8ee0fb858ea68fc53083c36abcdfddd5754a92aac8e5a53cca77e07f5184b7a7", func := "loop.example/g01226/laws.FnExactSolvePotential", spec := "fnExactSolvePotential", unfollowed := true, recurses := true, leaving := true, apart := false, narrowed := true }
def FnExactSolvePotentialUptoSaid : Prop := fnExactSolvePotentialUptoRow.holds Try.pinned (OpenSpec.upto fnExactSolvePotentialSpec)

/-- 'laws.FnExactTwoGrids', WHERE WHAT IT READS IS OF BULK AT MOST 1048576: true; the input reads as it did. -/
def fnExactTwoGridsUptoRow : OpenClaim := { program := "ytjfnecmnofcjbaa", sum := "8ee0fb858ea68fc53083c36abcdfddd5754a92aac8e5a53cca77e07f5184b7a7", func := "loop.example/g01226/laws.FnExactTwoGrids", spec := "fnExactTwoGrids", unfollowed := true, recurses := true, leaving := true, apart := false, narrowed := true }
def FnExactTwoGridsUptoSaid : Prop := fnExactTwoGridsUptoRow.holds Try.pinned (OpenSpec.upto fnExactTwoGridsSpec)

/-- 'laws.FnExactSweepRows', WHERE WHAT IT READS IS OF BULK AT MOST 1048576: true; the input reads as it did. -/
def fnExactSweepRowsUptoRow : OpenClaim := { program := "ytjfnecmnofcjbaa", sum := "8ee0fb858ea68fc53083c36abcdfddd5754a92aac8e5a53cca77e07f5184b7a7", func := "loop.example/g01226/laws.FnExactSweepRows", spec := "fnExactSweepRows", apart := false, narrowed := true }
def FnExactSweepRowsUptoSaid : Prop := fnExactSweepRowsUptoRow.holds Try.pinned (OpenSpec.upto fnExactSweepRowsSpec)

/-- 'laws.FnExactSpringField', WHERE WHAT IT READS IS OF BULK AT MOST 1048576: true; the input reads as it did. -/
def fnExactSpringFieldUptoRow : OpenClaim := { program := "ytjfnecmnofcjbaa", sum := "8ee0fb858ea68fc53083c36abcdfddd5754a92aac8e5a53cca77e07f5184b7a7", func := "loop.example/g01226/laws.FnExactSpringField", spec := "fnExactSpringField", inPlace := ["math.Float64bits", "math.Float64frombits"], unfollowed := true, recurses := true, leaving := true, apart := false, narrowed := true }
def FnExactSpringFieldUptoSaid : Prop := fnExactSpringFieldUptoRow.holds Try.pinned (OpenSpec.upto fnExactSpringFieldSpec)

/-- 'laws.FnWaysShort', WHERE WHAT IT READS IS OF BULK AT MOST 1048576: true; the input reads as it did. -/
def fnWaysShortUptoRow : OpenClaim := { program := "ytjfnecmnofcjbaa", sum := "8ee0fb858ea68fc53083c36abcdfddd5754a92aac8e5a53cca77e07f5184b7a7", func := "loop.example/g01226/laws.FnWaysShort", spec := "fnWaysShort", inPlace := ["math.Float64bits", "math.Float64frombits", "math.archFloor", "math.archTrunc", "math.Float32bits"], unfollowed := true, recurses := true, leaving := true, apart := false, narrowed := true }
def FnWaysShortUptoSaid : Prop := fnWaysShortUptoRow.holds Try.pinned (OpenSpec.upto fnWaysShortSpec)

/-- 'laws.FnDeposits', WHERE WHAT IT READS IS OF BULK AT MOST 1048576: true; the input reads as it did. -/
def fnDepositsUptoRow : OpenClaim := { program := "ytjfnecmnofcjbaa", sum := "8ee0fb858ea68fc53083c36abcdfddd5754a92aac8e5a53cca77e07f5184b7a7", func := "loop.example/g01226/laws.FnDeposits", spec := "fnDeposits", inPlace := ["math.Float64bits", "math.Float64frombits", "math.archFloor", "math.archTrunc"], unfollowed := true, recurses := true, leaving := true, apart := false, narrowed := true }
def FnDepositsUptoSaid : Prop := fnDepositsUptoRow.holds Try.pinned (OpenSpec.upto fnDepositsSpec)

/-- 'laws.FnPushes', WHERE WHAT IT READS IS OF BULK AT MOST 1048576: true; the input reads as it did. -/
def fnPushesUptoRow : OpenClaim := { program := "ytjfnecmnofcjbaa", sum := "8ee0fb858ea68fc53083c36abcdfddd5754a92aac8e5a53cca77e07f5184b7a7", func := "loop.example/g01226/laws.FnPushes", spec := "fnPushes", inPlace := ["math.Float64bits", "math.Float64frombits", "math.sqrt"], apart := false, narrowed := true }
def FnPushesUptoSaid : Prop := fnPushesUptoRow.holds Try.pinned (OpenSpec.upto fnPushesSpec)

/-- 'laws.FnStarts', WHERE WHAT IT READS IS OF BULK AT MOST 1048576: true; the input reads as it did. -/
def fnStartsUptoRow : OpenClaim := { program := "ytjfnecmnofcjbaa", sum := "8ee0fb858ea68fc53083c36abcdfddd5754a92aac8e5a53cca77e07f5184b7a7", func := "loop.example/g01226/laws.FnStarts", spec := "fnStarts", inPlace := ["math.Float64bits", "math.Float64frombits", "math.sqrt", "math.archFloor", "math.archTrunc"], unfollowed := true, recurses := true, leaving := true, apart := false, narrowed := true }
def FnStartsUptoSaid : Prop := fnStartsUptoRow.holds Try.pinned (OpenSpec.upto fnStartsSpec)

/-- 'laws.FnCircles', WHERE WHAT IT READS IS OF BULK AT MOST 1048576: true; the input reads as it did. -/
def fnCirclesUptoRow : OpenClaim := { program := "ytjfnecmnofcjbaa", sum := "8ee0fb858ea68fc53083c36abcdfddd5754a92aac8e5a53cca77e07f5184b7a7", func := "loop.example/g01226/laws.FnCircles", spec := "fnCircles", inPlace := ["math.Float64bits", "math.Float64frombits", "math.sqrt", "math.archFloor", "math.archTrunc", "math.Float32bits"], apart := false, narrowed := true }
def FnCirclesUptoSaid : Prop := fnCirclesUptoRow.holds Try.pinned (OpenSpec.upto fnCirclesSpec)

/-- 'laws.FnExactSweepShared', WHERE WHAT IT READS IS OF BULK AT MOST 1048576: true; the input reads as it did. -/
def fnExactSweepSharedUptoRow : OpenClaim := { program := "ytjfnecmnofcjbaa", sum := "8ee0fb858ea68fc53083c36abcdfddd5754a92aac8e5a53cca77e07f5184b7a7", func := "loop.example/g01226/laws.FnExactSweepShared", spec := "fnExactSweepShared", inPlace := ["(*sync.WaitGroup).Go", "(*sync.WaitGroup).Add", "internal/race.ReleaseMerge", "internal/race.Disable", "internal/race.Enable", "internal/synctest.IsInBubble", "internal/synctest.Associate[sync.WaitGroup]", "sync.fatal", "sync/atomic.OrUint64", "sync/atomic.AddUint64", "internal/race.Read", "sync/atomic.LoadUint64", "sync/atomic.StoreUint64", "internal/synctest.Disassociate[sync.WaitGroup]", "sync.runtime_Semrelease", "(*sync.WaitGroup).Go$1", "(*sync.WaitGroup).Go$1$1", "(*sync.WaitGroup).Done", "(*sync.WaitGroup).Wait", "internal/race.Acquire", "internal/synctest.IsAssociated[sync.WaitGroup]", "sync/atomic.CompareAndSwapUint64", "internal/race.Write", "sync.runtime_SemacquireWaitGroup"], unfollowed := true, recurses := true, leaving := true, apart := false, narrowed := true }
def FnExactSweepSharedUptoSaid : Prop := fnExactSweepSharedUptoRow.holds Try.pinned (OpenSpec.upto fnExactSweepSharedSpec)

/-- 'laws.FnRows', WHERE WHAT IT READS IS OF BULK AT MOST 1048576: true; the input reads as it did. -/
def fnRowsUptoRow : OpenClaim := { program := "ytjfnecmnofcjbaa", sum := "8ee0fb858ea68fc53083c36abcdfddd5754a92aac8e5a53cca77e07f5184b7a7", func := "loop.example/g01226/laws.FnRows", spec := "fnRows", unfollowed := true, recurses := true, leaving := true, apart := false, narrowed := true }
def FnRowsUptoSaid : Prop := fnRowsUptoRow.holds Try.pinned (OpenSpec.upto fnRowsSpec)

end Rows
end Go.Proofs.Ytjfnecmnofcjbaa
