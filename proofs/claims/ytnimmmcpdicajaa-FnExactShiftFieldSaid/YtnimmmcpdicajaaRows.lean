/-
  No cell of these rows narrows 'for every input' (looked for: loops, veiled, ifaces, maps, wideKeys, modest, calm, conditions, laid).
  DERIVED. THE GIVEN ROWS OF THIS SEAT. 10 by the template 'for every input the law returns true; each argument reads behind the call as it read before'; 0 by the template 'total and deterministic' (their statements: YtnimmmcpdicajaaTotals.lean).
  GIVEN WITH THE SEED: the statements are not yours to turn. If you find one false, say at which input.
  Laid BY PROGRAM, IN A SANDBOX (cutbox-rows.mjs): the forced cells as the released guide's own fill.sh prints them over the translation ae19476cc7ea05f6… (all of the seat's roots in one cut). By AI agents, Wed Nov 11 2026. No macro, syntax, notation, axiom, sorry.
-/
import Derived.Test.YtnimmmcpdicajaaChecked
import GoSem.Claim
import GoSem.ClaimJoined
import GoSem.ClaimMapViews
import Derived.JoinedTies
import Derived.KernelRfl
namespace Go.Proofs.Ytnimmmcpdicajaa
/- THE CELL 'sum', in the pinned program and in every row, IS THE sha256 OF THE DUMP (.gsa) THAT YtnimmmcpdicajaaProg.lean LOADS. Nothing in Lean hashes anything: it is a label: what it is worth is what the hold of that sum in a sandbox is worth. -/
noncomputable def Try.pinned : Pinned := { name := "ytnimmmcpdicajaa", sum := "ae19476cc7ea05f620a2abff4b04aa1bc3a2febe52d70efaa6204c8ebfb7047d", checked := Try.checked }
namespace Rows
def none {H : Type} : Left H := { results := [], args := [] }

/-- 'laws.FnExactValidGrid': WHATEVER THE INPUT: true; the input reads as it did. -/
def fnExactValidGridSpec : ChangeSpec := { name := "fnExactValidGrid", fn := fun _ => fun
  | [d] => { results := [.lit (.bool true)], args := [d] }
  | _ => none }
def fnExactValidGridRow : OpenClaim := { program := "ytnimmmcpdicajaa", sum := "ae19476cc7ea05f620a2abff4b04aa1bc3a2febe52d70efaa6204c8ebfb7047d", func := "loop.example/g01226/laws.FnExactValidGrid", spec := "fnExactValidGrid", apart := false }
def FnExactValidGridSaid : Prop := fnExactValidGridRow.holds Try.pinned (OpenSpec.ofChange fnExactValidGridSpec)

/-- ITS FALSE NEIGHBOUR: 'it returns false'. Refute it at one input. -/
def fnExactValidGridWrong : ChangeSpec := { name := "fnExactValidGrid", fn := fun _ => fun
  | [d] => { results := [.lit (.bool false)], args := [d] }
  | _ => none }
def FnExactValidGridWrongFalsely : Prop := fnExactValidGridRow.holds Try.pinned (OpenSpec.ofChange fnExactValidGridWrong)

/-- 'laws.FnExactIsField': WHATEVER THE INPUT: true; the input reads as it did. -/
def fnExactIsFieldSpec : ChangeSpec := { name := "fnExactIsField", fn := fun _ => fun
  | [d1, d2] => { results := [.lit (.bool true)], args := [d1, d2] }
  | _ => none }
def fnExactIsFieldRow : OpenClaim := { program := "ytnimmmcpdicajaa", sum := "ae19476cc7ea05f620a2abff4b04aa1bc3a2febe52d70efaa6204c8ebfb7047d", func := "loop.example/g01226/laws.FnExactIsField", spec := "fnExactIsField", apart := false }
def FnExactIsFieldSaid : Prop := fnExactIsFieldRow.holds Try.pinned (OpenSpec.ofChange fnExactIsFieldSpec)

/-- ITS FALSE NEIGHBOUR: 'it returns false'. Refute it at one input. -/
def fnExactIsFieldWrong : ChangeSpec := { name := "fnExactIsField", fn := fun _ => fun
  | [d1, d2] => { results := [.lit (.bool false)], args := [d1, d2] }
  | _ => none }
def FnExactIsFieldWrongFalsely : Prop := fnExactIsFieldRow.holds Try.pinned (OpenSpec.ofChange fnExactIsFieldWrong)

/-- 'laws.FnExactAddFields': WHATEVER THE INPUT: true; the input reads as it did. -/
def fnExactAddFieldsSpec : ChangeSpec := { name := "fnExactAddFields", fn := fun _ => fun
  | [d1, d2, d3] => { results := [.lit (.bool true)], args := [d1, d2, d3] }
  | _ => none }
def fnExactAddFieldsRow : OpenClaim := { program := "ytnimmmcpdicajaa", sum := "ae19476cc7ea05f620a2abff4b04aa1bc3a2febe52d70efaa6204c8ebfb7047d", func := "loop.example/g01226/laws.FnExactAddFields", spec := "fnExactAddFields", apart := false }
def FnExactAddFieldsSaid : Prop := fnExactAddFieldsRow.holds Try.pinned (OpenSpec.ofChange fnExactAddFieldsSpec)

/-- ITS FALSE NEIGHBOUR: 'it returns false'. Refute it at one input. -/
def fnExactAddFieldsWrong : ChangeSpec := { name := "fnExactAddFields", fn := fun _ => fun
  | [d1, d2, d3] => { results := [.lit (.bool false)], args := [d1, d2, d3] }
  | _ => none }
def FnExactAddFieldsWrongFalsely : Prop := fnExactAddFieldsRow.holds Try.pinned (OpenSpec.ofChange fnExactAddFieldsWrong)

/-- 'laws.FnExactScaleField': WHATEVER THE INPUT: true; the input reads as it did. -/
def fnExactScaleFieldSpec : ChangeSpec := { name := "fnExactScaleField", fn := fun _ => fun
  | [d1, d2, d3] => { results := [.lit (.bool true)], args := [d1, d2, d3] }
  | _ => none }
def fnExactScaleFieldRow : OpenClaim := { program := "ytnimmmcpdicajaa", sum := "ae19476cc7ea05f620a2abff4b04aa1bc3a2febe52d70efaa6204c8ebfb7047d", func := "loop.example/g01226/laws.FnExactScaleField", spec := "fnExactScaleField", apart := false }
def FnExactScaleFieldSaid : Prop := fnExactScaleFieldRow.holds Try.pinned (OpenSpec.ofChange fnExactScaleFieldSpec)

/-- ITS FALSE NEIGHBOUR: 'it returns false'. Refute it at one input. -/
def fnExactScaleFieldWrong : ChangeSpec := { name := "fnExactScaleField", fn := fun _ => fun
  | [d1, d2, d3] => { results := [.lit (.bool false)], args := [d1, d2, d3] }
  | _ => none }
def FnExactScaleFieldWrongFalsely : Prop := fnExactScaleFieldRow.holds Try.pinned (OpenSpec.ofChange fnExactScaleFieldWrong)

/-- 'laws.FnExactShiftField': WHATEVER THE INPUT: true; the input reads as it did. -/
def fnExactShiftFieldSpec : ChangeSpec := { name := "fnExactShiftField", fn := fun _ => fun
  | [d1, d2, d3, d4] => { results := [.lit (.bool true)], args := [d1, d2, d3, d4] }
  | _ => none }
def fnExactShiftFieldRow : OpenClaim := { program := "ytnimmmcpdicajaa", sum := "ae19476cc7ea05f620a2abff4b04aa1bc3a2febe52d70efaa6204c8ebfb7047d", func := "loop.example/g01226/laws.FnExactShiftField", spec := "fnExactShiftField", apart := false }
def FnExactShiftFieldSaid : Prop := fnExactShiftFieldRow.holds Try.pinned (OpenSpec.ofChange fnExactShiftFieldSpec)

/-- ITS FALSE NEIGHBOUR: 'it returns false'. Refute it at one input. -/
def fnExactShiftFieldWrong : ChangeSpec := { name := "fnExactShiftField", fn := fun _ => fun
  | [d1, d2, d3, d4] => { results := [.lit (.bool false)], args := [d1, d2, d3, d4] }
  | _ => none }
def FnExactShiftFieldWrongFalsely : Prop := fnExactShiftFieldRow.holds Try.pinned (OpenSpec.ofChange fnExactShiftFieldWrong)

/-- 'laws.FnExactTotalOf': WHATEVER THE INPUT: true; the input reads as it did. -/
def fnExactTotalOfSpec : ChangeSpec := { name := "fnExactTotalOf", fn := fun _ => fun
  | [d] => { results := [.lit (.bool true)], args := [d] }
  | _ => none }
def fnExactTotalOfRow : OpenClaim := { program := "ytnimmmcpdicajaa", sum := "ae19476cc7ea05f620a2abff4b04aa1bc3a2febe52d70efaa6204c8ebfb7047d", func := "loop.example/g01226/laws.FnExactTotalOf", spec := "fnExactTotalOf", apart := false }
def FnExactTotalOfSaid : Prop := fnExactTotalOfRow.holds Try.pinned (OpenSpec.ofChange fnExactTotalOfSpec)

/-- ITS FALSE NEIGHBOUR: 'it returns false'. Refute it at one input. -/
def fnExactTotalOfWrong : ChangeSpec := { name := "fnExactTotalOf", fn := fun _ => fun
  | [d] => { results := [.lit (.bool false)], args := [d] }
  | _ => none }
def FnExactTotalOfWrongFalsely : Prop := fnExactTotalOfRow.holds Try.pinned (OpenSpec.ofChange fnExactTotalOfWrong)

/-- 'laws.FnShares': WHATEVER THE INPUT: true; the input reads as it did. -/
def fnSharesSpec : ChangeSpec := { name := "fnShares", fn := fun _ => fun
  | [d1, d2] => { results := [.lit (.bool true)], args := [d1, d2] }
  | _ => none }
def fnSharesRow : OpenClaim := { program := "ytnimmmcpdicajaa", sum := "ae19476cc7ea05f620a2abff4b04aa1bc3a2febe52d70efaa6204c8ebfb7047d", func := "loop.example/g01226/laws.FnShares", spec := "fnShares", inPlace := ["math.Float64bits", "math.Float64frombits", "math.archFloor", "math.archTrunc"], unfollowed := true, recurses := true, apart := false }
def FnSharesSaid : Prop := fnSharesRow.holds Try.pinned (OpenSpec.ofChange fnSharesSpec)

/-- ITS FALSE NEIGHBOUR: 'it returns false'. Refute it at one input. -/
def fnSharesWrong : ChangeSpec := { name := "fnShares", fn := fun _ => fun
  | [d1, d2] => { results := [.lit (.bool false)], args := [d1, d2] }
  | _ => none }
def FnSharesWrongFalsely : Prop := fnSharesRow.holds Try.pinned (OpenSpec.ofChange fnSharesWrong)

/-- 'laws.FnDeposits': WHATEVER THE INPUT: true; the input reads as it did. -/
def fnDepositsSpec : ChangeSpec := { name := "fnDeposits", fn := fun _ => fun
  | [d1, d2] => { results := [.lit (.bool true)], args := [d1, d2] }
  | _ => none }
def fnDepositsRow : OpenClaim := { program := "ytnimmmcpdicajaa", sum := "ae19476cc7ea05f620a2abff4b04aa1bc3a2febe52d70efaa6204c8ebfb7047d", func := "loop.example/g01226/laws.FnDeposits", spec := "fnDeposits", inPlace := ["math.Float64bits", "math.Float64frombits", "math.archFloor", "math.archTrunc"], unfollowed := true, recurses := true, apart := false }
def FnDepositsSaid : Prop := fnDepositsRow.holds Try.pinned (OpenSpec.ofChange fnDepositsSpec)

/-- ITS FALSE NEIGHBOUR: 'it returns false'. Refute it at one input. -/
def fnDepositsWrong : ChangeSpec := { name := "fnDeposits", fn := fun _ => fun
  | [d1, d2] => { results := [.lit (.bool false)], args := [d1, d2] }
  | _ => none }
def FnDepositsWrongFalsely : Prop := fnDepositsRow.holds Try.pinned (OpenSpec.ofChange fnDepositsWrong)

/-- 'laws.FnWaysShort': WHATEVER THE INPUT: true; the input reads as it did. -/
def fnWaysShortSpec : ChangeSpec := { name := "fnWaysShort", fn := fun _ => fun
  | [d1, d2] => { results := [.lit (.bool true)], args := [d1, d2] }
  | _ => none }
def fnWaysShortRow : OpenClaim := { program := "ytnimmmcpdicajaa", sum := "ae19476cc7ea05f620a2abff4b04aa1bc3a2febe52d70efaa6204c8ebfb7047d", func := "loop.example/g01226/laws.FnWaysShort", spec := "fnWaysShort", inPlace := ["math.Float64bits", "math.Float64frombits", "math.archFloor", "math.archTrunc", "math.Float32bits"], unfollowed := true, recurses := true, apart := false }
def FnWaysShortSaid : Prop := fnWaysShortRow.holds Try.pinned (OpenSpec.ofChange fnWaysShortSpec)

/-- ITS FALSE NEIGHBOUR: 'it returns false'. Refute it at one input. -/
def fnWaysShortWrong : ChangeSpec := { name := "fnWaysShort", fn := fun _ => fun
  | [d1, d2] => { results := [.lit (.bool false)], args := [d1, d2] }
  | _ => none }
def FnWaysShortWrongFalsely : Prop := fnWaysShortRow.holds Try.pinned (OpenSpec.ofChange fnWaysShortWrong)

/-- 'laws.FnCircles': WHATEVER THE INPUT: true; the input reads as it did. -/
def fnCirclesSpec : ChangeSpec := { name := "fnCircles", fn := fun _ => fun
  | [d1, d2] => { results := [.lit (.bool true)], args := [d1, d2] }
  | _ => none }
def fnCirclesRow : OpenClaim := { program := "ytnimmmcpdicajaa", sum := "ae19476cc7ea05f620a2abff4b04aa1bc3a2febe52d70efaa6204c8ebfb7047d", func := "loop.example/g01226/laws.FnCircles", spec := "fnCircles", inPlace := ["math.Float64bits", "math.Float64frombits", "math.sqrt", "math.archFloor", "math.archTrunc", "math.Float32bits"], apart := false }
def FnCirclesSaid : Prop := fnCirclesRow.holds Try.pinned (OpenSpec.ofChange fnCirclesSpec)

/-- ITS FALSE NEIGHBOUR: 'it returns false'. Refute it at one input. -/
def fnCirclesWrong : ChangeSpec := { name := "fnCircles", fn := fun _ => fun
  | [d1, d2] => { results := [.lit (.bool false)], args := [d1, d2] }
  | _ => none }
def FnCirclesWrongFalsely : Prop := fnCirclesRow.holds Try.pinned (OpenSpec.ofChange fnCirclesWrong)

/- THE SECOND FORM. 'bulk': how many values and letters a reading holds, each counted each time it is reached (what is shared counts as often as it is met; a slice's spare places count too). A statement '..UptoSaid' is the law's where the arguments, and the package variables that the reading takes, are together of bulk at most 1048576: NARROWER than '..Said'. Prove '..Said' where nothing that the law and all that it calls make is longer than what came in: it says more and counts as full. Else prove '..UptoSaid'. A law counts once. -/
mutual
def uptoBulk {H : Type} : DataW H → Nat
  | .lit (.string bytes) => bytes.length + 1
  | .lit _ => 1
  | .nil => 1
  | .ptr d => uptoBulk d + 1
  | .slice elems spare => uptoBulkAll elems + uptoBulkAll spare + 1
  | .agg parts => uptoBulkAll parts + 1
  | .iface _ d => uptoBulk d + 1
  | .map entries => uptoBulkEntries entries + 1
  | .held _ => 1
def uptoBulkAll {H : Type} : List (DataW H) → Nat
  | [] => 0
  | d :: r => uptoBulk d + uptoBulkAll r
def uptoBulkEntries {H : Type} : List (Lit × DataW H) → Nat
  | [] => 0
  | x :: r => uptoBulkEntry x + uptoBulkEntries r
def uptoBulkEntry {H : Type} : Lit × DataW H → Nat
  | (.string bytes, d) => bytes.length + uptoBulk d + 1
  | (_, d) => uptoBulk d + 1
 end
def uptoSmall : (H : Type) → List (DataW H) → Bool := fun _ ds => decide (uptoBulkAll ds ≤ 1048576)
def OpenSpec.upto (s : _root_.Go.ChangeSpec) : _root_.Go.OpenSpec := { _root_.Go.OpenSpec.ofChange s with cond := some uptoSmall }

/-- 'laws.FnExactValidGrid', WHERE WHAT IT READS IS OF BULK AT MOST 1048576: true; the input reads as it did. -/
def fnExactValidGridUptoRow : OpenClaim := { program := "ytnimmmcpdicajaa", sum := "ae19476cc7ea05f620a2abff4b04aa1bc3a2febe52d70efaa6204c8ebfb7047d", func := "loop.example/g01226/laws.FnExactValidGrid", spec := "fnExactValidGrid", apart := false, narrowed := true }
def FnExactValidGridUptoSaid : Prop := fnExactValidGridUptoRow.holds Try.pinned (OpenSpec.upto fnExactValidGridSpec)

/-- 'laws.FnExactIsField', WHERE WHAT IT READS IS OF BULK AT MOST 1048576: true; the input reads as it did. -/
def fnExactIsFieldUptoRow : OpenClaim := { program := "ytnimmmcpdicajaa", sum := "ae19476cc7ea05f620a2abff4b04aa1bc3a2febe52d70efaa6204c8ebfb7047d", func := "loop.example/g01226/laws.FnExactIsField", spec := "fnExactIsField", apart := false, narrowed := true }
def FnExactIsFieldUptoSaid : Prop := fnExactIsFieldUptoRow.holds Try.pinned (OpenSpec.upto fnExactIsFieldSpec)

/-- 'laws.FnExactAddFields', WHERE WHAT IT READS IS OF BULK AT MOST 1048576: true; the input reads as it did. -/
def fnExactAddFieldsUptoRow : OpenClaim := { program := "ytnimmmcpdicajaa", sum := "ae19476cc7ea05f620a2abff4b04aa1bc3a2febe52d70efaa6204c8ebfb7047d", func := "loop.example/g01226/laws.FnExactAddFields", spec := "fnExactAddFields", apart := false, narrowed := true }
def FnExactAddFieldsUptoSaid : Prop := fnExactAddFieldsUptoRow.holds Try.pinned (OpenSpec.upto fnExactAddFieldsSpec)

/-- 'laws.FnExactScaleField', WHERE WHAT IT READS IS OF BULK AT MOST 1048576: true; the input reads as it did. -/
def fnExactScaleFieldUptoRow : OpenClaim := { program := "ytnimmmcpdicajaa", sum := "ae19476cc7ea05f620a2abff4b04aa1bc3a2febe52d70efaa6204c8ebfb7047d", func := "loop.example/g01226/laws.FnExactScaleField", spec := "fnExactScaleField", apart := false, narrowed := true }
def FnExactScaleFieldUptoSaid : Prop := fnExactScaleFieldUptoRow.holds Try.pinned (OpenSpec.upto fnExactScaleFieldSpec)

/-- 'laws.FnExactShiftField', WHERE WHAT IT READS IS OF BULK AT MOST 1048576: true; the input reads as it did. -/
def fnExactShiftFieldUptoRow : OpenClaim := { program := "ytnimmmcpdicajaa", sum := "ae19476cc7ea05f620a2abff4b04aa1bc3a2febe52d70efaa6204c8ebfb7047d", func := "loop.example/g01226/laws.FnExactShiftField", spec := "fnExactShiftField", apart := false, narrowed := true }
def FnExactShiftFieldUptoSaid : Prop := fnExactShiftFieldUptoRow.holds Try.pinned (OpenSpec.upto fnExactShiftFieldSpec)

/-- 'laws.FnExactTotalOf', WHERE WHAT IT READS IS OF BULK AT MOST 1048576: true; the input reads as it did. -/
def fnExactTotalOfUptoRow : OpenClaim := { program := "ytnimmmcpdicajaa", sum := "ae19476cc7ea05f620a2abff4b04aa1bc3a2febe52d70efaa6204c8ebfb7047d", func := "loop.example/g01226/laws.FnExactTotalOf", spec := "fnExactTotalOf", apart := false, narrowed := true }
def FnExactTotalOfUptoSaid : Prop := fnExactTotalOfUptoRow.holds Try.pinned (OpenSpec.upto fnExactTotalOfSpec)

/-- 'laws.FnShares', WHERE WHAT IT READS IS OF BULK AT MOST 1048576: true; the input reads as it did. -/
def fnSharesUptoRow : OpenClaim := { program := "ytnimmmcpdicajaa", sum := "ae19476cc7ea05f620a2abff4b04aa1bc3a2febe52d70efaa6204c8ebfb7047d", func := "loop.example/g01226/laws.FnShares", spec := "fnShares", inPlace := ["math.Float64bits", "math.Float64frombits", "math.archFloor", "math.archTrunc"], unfollowed := true, recurses := true, apart := false, narrowed := true }
def FnSharesUptoSaid : Prop := fnSharesUptoRow.holds Try.pinned (OpenSpec.upto fnSharesSpec)

/-- 'laws.FnDeposits', WHERE WHAT IT READS IS OF BULK AT MOST 1048576: true; the input reads as it did. -/
def fnDepositsUptoRow : OpenClaim := { program := "ytnimmmcpdicajaa", sum := "ae19476cc7ea05f620a2abff4b04aa1bc3a2febe52d70efaa6204c8ebfb7047d", func := "loop.example/g01226/laws.FnDeposits", spec := "fnDeposits", inPlace := ["math.Float64bits", "math.Float64frombits", "math.archFloor", "math.archTrunc"], unfollowed := true, recurses := true, apart := false, narrowed := true }
def FnDepositsUptoSaid : Prop := fnDepositsUptoRow.holds Try.pinned (OpenSpec.upto fnDepositsSpec)

/-- 'laws.FnWaysShort', WHERE WHAT IT READS IS OF BULK AT MOST 1048576: true; the input reads as it did. -/
def fnWaysShortUptoRow : OpenClaim := { program := "ytnimmmcpdicajaa", sum := "ae19476cc7ea05f620a2abff4b04aa1bc3a2febe52d70efaa6204c8ebfb7047d", func := "loop.example/g01226/laws.FnWaysShort", spec := "fnWaysShort", inPlace := ["math.Float64bits", "math.Float64frombits", "math.archFloor", "math.archTrunc", "math.Float32bits"], unfollowed := true, recurses := true, apart := false, narrowed := true }
def FnWaysShortUptoSaid : Prop := fnWaysShortUptoRow.holds Try.pinned (OpenSpec.upto fnWaysShortSpec)

/-- 'laws.FnCircles', WHERE WHAT IT READS IS OF BULK AT MOST 1048576: true; the input reads as it did. -/
def fnCirclesUptoRow : OpenClaim := { program := "ytnimmmcpdicajaa", sum := "ae19476cc7ea05f620a2abff4b04aa1bc3a2febe52d70efaa6204c8ebfb7047d", func := "loop.example/g01226/laws.FnCircles", spec := "fnCircles", inPlace := ["math.Float64bits", "math.Float64frombits", "math.sqrt", "math.archFloor", "math.archTrunc", "math.Float32bits"], apart := false, narrowed := true }
def FnCirclesUptoSaid : Prop := fnCirclesUptoRow.holds Try.pinned (OpenSpec.upto fnCirclesSpec)

end Rows
end Go.Proofs.Ytnimmmcpdicajaa
