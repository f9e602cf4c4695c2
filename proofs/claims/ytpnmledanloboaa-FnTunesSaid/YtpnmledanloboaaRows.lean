/-
  No cell of these rows narrows 'for every input' (looked for: loops, veiled, ifaces, maps, wideKeys, modest, calm, conditions, laid).
  DERIVED. THE GIVEN ROWS OF THIS SEAT. 12 by the template 'for every input the law returns true; each argument reads behind the call as it read before'; 0 by the template 'total and deterministic' (their statements: YtpnmledanloboaaTotals.lean).
  GIVEN WITH THE SEED: the statements are not yours to turn. If you find one false, say at which input.
  Laid BY PROGRAM, IN A SANDBOX (cutbox-rows.mjs): the forced cells as the released guide's own fill.sh prints them over the translation abc17ea08e9c4b4f… (all of the seat's roots in one cut). By AI agents, Wed Nov 11 2026. No macro, syntax, notation, axiom, sorry.
-/
import Derived.Test.YtpnmledanloboaaChecked
import GoSem.Claim
import GoSem.ClaimJoined
import GoSem.ClaimMapViews
import Derived.JoinedTies
import Derived.KernelRfl
namespace Go.Proofs.Ytpnmledanloboaa
/- THE CELL 'sum', in the pinned program and in every row, IS THE sha256 OF THE DUMP (.gsa) THAT YtpnmledanloboaaProg.lean LOADS. Nothing in Lean hashes anything: it is a label: what it is worth is what the hold of that sum in a sandbox is worth. -/
noncomputable def Try.pinned : Pinned := { name := "ytpnmledanloboaa", sum := "abc17ea08e9c4b4f07e90faa8f95e8837026c26aaad79effc9294b38705636bf", checked := Try.checked }
namespace Rows
def none {H : Type} : Left H := { results := [], args := [] }

/-- 'laws.FnExactDetOf': WHATEVER THE INPUT: true; the input reads as it did. -/
def fnExactDetOfSpec : ChangeSpec := { name := "fnExactDetOf", fn := fun _ => fun
  | [d] => { results := [.lit (.bool true)], args := [d] }
  | _ => none }
def fnExactDetOfRow : OpenClaim := { program := "ytpnmledanloboaa", sum := "abc17ea08e9c4b4f07e90faa8f95e8837026c26aaad79effc9294b38705636bf", func := "loop.example/g01226/laws.FnExactDetOf", spec := "fnExactDetOf", apart := false }
def FnExactDetOfSaid : Prop := fnExactDetOfRow.holds Try.pinned (OpenSpec.ofChange fnExactDetOfSpec)

/-- ITS FALSE NEIGHBOUR: 'it returns false'. Refute it at one input. -/
def fnExactDetOfWrong : ChangeSpec := { name := "fnExactDetOf", fn := fun _ => fun
  | [d] => { results := [.lit (.bool false)], args := [d] }
  | _ => none }
def FnExactDetOfWrongFalsely : Prop := fnExactDetOfRow.holds Try.pinned (OpenSpec.ofChange fnExactDetOfWrong)

/-- 'laws.FnExactTraceOf': WHATEVER THE INPUT: true; the input reads as it did. -/
def fnExactTraceOfSpec : ChangeSpec := { name := "fnExactTraceOf", fn := fun _ => fun
  | [d] => { results := [.lit (.bool true)], args := [d] }
  | _ => none }
def fnExactTraceOfRow : OpenClaim := { program := "ytpnmledanloboaa", sum := "abc17ea08e9c4b4f07e90faa8f95e8837026c26aaad79effc9294b38705636bf", func := "loop.example/g01226/laws.FnExactTraceOf", spec := "fnExactTraceOf", apart := false }
def FnExactTraceOfSaid : Prop := fnExactTraceOfRow.holds Try.pinned (OpenSpec.ofChange fnExactTraceOfSpec)

/-- ITS FALSE NEIGHBOUR: 'it returns false'. Refute it at one input. -/
def fnExactTraceOfWrong : ChangeSpec := { name := "fnExactTraceOf", fn := fun _ => fun
  | [d] => { results := [.lit (.bool false)], args := [d] }
  | _ => none }
def FnExactTraceOfWrongFalsely : Prop := fnExactTraceOfRow.holds Try.pinned (OpenSpec.ofChange fnExactTraceOfWrong)

/-- 'laws.FnExactTimesMatrix': WHATEVER THE INPUT: true; the input reads as it did. -/
def fnExactTimesMatrixSpec : ChangeSpec := { name := "fnExactTimesMatrix", fn := fun _ => fun
  | [d1, d2] => { results := [.lit (.bool true)], args := [d1, d2] }
  | _ => none }
def fnExactTimesMatrixRow : OpenClaim := { program := "ytpnmledanloboaa", sum := "abc17ea08e9c4b4f07e90faa8f95e8837026c26aaad79effc9294b38705636bf", func := "loop.example/g01226/laws.FnExactTimesMatrix", spec := "fnExactTimesMatrix", apart := false }
def FnExactTimesMatrixSaid : Prop := fnExactTimesMatrixRow.holds Try.pinned (OpenSpec.ofChange fnExactTimesMatrixSpec)

/-- ITS FALSE NEIGHBOUR: 'it returns false'. Refute it at one input. -/
def fnExactTimesMatrixWrong : ChangeSpec := { name := "fnExactTimesMatrix", fn := fun _ => fun
  | [d1, d2] => { results := [.lit (.bool false)], args := [d1, d2] }
  | _ => none }
def FnExactTimesMatrixWrongFalsely : Prop := fnExactTimesMatrixRow.holds Try.pinned (OpenSpec.ofChange fnExactTimesMatrixWrong)

/-- 'laws.FnExactValidLine': WHATEVER THE INPUT: true; the input reads as it did. -/
def fnExactValidLineSpec : ChangeSpec := { name := "fnExactValidLine", fn := fun _ => fun
  | [d] => { results := [.lit (.bool true)], args := [d] }
  | _ => none }
def fnExactValidLineRow : OpenClaim := { program := "ytpnmledanloboaa", sum := "abc17ea08e9c4b4f07e90faa8f95e8837026c26aaad79effc9294b38705636bf", func := "loop.example/g01226/laws.FnExactValidLine", spec := "fnExactValidLine", inPlace := ["math.Float64bits", "math.Float64frombits"], apart := false }
def FnExactValidLineSaid : Prop := fnExactValidLineRow.holds Try.pinned (OpenSpec.ofChange fnExactValidLineSpec)

/-- ITS FALSE NEIGHBOUR: 'it returns false'. Refute it at one input. -/
def fnExactValidLineWrong : ChangeSpec := { name := "fnExactValidLine", fn := fun _ => fun
  | [d] => { results := [.lit (.bool false)], args := [d] }
  | _ => none }
def FnExactValidLineWrongFalsely : Prop := fnExactValidLineRow.holds Try.pinned (OpenSpec.ofChange fnExactValidLineWrong)

/-- 'laws.FnExactBackLine': WHATEVER THE INPUT: true; the input reads as it did. -/
def fnExactBackLineSpec : ChangeSpec := { name := "fnExactBackLine", fn := fun _ => fun
  | [d] => { results := [.lit (.bool true)], args := [d] }
  | _ => none }
def fnExactBackLineRow : OpenClaim := { program := "ytpnmledanloboaa", sum := "abc17ea08e9c4b4f07e90faa8f95e8837026c26aaad79effc9294b38705636bf", func := "loop.example/g01226/laws.FnExactBackLine", spec := "fnExactBackLine", inPlace := ["math.Float64bits", "math.Float64frombits"], unfollowed := true, recurses := true, apart := false }
def FnExactBackLineSaid : Prop := fnExactBackLineRow.holds Try.pinned (OpenSpec.ofChange fnExactBackLineSpec)

/-- ITS FALSE NEIGHBOUR: 'it returns false'. Refute it at one input. -/
def fnExactBackLineWrong : ChangeSpec := { name := "fnExactBackLine", fn := fun _ => fun
  | [d] => { results := [.lit (.bool false)], args := [d] }
  | _ => none }
def FnExactBackLineWrongFalsely : Prop := fnExactBackLineRow.holds Try.pinned (OpenSpec.ofChange fnExactBackLineWrong)

/-- 'laws.FnExactMatrixOf': WHATEVER THE INPUT: true; the input reads as it did. -/
def fnExactMatrixOfSpec : ChangeSpec := { name := "fnExactMatrixOf", fn := fun _ => fun
  | [d] => { results := [.lit (.bool true)], args := [d] }
  | _ => none }
def fnExactMatrixOfRow : OpenClaim := { program := "ytpnmledanloboaa", sum := "abc17ea08e9c4b4f07e90faa8f95e8837026c26aaad79effc9294b38705636bf", func := "loop.example/g01226/laws.FnExactMatrixOf", spec := "fnExactMatrixOf", inPlace := ["math.Float64bits", "math.Float64frombits"], apart := false }
def FnExactMatrixOfSaid : Prop := fnExactMatrixOfRow.holds Try.pinned (OpenSpec.ofChange fnExactMatrixOfSpec)

/-- ITS FALSE NEIGHBOUR: 'it returns false'. Refute it at one input. -/
def fnExactMatrixOfWrong : ChangeSpec := { name := "fnExactMatrixOf", fn := fun _ => fun
  | [d] => { results := [.lit (.bool false)], args := [d] }
  | _ => none }
def FnExactMatrixOfWrongFalsely : Prop := fnExactMatrixOfRow.holds Try.pinned (OpenSpec.ofChange fnExactMatrixOfWrong)

/-- 'laws.FnExactIsStable': WHATEVER THE INPUT: true; the input reads as it did. -/
def fnExactIsStableSpec : ChangeSpec := { name := "fnExactIsStable", fn := fun _ => fun
  | [d] => { results := [.lit (.bool true)], args := [d] }
  | _ => none }
def fnExactIsStableRow : OpenClaim := { program := "ytpnmledanloboaa", sum := "abc17ea08e9c4b4f07e90faa8f95e8837026c26aaad79effc9294b38705636bf", func := "loop.example/g01226/laws.FnExactIsStable", spec := "fnExactIsStable", inPlace := ["math.Float64bits", "math.Float64frombits"], apart := false }
def FnExactIsStableSaid : Prop := fnExactIsStableRow.holds Try.pinned (OpenSpec.ofChange fnExactIsStableSpec)

/-- ITS FALSE NEIGHBOUR: 'it returns false'. Refute it at one input. -/
def fnExactIsStableWrong : ChangeSpec := { name := "fnExactIsStable", fn := fun _ => fun
  | [d] => { results := [.lit (.bool false)], args := [d] }
  | _ => none }
def FnExactIsStableWrongFalsely : Prop := fnExactIsStableRow.holds Try.pinned (OpenSpec.ofChange fnExactIsStableWrong)

/-- 'laws.FnExactTuneOf': WHATEVER THE INPUT: true; the input reads as it did. -/
def fnExactTuneOfSpec : ChangeSpec := { name := "fnExactTuneOf", fn := fun _ => fun
  | [d] => { results := [.lit (.bool true)], args := [d] }
  | _ => none }
def fnExactTuneOfRow : OpenClaim := { program := "ytpnmledanloboaa", sum := "abc17ea08e9c4b4f07e90faa8f95e8837026c26aaad79effc9294b38705636bf", func := "loop.example/g01226/laws.FnExactTuneOf", spec := "fnExactTuneOf", inPlace := ["math.sqrt", "math.Float64frombits", "math.Float64bits"], apart := false }
def FnExactTuneOfSaid : Prop := fnExactTuneOfRow.holds Try.pinned (OpenSpec.ofChange fnExactTuneOfSpec)

/-- ITS FALSE NEIGHBOUR: 'it returns false'. Refute it at one input. -/
def fnExactTuneOfWrong : ChangeSpec := { name := "fnExactTuneOf", fn := fun _ => fun
  | [d] => { results := [.lit (.bool false)], args := [d] }
  | _ => none }
def FnExactTuneOfWrongFalsely : Prop := fnExactTuneOfRow.holds Try.pinned (OpenSpec.ofChange fnExactTuneOfWrong)

/-- 'laws.FnExactFillBeam': WHATEVER THE INPUT: true; the input reads as it did. -/
def fnExactFillBeamSpec : ChangeSpec := { name := "fnExactFillBeam", fn := fun _ => fun
  | [d1, d2, d3] => { results := [.lit (.bool true)], args := [d1, d2, d3] }
  | _ => none }
def fnExactFillBeamRow : OpenClaim := { program := "ytpnmledanloboaa", sum := "abc17ea08e9c4b4f07e90faa8f95e8837026c26aaad79effc9294b38705636bf", func := "loop.example/g01226/laws.FnExactFillBeam", spec := "fnExactFillBeam", inPlace := ["math.Float64frombits", "math.Float64bits"], apart := false }
def FnExactFillBeamSaid : Prop := fnExactFillBeamRow.holds Try.pinned (OpenSpec.ofChange fnExactFillBeamSpec)

/-- ITS FALSE NEIGHBOUR: 'it returns false'. Refute it at one input. -/
def fnExactFillBeamWrong : ChangeSpec := { name := "fnExactFillBeam", fn := fun _ => fun
  | [d1, d2, d3] => { results := [.lit (.bool false)], args := [d1, d2, d3] }
  | _ => none }
def FnExactFillBeamWrongFalsely : Prop := fnExactFillBeamRow.holds Try.pinned (OpenSpec.ofChange fnExactFillBeamWrong)

/-- 'laws.FnTunes': WHATEVER THE INPUT: true; the input reads as it did. -/
def fnTunesSpec : ChangeSpec := { name := "fnTunes", fn := fun _ => fun
  | [d1, d2] => { results := [.lit (.bool true)], args := [d1, d2] }
  | _ => none }
def fnTunesRow : OpenClaim := { program := "ytpnmledanloboaa", sum := "abc17ea08e9c4b4f07e90faa8f95e8837026c26aaad79effc9294b38705636bf", func := "loop.example/g01226/laws.FnTunes", spec := "fnTunes", inPlace := ["math.Float64bits", "math.Float64frombits", "math.sqrt"], apart := false }
def FnTunesSaid : Prop := fnTunesRow.holds Try.pinned (OpenSpec.ofChange fnTunesSpec)

/-- ITS FALSE NEIGHBOUR: 'it returns false'. Refute it at one input. -/
def fnTunesWrong : ChangeSpec := { name := "fnTunes", fn := fun _ => fun
  | [d1, d2] => { results := [.lit (.bool false)], args := [d1, d2] }
  | _ => none }
def FnTunesWrongFalsely : Prop := fnTunesRow.holds Try.pinned (OpenSpec.ofChange fnTunesWrong)

/-- 'laws.FnLines': WHATEVER THE INPUT: true; the input reads as it did. -/
def fnLinesSpec : ChangeSpec := { name := "fnLines", fn := fun _ => fun
  | [d1, d2] => { results := [.lit (.bool true)], args := [d1, d2] }
  | _ => none }
def fnLinesRow : OpenClaim := { program := "ytpnmledanloboaa", sum := "abc17ea08e9c4b4f07e90faa8f95e8837026c26aaad79effc9294b38705636bf", func := "loop.example/g01226/laws.FnLines", spec := "fnLines", inPlace := ["math.Float64bits", "math.Float64frombits", "math.Float32bits", "math.sqrt"], unfollowed := true, recurses := true, apart := false }
def FnLinesSaid : Prop := fnLinesRow.holds Try.pinned (OpenSpec.ofChange fnLinesSpec)

/-- ITS FALSE NEIGHBOUR: 'it returns false'. Refute it at one input. -/
def fnLinesWrong : ChangeSpec := { name := "fnLines", fn := fun _ => fun
  | [d1, d2] => { results := [.lit (.bool false)], args := [d1, d2] }
  | _ => none }
def FnLinesWrongFalsely : Prop := fnLinesRow.holds Try.pinned (OpenSpec.ofChange fnLinesWrong)

/-- 'laws.FnBeams': WHATEVER THE INPUT: true; the input reads as it did. -/
def fnBeamsSpec : ChangeSpec := { name := "fnBeams", fn := fun _ => fun
  | [d1, d2] => { results := [.lit (.bool true)], args := [d1, d2] }
  | _ => none }
def fnBeamsRow : OpenClaim := { program := "ytpnmledanloboaa", sum := "abc17ea08e9c4b4f07e90faa8f95e8837026c26aaad79effc9294b38705636bf", func := "loop.example/g01226/laws.FnBeams", spec := "fnBeams", inPlace := ["math.Float32frombits", "math.Float64bits", "math.Float64frombits", "math.Float32bits", "math.sqrt"], unfollowed := true, recurses := true, apart := false }
def FnBeamsSaid : Prop := fnBeamsRow.holds Try.pinned (OpenSpec.ofChange fnBeamsSpec)

/-- ITS FALSE NEIGHBOUR: 'it returns false'. Refute it at one input. -/
def fnBeamsWrong : ChangeSpec := { name := "fnBeams", fn := fun _ => fun
  | [d1, d2] => { results := [.lit (.bool false)], args := [d1, d2] }
  | _ => none }
def FnBeamsWrongFalsely : Prop := fnBeamsRow.holds Try.pinned (OpenSpec.ofChange fnBeamsWrong)

/- THE SECOND FORM. 'bulk': how many values and letters a reading holds, each counted each time it is reached (what is shared counts as often as it is met; a slice's spare places count too). A statement '..UptoSaid' is the law's where the arguments, and the package variables that the reading takes, are together of bulk at most 1048576: NARROWER than '..Said'. Prove '..Said' where nothing that the law and all that it calls make is longer than what came in: it says more and counts as full. Else prove '..UptoSaid'. A law counts once. -/
mutual
def uptoBulk {H : Type} : DataW H → Nat
  | .lit (.string bytes) => bytes.length + 1
  | .lit _ => 1
  | .nil => 1
  | .ptr d => uptoBulk d + 1
  | .slice elems spare => uptoBulkAll elems + uptoBulkAll spare + 1
  | .agg parts => uptoBulkAll parts + 1
  | .iface _ d => uptoBulk d + 1
  | .map entries => uptoBulkEntries entries + 1
  | .held _ => 1
def uptoBulkAll {H : Type} : List (DataW H) → Nat
  | [] => 0
  | d :: r => uptoBulk d + uptoBulkAll r
def uptoBulkEntries {H : Type} : List (Lit × DataW H) → Nat
  | [] => 0
  | x :: r => uptoBulkEntry x + uptoBulkEntries r
def uptoBulkEntry {H : Type} : Lit × DataW H → Nat
  | (.string bytes, d) => bytes.length + uptoBulk d + 1
  | (_, d) => uptoBulk d + 1
 end
def uptoSmall : (H : Type) → List (DataW H) → Bool := fun _ ds => decide (uptoBulkAll ds ≤ 1048576)
def OpenSpec.upto (s : _root_.Go.ChangeSpec) : _root_.Go.OpenSpec := { _root_.Go.OpenSpec.ofChange s with cond := some uptoSmall }

/-- 'laws.FnExactDetOf', WHERE WHAT IT READS IS OF BULK AT MOST 1048576: true; the input reads as it did. -/
def fnExactDetOfUptoRow : OpenClaim := { program := "ytpnmledanloboaa", sum := "abc17ea08e9c4b4f07e90faa8f95e8837026c26aaad79effc9294b38705636bf", func := "loop.example/g01226/laws.FnExactDetOf", spec := "fnExactDetOf", apart := false, narrowed := true }
def FnExactDetOfUptoSaid : Prop := fnExactDetOfUptoRow.holds Try.pinned (OpenSpec.upto fnExactDetOfSpec)

/-- 'laws.FnExactTraceOf', WHERE WHAT IT READS IS OF BULK AT MOST 1048576: true; the input reads as it did. -/
def fnExactTraceOfUptoRow : OpenClaim := { program := "ytpnmledanloboaa", sum := "abc17ea08e9c4b4f07e90faa8f95e8837026c26aaad79effc9294b38705636bf", func := "loop.example/g01226/laws.FnExactTraceOf", spec := "fnExactTraceOf", apart := false, narrowed := true }
def FnExactTraceOfUptoSaid : Prop := fnExactTraceOfUptoRow.holds Try.pinned (OpenSpec.upto fnExactTraceOfSpec)

/-- 'laws.FnExactTimesMatrix', WHERE WHAT IT READS IS OF BULK AT MOST 1048576: true; the input reads as it did. -/
def fnExactTimesMatrixUptoRow : OpenClaim := { program := "ytpnmledanloboaa", sum := "abc17ea08e9c4b4f07e90faa8f95e8837026c26aaad79effc9294b38705636bf", func := "loop.example/g01226/laws.FnExactTimesMatrix", spec := "fnExactTimesMatrix", apart := false, narrowed := true }
def FnExactTimesMatrixUptoSaid : Prop := fnExactTimesMatrixUptoRow.holds Try.pinned (OpenSpec.upto fnExactTimesMatrixSpec)

/-- 'laws.FnExactValidLine', WHERE WHAT IT READS IS OF BULK AT MOST 1048576: true; the input reads as it did. -/
def fnExactValidLineUptoRow : OpenClaim := { program := "ytpnmledanloboaa", sum := "abc17ea08e9c4b4f07e90faa8f95e8837026c26aaad79effc9294b38705636bf", func := "loop.example/g01226/laws.FnExactValidLine", spec := "fnExactValidLine", inPlace := ["math.Float64bits", "math.Float64frombits"], apart := false, narrowed := true }
def FnExactValidLineUptoSaid : Prop := fnExactValidLineUptoRow.holds Try.pinned (OpenSpec.upto fnExactValidLineSpec)

/-- 'laws.FnExactBackLine', WHERE WHAT IT READS IS OF BULK AT MOST 1048576: true; the input reads as it did. -/
def fnExactBackLineUptoRow : OpenClaim := { program := "ytpnmledanloboaa", sum := "abc17ea08e9c4b4f07e90faa8f95e8837026c26aaad79effc9294b38705636bf", func := "loop.example/g01226/laws.FnExactBackLine", spec := "fnExactBackLine", inPlace := ["math.Float64bits", "math.Float64frombits"], unfollowed := true, recurses := true, apart := false, narrowed := true }
def FnExactBackLineUptoSaid : Prop := fnExactBackLineUptoRow.holds Try.pinned (OpenSpec.upto fnExactBackLineSpec)

/-- 'laws.FnExactMatrixOf', WHERE WHAT IT READS IS OF BULK AT MOST 1048576: true; the input reads as it did. -/
def fnExactMatrixOfUptoRow : OpenClaim := { program := "ytpnmledanloboaa", sum := "abc17ea08e9c4b4f07e90faa8f95e8837026c26aaad79effc9294b38705636bf", func := "loop.example/g01226/laws.FnExactMatrixOf", spec := "fnExactMatrixOf", inPlace := ["math.Float64bits", "math.Float64frombits"], apart := false, narrowed := true }
def FnExactMatrixOfUptoSaid : Prop := fnExactMatrixOfUptoRow.holds Try.pinned (OpenSpec.upto fnExactMatrixOfSpec)

/-- 'laws.FnExactIsStable', WHERE WHAT IT READS IS OF BULK AT MOST 1048576: true; the input reads as it did. -/
def fnExactIsStableUptoRow : OpenClaim := { program := "ytpnmledanloboaa", sum := "abc17ea08e9c4b4f07e90faa8f95e8837026c26aaad79effc9294b38705636bf", func := "loop.example/g01226/laws.FnExactIsStable", spec := "fnExactIsStable", inPlace := ["math.Float64bits", "math.Float64frombits"], apart := false, narrowed := true }
def FnExactIsStableUptoSaid : Prop := fnExactIsStableUptoRow.holds Try.pinned (OpenSpec.upto fnExactIsStableSpec)

/-- 'laws.FnExactTuneOf', WHERE WHAT IT READS IS OF BULK AT MOST 1048576: true; the input reads as it did. -/
def fnExactTuneOfUptoRow : OpenClaim := { program := "ytpnmledanloboaa", sum := "abc17ea08e9c4b4f07e90faa8f95e8837026c26aaad79effc9294b38705636bf", func := "loop.example/g01226/laws.FnExactTuneOf", spec := "fnExactTuneOf", inPlace := ["math.sqrt", "math.Float64frombits", "math.Float64bits"], apart := false, narrowed := true }
def FnExactTuneOfUptoSaid : Prop := fnExactTuneOfUptoRow.holds Try.pinned (OpenSpec.upto fnExactTuneOfSpec)

/-- 'laws.FnExactFillBeam', WHERE WHAT IT READS IS OF BULK AT MOST 1048576: true; the input reads as it did. -/
def fnExactFillBeamUptoRow : OpenClaim := { program := "ytpnmledanloboaa", sum := "abc17ea08e9c4b4f07e90faa8f95e8837026c26aaad79effc9294b38705636bf", func := "loop.example/g01226/laws.FnExactFillBeam", spec := "fnExactFillBeam", inPlace := ["math.Float64frombits", "math.Float64bits"], apart := false, narrowed := true }
def FnExactFillBeamUptoSaid : Prop := fnExactFillBeamUptoRow.holds Try.pinned (OpenSpec.upto fnExactFillBeamSpec)

/-- 'laws.FnTunes', WHERE WHAT IT READS IS OF BULK AT MOST 1048576: true; the input reads as it did. -/
def fnTunesUptoRow : OpenClaim := { program := "ytpnmledanloboaa", sum := "abc17ea08e9c4b4f07e90faa8f95e8837026c26aaad79effc9294b38705636bf", func := "loop.example/g01226/laws.FnTunes", spec := "fnTunes", inPlace := ["math.Float64bits", "math.Float64frombits", "math.sqrt"], apart := false, narrowed := true }
def FnTunesUptoSaid : Prop := fnTunesUptoRow.holds Try.pinned (OpenSpec.upto fnTunesSpec)

/-- 'laws.FnLines', WHERE WHAT IT READS IS OF BULK AT MOST 1048576: true; the input reads as it did. -/
def fnLinesUptoRow : OpenClaim := { program := "ytpnmledanloboaa", sum := "abc17ea08e9c4b4f07e90faa8f95e8837026c26aaad79effc9294b38705636bf", func := "loop.example/g01226/laws.FnLines", spec := "fnLines", inPlace := ["math.Float64bits", "math.Float64frombits", "math.Float32bits", "math.sqrt"], unfollowed := true, recurses := true, apart := false, narrowed := true }
def FnLinesUptoSaid : Prop := fnLinesUptoRow.holds Try.pinned (OpenSpec.upto fnLinesSpec)

/-- 'laws.FnBeams', WHERE WHAT IT READS IS OF BULK AT MOST 1048576: true; the input reads as it did. -/
def fnBeamsUptoRow : OpenClaim := { program := "ytpnmledanloboaa", sum := "abc17ea08e9c4b4f07e90faa8f95e8837026c26aaad79effc9294b38705636bf", func := "loop.example/g01226/laws.FnBeams", spec := "fnBeams", inPlace := ["math.Float32frombits", "math.Float64bits", "math.Float64frombits", "math.Float32bits", "math.sqrt"], unfollowed := true, recurses := true, apart := false, narrowed := true }
def FnBeamsUptoSaid : Prop := fnBeamsUptoRow.holds Try.pinned (OpenSpec.upto fnBeamsSpec)

end Rows
end Go.Proofs.Ytpnmledanloboaa
