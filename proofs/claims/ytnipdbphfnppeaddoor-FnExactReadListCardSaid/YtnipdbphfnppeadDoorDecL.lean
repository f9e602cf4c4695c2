/-
  What the rows' lists of variables give: the table of powers of ten, the two errors of the library's parser.
-/
import Derived.Test.YtnipdbphfnppeadDoorRows
import Derived.Test.YtnipdbphfnppeadDoorDecI
import Derived.MakeChecks
import Derived.LaidSub
import Derived.LaidMore
import Derived.Lib.LaidTab
import Derived.Stop.LaidErr
import Derived.Stop.Joined
import Derived.ProofKit
namespace Go.Proofs.YtnipdbphfnppeadDoor
open Go.RowKit

theorem powType : (Tryd.prog.globals[1]?).map (·.type) = some 83 := by kernel_rfl
theorem gSyn : Tryd.prog.globalNamed "strconv.ErrSyntax" = some 2 := by kernel_rfl
theorem synType : (Tryd.prog.globals[2]?).map (·.type) = some 47 := by kernel_rfl
theorem gRng : Tryd.prog.globalNamed "strconv.ErrRange" = some 3 := by kernel_rfl
theorem rngType : (Tryd.prog.globals[3]?).map (·.type) = some 47 := by kernel_rfl
theorem star : "*" ++ "errors.errorString" = "*errors.errorString" := by decide
theorem errRow (u : TypeId) (h : Tryd.prog.typeName? 3 u = some "*errors.errorString") : u = 98 :=
  typeName_ptr_named (P := Tryd.prog) (nm := "errors.errorString") (by rw [star]; kernel_rfl) (by kernel_rfl) (by decide) u (by rw [star]; exact h)

theorem lays_of {W : World} {l : List (String × DataW Unit)} (hl : (l.all fun x => x.2.handleName?.isNone) = true) (h : laidMetH Tryd.prog l W)
    (h1 : l.filter (fun x => x.1 == "internal/strconv.uint64pow10") = [("internal/strconv.uint64pow10", Lib.tabData .u64 Lib.pow10Tab)])
    (h2 : l.filter (fun x => x.1 == "strconv.ErrSyntax") = [("strconv.ErrSyntax", Rows.laid_strconv_ErrSyntax)])
    (h3 : l.filter (fun x => x.1 == "strconv.ErrRange") = [("strconv.ErrRange", Rows.laid_strconv_ErrRange)]) : Lays W := by
  rw [MakeChecks.laidMetH_plain _ _ _ hl] at h
  have k1 := h.filter (fun x => x.1 == "internal/strconv.uint64pow10")
  have k2 := h.filter (fun x => x.1 == "strconv.ErrSyntax")
  have k3 := h.filter (fun x => x.1 == "strconv.ErrRange")
  rw [h1] at k1
  rw [h2] at k2
  rw [h3] at k3
  obtain ⟨a1, s1, v1, _⟩ := laid_sentinel k2 gSyn synType Tryd.underlying47 errRow Tryd.underlying98 Tryd.underlying100 rfl rfl Tryd.underlying9 (by kernel_rfl) (by kernel_rfl)
  obtain ⟨a2, s2, v2, _⟩ := laid_sentinel k3 gRng rngType Tryd.underlying47 errRow Tryd.underlying98 Tryd.underlying100 rfl rfl Tryd.underlying9 (by kernel_rfl) (by kernel_rfl)
  exact ⟨Lib.tabIs_of_head gPow powType Tryd.underlying83 Tryd.underlying65 (by kernel_rfl) (by kernel_rfl) k1, ⟨_, _, v1⟩, ⟨_, _, v2⟩⟩
end Go.Proofs.YtnipdbphfnppeadDoor
