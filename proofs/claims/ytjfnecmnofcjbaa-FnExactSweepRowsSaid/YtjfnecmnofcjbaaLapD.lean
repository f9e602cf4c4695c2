/-
  LaplaceOf of the model.
-/
import Derived.Test.YtjfnecmnofcjbaaLapS
namespace Go.Proofs.Ytjfnecmnofcjbaa
open Go.Fl Go.RowKit
open Go.Joins (ownsRow_le)
set_option linter.unusedSimpArgs false
set_option linter.unusedVariables false

end Go.Proofs.Ytjfnecmnofcjbaa
