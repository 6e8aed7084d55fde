/-
  The program's edits: Right, Shift.
-/
import Derived.Test.YthboipmlkgmofaaEditDev
namespace Go.Proofs.Ythboipmlkgmofaa
open Go.RowKit
set_option linter.unusedVariables false
set_option linter.unusedSimpArgs false

end Go.Proofs.Ythboipmlkgmofaa
