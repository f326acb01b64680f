/-
  Texts of these proofs, one behind the other: Ram8, Ram12.
-/
import Derived.Test.YtngfmofjonleeaaGreatKEA35
import Derived.Test.YtngfmofjonleeaaGreatKEA30
import Derived.Test.YtngfmofjonleeaaGreatKEA26
import Derived.Deep.MidRow
import Derived.Deep.Cut
import Derived.Deep.CutRange
import Derived.Test.YtngfmofjonleeaaGreatKEA28
import Derived.Test.YtngfmofjonleeaaGreatKEA34
namespace Go.Proofs.YtngfmofjonleeaaGreat
open Go.RowKit
set_option linter.unusedVariables false
set_option linter.unusedSimpArgs false
set_option maxRecDepth 100000
end Go.Proofs.YtngfmofjonleeaaGreat
namespace Go.Proofs.YtngfmofjonleeaaGreat
open Go.RowKit
set_option linter.unusedVariables false
set_option linter.unusedSimpArgs false
set_option maxRecDepth 100000
end Go.Proofs.YtngfmofjonleeaaGreat
