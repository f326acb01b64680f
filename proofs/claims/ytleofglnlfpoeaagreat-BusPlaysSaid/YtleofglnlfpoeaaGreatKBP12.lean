/-
  Texts of these proofs, one behind the other: A3, A5, G2.
-/
import Derived.Test.YtleofglnlfpoeaaGreatKBP11
import Derived.Test.YtleofglnlfpoeaaGreatKBP01
import Derived.Laws.BytesArg
import Derived.Deep.WholeRow
namespace Go.Proofs.YtleofglnlfpoeaaGreat
open Go.RowKit

end Go.Proofs.YtleofglnlfpoeaaGreat
namespace Go.Proofs.YtleofglnlfpoeaaGreat
open Go.RowKit
end Go.Proofs.YtleofglnlfpoeaaGreat
namespace Go.Proofs.YtleofglnlfpoeaaGreat
open Go.RowKit
end Go.Proofs.YtleofglnlfpoeaaGreat
