/-
  Noise: matrices of 18 states; many steps at once.
-/
import Derived.Test.YtaamfcbpelbboaaDoorNoi1
import Derived.Test.YtaamfcbpelbboaaDoorG12
import Derived.Test.YtaamfcbpelbboaaDoorG18
import Derived.Deep.LoopGhost
import Derived.IntWalk
namespace Go.Proofs.YtaamfcbpelbboaaDoor
open Go.RowKit
set_option linter.unusedVariables false
set_option linter.unusedSimpArgs false
set_option maxRecDepth 100000
/-- The matrix of what is linear. -/
def mArr (F : Nat → Nat) : Array Value := iArr .u32 18 fun i => ((F (2 ^ i) : Nat) : Int)
theorem mArr_size (F : Nat → Nat) : (mArr F).size = 18 := iArr_size _ _ _
theorem mArr_at (F : Nat → Nat) (i : Nat) (h : i < 18) : (mArr F)[i]? = some (.int .u32 ((F (2 ^ i) : Nat) : Int)) := iArr_at _ _ _ i h
theorem mArr_one (F : Nat → Nat) : ∀ v ∈ (mArr F).toList, v.oneCell' = true := iArr_one _ _ _
end Go.Proofs.YtaamfcbpelbboaaDoor
