/-
  Noise: the matrix of a step on, of one back, and of a matrix led through twice.
-/
import Derived.Test.YtaamfcbpelbboaaDoorNoi2
import Derived.Test.YtaamfcbpelbboaaDoorG14
import Derived.Laws.CopyOwn
namespace Go.Proofs.YtaamfcbpelbboaaDoor
open Go.RowKit
set_option linter.unusedVariables false
set_option linter.unusedSimpArgs false
set_option maxRecDepth 100000
/-- A matrix of which the first columns stand. -/
def mMid (F : Nat → Nat) (k : Nat) : Array Value := iArr .u32 18 fun i => if i < k then ((F (2 ^ i) : Nat) : Int) else 0
theorem mMid_zero (F : Nat → Nat) : mMid F 0 = iArr .u32 18 fun _ => 0 := iArr_congr fun i _ => by rw [if_neg (by omega)]
theorem mMid_all (F : Nat → Nat) : mMid F 18 = mArr F := iArr_congr fun i hi => by rw [if_pos hi]
theorem mMid_at (F : Nat → Nat) (k : Nat) (hk : k < 18) : (mMid F k)[k]? = some (.int .u32 0) := by
  unfold mMid; rw [iArr_at _ _ _ k hk, if_neg (by omega)]
theorem mMid_set (F : Nat → Nat) (k : Nat) : (mMid F k).setIfInBounds k (.int .u32 ((F (2 ^ k) : Nat) : Int)) = mMid F (k + 1) := by
  unfold mMid
  rw [iArr_set]
  refine iArr_congr fun i _ => ?_
  by_cases h : i = k
  · subst h; rw [if_pos rfl, if_pos (by omega)]
  · rw [if_neg h]
    by_cases h2 : i < k
    · rw [if_pos h2, if_pos (by omega)]
    · rw [if_neg h2, if_neg (by omega)]
end Go.Proofs.YtaamfcbpelbboaaDoor
