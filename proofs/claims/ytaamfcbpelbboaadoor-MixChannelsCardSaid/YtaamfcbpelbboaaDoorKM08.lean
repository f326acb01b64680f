/-
  Texts of these proofs, one behind the other: Noi3, Noi4.
-/
import Derived.Test.YtaamfcbpelbboaaDoorKM07
import Derived.Laws.CopyOwn
namespace Go.Proofs.YtaamfcbpelbboaaDoor
open Go.RowKit
set_option linter.unusedVariables false
set_option linter.unusedSimpArgs false
set_option maxRecDepth 100000
/-- A matrix of which the first columns stand. -/
def mMid (F : Nat → Nat) (k : Nat) : Array Value := iArr .u32 18 fun i => if i < k then ((F (2 ^ i) : Nat) : Int) else 0
theorem mMid_zero (F : Nat → Nat) : mMid F 0 = iArr .u32 18 fun _ => 0 := iArr_congr fun i _ => by rw [if_neg (by omega)]
theorem mMid_all (F : Nat → Nat) : mMid F 18 = mArr F := iArr_congr fun i hi => by rw [if_pos hi]
theorem mMid_at (F : Nat → Nat) (k : Nat) (hk : k < 18) : (mMid F k)[k]? = some (.int .u32 0) := by
  unfold mMid; rw [iArr_at _ _ _ k hk, if_neg (by omega)]
theorem mMid_set (F : Nat → Nat) (k : Nat) : (mMid F k).setIfInBounds k (.int .u32 ((F (2 ^ k) : Nat) : Int)) = mMid F (k + 1) := by
  unfold mMid
  rw [iArr_set]
  refine iArr_congr fun i _ => ?_
  by_cases h : i = k
  · subst h; rw [if_pos rfl, if_pos (by omega)]
  · rw [if_neg h]
    by_cases h2 : i < k
    · rw [if_pos h2, if_pos (by omega)]
    · rw [if_neg h2, if_neg (by omega)]
end Go.Proofs.YtaamfcbpelbboaaDoor
namespace Go.Proofs.YtaamfcbpelbboaaDoor
open Go.RowKit
set_option linter.unusedVariables false
set_option linter.unusedSimpArgs false
set_option maxRecDepth 100000
theorem half_even (t e : Nat) (h : t % 2 = 0) : t * e = t / 2 * (2 * e) := by
  have h2 : t / 2 * 2 = t := by omega
  rw [← Nat.mul_assoc, h2]
theorem half_odd (t e : Nat) (h : t % 2 = 1) : t * e = e + t / 2 * (2 * e) := by
  have h2 : t / 2 * 2 + 1 = t := by omega
  rw [← Nat.mul_assoc, Nat.add_comm, ← Nat.succ_mul]
  congr 1; omega
theorem neg_neg64 {N : Nat} (h : N ≤ 9223372036854775808) (h0 : 0 < N) : IntKind.u64.wrap (-IntKind.u64.wrap (-(N : Int))) = (N : Int) := by
  have e (n : Int) : IntKind.u64.wrap n = n % 18446744073709551616 := by simp [IntKind.wrap, IntKind.bits, IntKind.signed]
  rw [e, e]; omega
end Go.Proofs.YtaamfcbpelbboaaDoor
