/-
  Noise: many steps at once.
-/
import Derived.Test.YtaamfcbpelbboaaDoorNoi3
namespace Go.Proofs.YtaamfcbpelbboaaDoor
open Go.RowKit
set_option linter.unusedVariables false
set_option linter.unusedSimpArgs false
set_option maxRecDepth 100000
theorem half_even (t e : Nat) (h : t % 2 = 0) : t * e = t / 2 * (2 * e) := by
  have h2 : t / 2 * 2 = t := by omega
  rw [← Nat.mul_assoc, h2]
theorem half_odd (t e : Nat) (h : t % 2 = 1) : t * e = e + t / 2 * (2 * e) := by
  have h2 : t / 2 * 2 + 1 = t := by omega
  rw [← Nat.mul_assoc, Nat.add_comm, ← Nat.succ_mul]
  congr 1; omega
theorem neg_neg64 {N : Nat} (h : N ≤ 9223372036854775808) (h0 : 0 < N) : IntKind.u64.wrap (-IntKind.u64.wrap (-(N : Int))) = (N : Int) := by
  have e (n : Int) : IntKind.u64.wrap n = n % 18446744073709551616 := by simp [IntKind.wrap, IntKind.bits, IntKind.signed]
  rw [e, e]; omega
end Go.Proofs.YtaamfcbpelbboaaDoor
