/-
  Texts of these proofs, one behind the other: St0.
-/
import Derived.Test.YtndhkdcdhpfajaaGreatRows
import Derived.Test.YtndhkdcdhpfajaaGreatKEP08
namespace Go.Proofs.YtndhkdcdhpfajaaGreat
open Go.RowKit
set_option linter.unusedVariables false
set_option linter.unusedSimpArgs false
set_option maxRecDepth 100000
/-- What a register may be at most. -/
def mostP (i : Nat) : Int := if i = 5 then 65535 else if i = 15 then 1 else 255
def StOk (r : Nat → Int) : Prop := ∀ i, i < 16 → 0 ≤ r i ∧ r i ≤ mostP i
def stA (r : Nat → Int) : Array Value := #[.int .u8 (r 0), .int .u8 (r 1), .int .u8 (r 2), .int .u8 (r 3), .int .u8 (r 4), .int .u16 (r 5), .int .u8 (r 6), .int .u8 (r 7), .int .u8 (r 8), .int .u8 (r 9), .int .u8 (r 10), .int .u8 (r 11), .int .u8 (r 12), .int .u8 (r 13), .int .u8 (r 14), .bool (decide (r 15 = 1))]
def rwA (r : Nat → Int) : Array Value := vArr 16 fun j => .int .u16 (r j)
theorem stA_size (r : Nat → Int) : (stA r).size = 16 := rfl
theorem stA_one (r : Nat → Int) : ∀ v ∈ (stA r).toList, v.oneCell' = true := by
  intro v hv
  simp only [stA, List.mem_cons, List.not_mem_nil, or_false] at hv
  rcases hv with rfl | rfl | rfl | rfl | rfl | rfl | rfl | rfl | rfl | rfl | rfl | rfl | rfl | rfl | rfl | rfl <;> rfl
theorem size_state : (Tryz.prog.info? 32).map (·.size) = some 16 := by kernel_rfl
end Go.Proofs.YtndhkdcdhpfajaaGreat
