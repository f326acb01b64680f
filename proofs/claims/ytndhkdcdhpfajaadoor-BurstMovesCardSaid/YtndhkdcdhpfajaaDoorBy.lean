/-
  Bytes as a list of cells.
-/
import Derived.Test.YtndhkdcdhpfajaaDoorG5
namespace Go.Proofs.YtndhkdcdhpfajaaDoor
open Go.RowKit
set_option linter.unusedVariables false
def bytesOf (z : Nat → Int) (n : Nat) : List Value := (List.range n).map fun i => .int .u8 (z i)
theorem bytesOf_len (z : Nat → Int) (n : Nat) : (bytesOf z n).length = n := by simp [bytesOf]
theorem bytesOf_at (z : Nat → Int) (n i : Nat) (h : i < n) : (bytesOf z n)[i]? = some (.int .u8 (z i)) := by simp [bytesOf, h]
theorem bytesOf_one (z : Nat → Int) (n : Nat) : ∀ v ∈ bytesOf z n, v.oneCell' = true := by
  intro v hv
  simp only [bytesOf, List.mem_map] at hv
  obtain ⟨i, _, rfl⟩ := hv
  rfl
end Go.Proofs.YtndhkdcdhpfajaaDoor
