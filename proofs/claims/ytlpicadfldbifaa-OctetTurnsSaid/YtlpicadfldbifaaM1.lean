/-
  Plain facts on bits of bytes, for every byte.
-/
import Derived.Test.YtlpicadfldbifaaB1
namespace Go.Proofs.Ytlpicadfldbifaa
open Go.RowKit
set_option maxRecDepth 100000
theorem m_with_or : ∀ b : Nat, b < 256 → bits .or .u8 b 0 = b := by decide +kernel
theorem m_with_an : ∀ b : Nat, b < 256 → bits .andNot .u8 b 0 = b := by decide +kernel
theorem m_and : ∀ b : Nat, b < 256 → bits .and .u8 b 0 = 0 := by decide +kernel
theorem m_bit : ∀ b : Nat, b < 256 → ∀ n : Nat, n < 8 → bitB b n = rbit b n := by decide +kernel
theorem m_with : ∀ b : Nat, b < 256 → ∀ n : Nat, n < 8 → ∀ on : Bool, withI b n on = rwith b n on := by decide +kernel
theorem m_withbit : ∀ b : Nat, b < 256 → ∀ n : Nat, n < 8 → ∀ on : Bool, ∀ i : Nat, i < 8 → bitB (withI b n on) i = if (i : Int) = n then on else rbit b i := by decide +kernel
end Go.Proofs.Ytlpicadfldbifaa
