/-
  Plain facts: bits 6 and 7 of a byte; a frequency's low and high bits.
-/
import Derived.Test.YtnelcbbjnpaodaaMB
namespace Go.Proofs.Ytnelcbbjnpaodaa
open Go.RowKit
set_option linter.unusedVariables false
set_option maxRecDepth 100000
theorem bit6_fin : ∀ b : Fin 256, bitB (b.val : Int) 6 = decide ((b.val : Int) / 64 % 2 = 1) := by decide +kernel
theorem bit7_fin : ∀ b : Fin 256, bitB (b.val : Int) 7 = decide (128 ≤ (b.val : Int)) := by decide +kernel
theorem bit6_eq {b : Int} (h0 : 0 ≤ b) (h1 : b ≤ 255) : bitB b 6 = decide (b / 64 % 2 = 1) := by
  have := bit6_fin ⟨b.toNat, by omega⟩
  rwa [show ((⟨b.toNat, by omega⟩ : Fin 256).val : Int) = b by simp; omega] at this
theorem bit7_eq {b : Int} (h0 : 0 ≤ b) (h1 : b ≤ 255) : bitB b 7 = decide (128 ≤ b) := by
  have := bit7_fin ⟨b.toNat, by omega⟩
  rwa [show ((⟨b.toNat, by omega⟩ : Fin 256).val : Int) = b by simp; omega] at this
theorem fq_not : ∀ n : Fin 4096, bits .andNot .i64 (n.val : Int) 255 = ((n.val / 256 * 256 : Nat) : Int) := by decide +kernel
theorem fq_and : ∀ n : Fin 4096, bits .and .i64 (n.val : Int) 255 = ((n.val % 256 : Nat) : Int) := by decide +kernel
theorem fq_or : ∀ q : Fin 16, ∀ b : Fin 256, bits .or .i64 ((q.val * 256 : Nat) : Int) (b.val : Int) = ((q.val * 256 + b.val : Nat) : Int) := by decide +kernel
theorem fq_ro : ∀ q : Fin 16, ∀ b : Fin 256, bits .or .i64 (b.val : Int) ((q.val * 256 : Nat) : Int) = ((q.val * 256 + b.val : Nat) : Int) := by decide +kernel
theorem fq_low (n b : Nat) (hn : n < 4096) (hb : b < 256) : bits .or .i64 (bits .andNot .i64 (n : Int) 255) (b : Int) = ((n / 256 * 256 + b : Nat) : Int) := by
  rw [fq_not ⟨n, hn⟩]
  exact fq_or ⟨n / 256, by omega⟩ ⟨b, hb⟩
theorem fq_high (n q : Nat) (hn : n < 4096) (hq : q < 16) : bits .or .i64 (bits .and .i64 (n : Int) 255) ((q * 256 : Nat) : Int) = ((q * 256 + n % 256 : Nat) : Int) := by
  rw [fq_and ⟨n, hn⟩]
  exact fq_ro ⟨q, hq⟩ ⟨n % 256, by omega⟩
end Go.Proofs.Ytnelcbbjnpaodaa
