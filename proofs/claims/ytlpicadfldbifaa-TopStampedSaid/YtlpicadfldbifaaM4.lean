/-
  Plain facts on stamps of accesses that are lengthened by the bits of a byte, for every byte.
-/
import Derived.Test.YtlpicadfldbifaaC5
import Derived.Test.YtlpicadfldbifaaA2
namespace Go.Proofs.Ytlpicadfldbifaa
open Go.RowKit
set_option maxRecDepth 100000
theorem m_first : ∀ b : Nat, b < 256 → ∀ k : Nat, k < 9 → (firstFrom b 8 < 0 → countTo b k = 0) ∧ (0 ≤ firstFrom b 8 → firstFrom b 8 < k → 1 ≤ countTo b k) := by decide +kernel
theorem first_bd : ∀ b : Nat, b < 256 → -1 ≤ firstFrom b 8 ∧ firstFrom b 8 ≤ 7 := by decide +kernel
theorem stamp_count (s b : Int) (f : Bool) (k : Nat) : stampAt s f (fun i => bitB b i) k = s + lenI f false * (k + countTo b k) := by
  induction k with
  | zero => simp [stampAt, countTo]
  | succ k ih =>
    simp only [stampAt, countTo]
    rw [ih]
    cases f <;> cases bitB b k <;> simp [lenI] <;> omega
theorem asVal {P : Program} {f : FuncId} {args : Array Value} {w : World} {v v' : Value} {Q : World → Prop} (h : Calls P f args w fun e w' => e = .returned v ∧ Q w') (e : v = v') : Calls P f args w fun e w' => e = .returned v' ∧ Q w' := e ▸ h
end Go.Proofs.Ytlpicadfldbifaa
