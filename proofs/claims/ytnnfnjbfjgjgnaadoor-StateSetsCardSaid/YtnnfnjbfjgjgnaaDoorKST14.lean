/-
  Texts of these proofs, one behind the other: St1.
-/
import Derived.Test.YtnnfnjbfjgjgnaaDoorRows
import Derived.Test.YtnnfnjbfjgjgnaaDoorKST08
import Derived.Test.YtnnfnjbfjgjgnaaDoorKST04
import Derived.Test.YtnnfnjbfjgjgnaaDoorKST13
namespace Go.Proofs.YtnnfnjbfjgjgnaaDoor
open Go.RowKit
set_option linter.unusedVariables false
set_option linter.unusedSimpArgs false
set_option maxRecDepth 100000
/-- What a register may be at most. -/
def mostP (i : Nat) : Int := if i = 5 then 65535 else if i = 15 then 1 else 255
def StOk (r : Nat → Int) : Prop := ∀ i, i < 16 → 0 ≤ r i ∧ r i ≤ mostP i
def stA (r : Nat → Int) : Array Value := #[.int .u8 (r 0), .int .u8 (r 1), .int .u8 (r 2), .int .u8 (r 3), .int .u8 (r 4), .int .u16 (r 5), .int .u8 (r 6), .int .u8 (r 7), .int .u8 (r 8), .int .u8 (r 9), .int .u8 (r 10), .int .u8 (r 11), .int .u8 (r 12), .int .u8 (r 13), .int .u8 (r 14), .bool (decide (r 15 = 1))]
def rwA (r : Nat → Int) : Array Value := vArr 16 fun j => .int .u16 (r j)
theorem smost_any (i : Nat) (w : World) : Calls Tryd.prog 25 #[.int .i64 (i : Int)] w fun e w' => e = .returned (.int .u16 (mostP i)) ∧ w = w' := by
  unfold mostP
  by_cases h5 : i = 5
  · subst h5
    go_enter Tryd.func25, Tryd.ntmps25
    go_wp2_with fail
    go_ret
    exact ⟨rfl, rfl⟩
  · have e5 : ((i : Int) == 5) = false := by simp; omega
    rw [if_neg h5]
    by_cases h15 : i = 15
    · subst h15
      go_enter Tryd.func25, Tryd.ntmps25
      go_wp2_with fail
      go_ret
      exact ⟨rfl, rfl⟩
    · have e15 : ((i : Int) == 15) = false := by simp; omega
      rw [if_neg h15]
      go_enter Tryd.func25, Tryd.ntmps25
      go_wp2_with fail
      go_ret
      exact ⟨rfl, rfl⟩
end Go.Proofs.YtnnfnjbfjgjgnaaDoor
