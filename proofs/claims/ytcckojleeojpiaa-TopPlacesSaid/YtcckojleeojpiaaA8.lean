/-
  What the reference's With, Left, Right and digits answer, for every byte; they only make memory.
-/
import Derived.Test.YtcckojleeojpiaaA7
import Derived.Deep.RegionWith
namespace Go.Proofs.Ytcckojleeojpiaa
open Go.RowKit
def bitsL (b : Int) : List Bool := [rbit b 0, rbit b 1, rbit b 2, rbit b 3, rbit b 4, rbit b 5, rbit b 6, rbit b 7]
def rwith (b n : Int) (on : Bool) : Int := if 0 ≤ n ∧ n ≤ 7 then ofTo ((bitsL b).set n.toNat on) 8 else b
theorem digits_any (w : World) :
    Calls Try.prog 61 #[] w fun e w' => e = .returned (.string ⟨#[48, 49, 50, 51, 52, 53, 54, 55, 56, 57, 65, 66, 67, 68, 69, 70]⟩) ∧ w = w' := by
  go_enter Try.func61, Try.ntmps61
  go_wp2
  go_ret
  exact ⟨rfl, rfl⟩
end Go.Proofs.Ytcckojleeojpiaa
