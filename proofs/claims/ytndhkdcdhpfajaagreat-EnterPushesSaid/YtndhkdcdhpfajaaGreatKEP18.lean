/-
  Texts of these proofs, one behind the other: A2.
-/
import Derived.Test.YtndhkdcdhpfajaaGreatKEP13
import Derived.Handy
namespace Go.Proofs.YtndhkdcdhpfajaaGreat
open Go.RowKit

def countTo (b : Int) : Nat → Int
  | 0 => 0
  | k + 1 => countTo b k + if bitB b k then 1 else 0
theorem countTo_bd (b : Int) (k : Nat) : 0 ≤ countTo b k ∧ countTo b k ≤ k := by
  induction k with
  | zero => simp [countTo]
  | succ k ih => simp only [countTo]; split <;> omega
def firstFrom (b : Int) : Nat → Int
  | 0 => -1
  | k + 1 => if bitB b ((7 : Int) - k) then 7 - k else firstFrom b k
end Go.Proofs.YtndhkdcdhpfajaaGreat
