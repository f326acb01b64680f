/-
  Texts of these proofs, one behind the other: A4.
-/
import Derived.Test.YtndhkdcdhpfajaaGreatKEP19
import Derived.Test.YtndhkdcdhpfajaaGreatKEP20
namespace Go.Proofs.YtndhkdcdhpfajaaGreat
open Go.RowKit
def hexL (n : Int) : Nat → List Int
  | 0 => []
  | k + 1 => hexL (n / 16) k ++ [digI (n % 16).toNat]
theorem figs_int (m : Int) (a : 0 ≤ m) (b : m < 16) : figs[m.toNat]? = some (.int .u8 (digI m.toNat)) := figs_at _ (by omega)
def held8 (d : Int) : Nat := if d < 1 then 1 else if 8 < d then 8 else d.toNat
end Go.Proofs.YtndhkdcdhpfajaaGreat
