/-
  Texts of these proofs, one behind the other: Phys1.
-/
import Derived.Test.YtmbbcfdeielopaaDoorRRRRKTK47
import Derived.Test.YtmbbcfdeielopaaDoorRRRRKTK04
import Derived.Test.YtmbbcfdeielopaaDoorRRRRKTK09
import Derived.Laws.Tables
import Derived.Deep.WholeRow
namespace Go.Proofs.YtmbbcfdeielopaaDoorRRRR
open Go.RowKit
set_option linter.unusedVariables false
def bankI (a : Int) : Int := a % 2097152 / 8192
def offI (a : Int) : Int := a % 8192
def partsC : Array Value := #[.int .u32 0, .int .u8 0, .int .u32 1048576, .int .u8 2, .int .u32 2031616, .int .u8 1, .int .u32 2064384, .int .u8 2, .int .u32 2088960, .int .u8 3, .int .u32 2089984, .int .u8 4, .int .u32 2091008, .int .u8 5, .int .u32 2092032, .int .u8 6, .int .u32 2093056, .int .u8 7, .int .u32 2094080, .int .u8 8, .int .u32 2095104, .int .u8 2]
def partsA : List (Nat × Value) := [(0, .agg #[.int .u32 0, .int .u8 0]), (1, .agg #[.int .u32 1048576, .int .u8 2]), (2, .agg #[.int .u32 2031616, .int .u8 1]), (3, .agg #[.int .u32 2064384, .int .u8 2]), (4, .agg #[.int .u32 2088960, .int .u8 3]), (5, .agg #[.int .u32 2089984, .int .u8 4]), (6, .agg #[.int .u32 2091008, .int .u8 5]), (7, .agg #[.int .u32 2092032, .int .u8 6]), (8, .agg #[.int .u32 2093056, .int .u8 7]), (9, .agg #[.int .u32 2094080, .int .u8 8]), (10, .agg #[.int .u32 2095104, .int .u8 2])]
def fromN : Nat → Int
  | 0 => 0 | 1 => 1048576 | 2 => 2031616 | 3 => 2064384 | 4 => 2088960 | 5 => 2089984 | 6 => 2091008 | 7 => 2092032 | 8 => 2093056 | 9 => 2094080 | 10 => 2095104 | _ => 2097152
def kindN : Nat → Int
  | 0 => 0 | 1 => 2 | 2 => 1 | 3 => 2 | 4 => 3 | 5 => 4 | 6 => 5 | 7 => 6 | 8 => 7 | 9 => 8 | _ => 2
/-- Which part an address lies in. -/
def partAt (x : Int) : Nat := if x < 1048576 then 0 else if x < 2031616 then 1 else if x < 2064384 then 2 else if x < 2088960 then 3 else if x < 2089984 then 4 else if x < 2091008 then 5 else if x < 2092032 then 6 else if x < 2093056 then 7 else if x < 2094080 then 8 else if x < 2095104 then 9 else 10
def whereI (a : Int) : Int := kindN (partAt (a % 2097152))
theorem partAt_lt (x : Int) : partAt x < 11 := by unfold partAt; (repeat' split) <;> omega
theorem below11 (k : Nat) (hk : k < 11) : k = 0 ∨ k = 1 ∨ k = 2 ∨ k = 3 ∨ k = 4 ∨ k = 5 ∨ k = 6 ∨ k = 7 ∨ k = 8 ∨ k = 9 ∨ k = 10 := by omega
theorem fromN_mono (i j : Nat) (h : i ≤ j) (hj : j < 12) : fromN i ≤ fromN j := by
  have : ∀ j : Fin 12, ∀ i : Fin 12, i ≤ j → fromN i ≤ fromN j := by decide
  exact this ⟨j, hj⟩ ⟨i, by omega⟩ h
theorem partAt_in (x : Int) (h0 : 0 ≤ x) (h1 : x < 2097152) : fromN (partAt x) ≤ x ∧ x < fromN (partAt x + 1) := by
  unfold partAt; (repeat' split) <;> simp only [fromN] <;> omega
theorem partAt_iff (x : Int) (h0 : 0 ≤ x) (h1 : x < 2097152) (k : Nat) (hk : k < 11) : fromN k ≤ x ↔ k ≤ partAt x := by
  obtain ⟨a, b⟩ := partAt_in x h0 h1
  have l := partAt_lt x
  constructor
  · intro h
    rcases Nat.lt_or_ge (partAt x) k with c | c
    · have := fromN_mono (partAt x + 1) k c (by omega); omega
    · exact c
  · intro h
    have := fromN_mono k (partAt x) h (by omega); omega
/-- What is where k parts have been passed. -/
def seenN : Nat → Int
  | 0 => 2
  | k + 1 => kindN k
theorem kindN_bd (k : Nat) : 0 ≤ kindN k ∧ kindN k ≤ 8 := by unfold kindN; split <;> omega
theorem whereI_bd (a : Int) : 0 ≤ whereI a ∧ whereI a ≤ 8 := kindN_bd _
def extraB (a : Int) : Bool := whereI a == 3 || whereI a == 4
def regsI (x : Int) : Int := if x = 5 then 16 else if x = 4 then 8 else if x = 3 ∨ x = 8 then 4 else if x = 6 then 2 else if x = 7 then 1 else 0
def regI (a : Int) : Int := if regsI (whereI a) = 0 then -1 else offI a % regsI (whereI a)
theorem reg_bd (a : Int) (n : Int) (h : 0 < n) : 0 ≤ offI a % n := Int.emod_nonneg _ (by omega)
end Go.Proofs.YtmbbcfdeielopaaDoorRRRR
