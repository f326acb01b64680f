/-
  Texts of these proofs, one behind the other: Opc8.
-/
import Derived.Test.YtdhnnegigjjoeaaDoorKMD11
import Derived.Test.YtdhnnegigjjoeaaDoorKMD32
import Derived.Test.YtdhnnegigjjoeaaDoorKMD07
namespace Go.Proofs.YtdhnnegigjjoeaaDoor
open Go.RowKit
set_option linter.unusedVariables false
set_option linter.unusedSimpArgs false
set_option maxRecDepth 100000
/-- How many bytes an instruction has that begins with a byte. -/
def szN (b : Int) : Nat := (opZ b.toNat).toNat
theorem szN_eq (b : Int) : (szN b : Int) = opZ b.toNat := by
  have := bhP_bd (opM b.toNat : Int)
  unfold szN opZ
  omega
theorem szN_bd (b : Int) : 1 ≤ szN b ∧ szN b ≤ 7 := by
  have := bhP_bd (opM b.toNat : Int)
  unfold szN opZ
  omega
/-- Where the instructions begin. -/
def posN (z : Nat → Int) : Nat → Nat
  | 0 => 0
  | i + 1 => posN z i + szN (z (posN z i))
theorem posN_ge (z : Nat → Int) : ∀ i, i ≤ posN z i
  | 0 => Nat.zero_le _
  | i + 1 => by
    have := posN_ge z i
    have := (szN_bd (z (posN z i))).1
    show i + 1 ≤ posN z i + szN (z (posN z i))
    omega
def posV (z : Nat → Int) (m : Nat) : List Value := (List.range m).map fun i => .int .i64 (posN z i : Int)
theorem posV_len (z : Nat → Int) (m : Nat) : (posV z m).length = m := by simp [posV]
theorem posV_snoc (z : Nat → Int) (m : Nat) : posV z (m + 1) = posV z m ++ (#[.int .i64 (posN z m : Int)] : Array Value).toList := by simp [posV, List.range_succ]
def WalkR (z : Nat → Int) (n : Nat) (w : World) (e : Ending) (w' : World) : Prop :=
  ∃ v m, e = .returned (.tuple #[v, .int .i64 (posN z m : Int)]) ∧ w'.ownsRow w.heap.size 3 1 v m (posV z m) ∧ (∀ i, i < m → posN z i < n ∧ szN (z (posN z i)) ≤ n - posN z i) ∧ posN z m ≤ n ∧ ¬ (posN z m < n ∧ szN (z (posN z m)) ≤ n - posN z m) ∧ Below w.heap.size w w'
theorem int_inf : (Tryd.prog.info? 3).map (fun i => (i.zero, i.size, i.bytes)) = some (some (.int .i64 0), 1, 8) := by kernel_rfl
theorem op_field (S : ByteArray) (m k y : Int) (W : World) : (Instr.field 48 (.agg #[.string S, .int .u8 m, .int .i64 k, .int .i64 y]) 2).run Tryd.prog W = .ok (.int .i64 k) W := by kernel_rfl
end Go.Proofs.YtdhnnegigjjoeaaDoor
