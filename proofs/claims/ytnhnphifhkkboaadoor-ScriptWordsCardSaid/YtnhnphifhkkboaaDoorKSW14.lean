/-
  Texts of these proofs, one behind the other: G8.
-/
import Derived.WalkKit
import Derived.Laws.Tables
namespace Go.Proofs.YtnhnphifhkkboaaDoor
open Go.RowKit
set_option linter.unusedVariables false
/-- A literal of a struct or an array: its cells are known. -/
theorem wpList_build {P : Program} {w : World} {ops : Array Oper} {rest : List Oper} {o : Oper} {a : Act} {Q : Exit → Act → World → Prop} (hg : o.guard = none) (t : TypeId) (parts : Array (Nat × Operand))
    (ho : o.op = .build t parts) (vals : List (Nat × Value)) (hv : (parts.toList.map fun p => (p.1, a.eval p.2)) = vals) (cells : Array Value) (hc : P.built t vals = some cells)
    (h : wpList P ops Q rest (a.put o.dst (.agg cells)) w) : wpList P ops Q (o :: rest) a w :=
  wpList_plain hg fun K hK => by
    unfold Oper.wp execOp
    simp only [ho, Sem.run_bind]
    rw [run_build w t _ cells (by rw [Array.toList_map]; exact hv ▸ hc)]
    simp only [Result.andThen_ok]
    exact hK _ _ h
/-- A result that lies in memory: the variable is loaded whole. -/
theorem results_cell {P : Program} {fn : Func} {s : Tmp} {t : TypeId} {v : Value} {tmps : Array Value} {a : Addr} {w : World} (h : fn.results = #[.cell s t]) (ha : tmps[s]?.getD undef = .pointer (some a)) (hl : (loadVar t a).run P w = .ok v w) : (results fn tmps).run P w = .ok v w := by
  simp [results, h, ha, asAddr, hl]
end Go.Proofs.YtnhnphifhkkboaaDoor
