/-
  Two arrays compared; over any program.
-/
import Derived.Laws.StructEq
import Derived.WalkKit
namespace Go.Proofs.YtndhkdcdhpfajaaDoor
open Go.RowKit
theorem run_equalIn_array {P : Program} (w : World) (d : Nat) (t e : TypeId) (len : Nat) (xs ys : Array Value) (p : Nat → Bool) (ht : P.underlying t = some (.array len e)) (hs : (sizeOf e).run P w = .ok 1 w)
    (h : ∀ i, i < len → ∃ a b, (part e xs (i * 1)).run P w = .ok a w ∧ (part e ys (i * 1)).run P w = .ok b w ∧ (Op.equalIn d e a b).run P w = .ok (p i) w) :
    (Op.equalIn (d + 1) t (.agg xs) (.agg ys)).run P w = .ok ((List.range len).all p) w := by
  simp only [Op.equalIn, Sem.run_bind, run_underlying ht, Result.andThen_ok, hs]
  rw [Std.Legacy.Range.forIn_eq_forIn_range']
  have hL : ∀ i ∈ List.range' 0 len, i < len := fun i hi => by simpa using hi
  rw [List.range_eq_range']
  simp only [Std.Legacy.Range.size, Nat.sub_zero, Nat.add_sub_cancel, Nat.div_one]
  generalize List.range' 0 len = L at *
  induction L with
  | nil => simp
  | cons i L ih =>
    obtain ⟨a, b, h1, h2, h3⟩ := h i (hL i (by simp))
    simp only [List.forIn_cons, Sem.run_bind, h1, h2, h3, Result.andThen_ok, Sem.run_ite]
    cases hp : p i with
    | false => simp [hp]
    | true =>
      simp only [hp, List.all_cons, Bool.true_and]
      simpa using ih (fun j hj => hL j (by simp [hj]))
end Go.Proofs.YtndhkdcdhpfajaaDoor
