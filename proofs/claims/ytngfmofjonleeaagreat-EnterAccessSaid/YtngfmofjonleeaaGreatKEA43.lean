/-
  Texts of these proofs, one behind the other: G25, Sam1.
-/
import Derived.Test.YtngfmofjonleeaaGreatKEA10
import Derived.Test.YtngfmofjonleeaaGreatKEA11
import Derived.Test.YtngfmofjonleeaaGreatKEA02
import Derived.Test.YtngfmofjonleeaaGreatProg
import Derived.Test.YtngfmofjonleeaaGreatKEA01
import Derived.WalkKit
import Derived.WalkSpells
import Derived.WalkLawsBesides
import Derived.BigQuiet
import Derived.Deep.QuietTactic
import Derived.Lib.Hide
namespace Go.Proofs.YtngfmofjonleeaaGreat
open Go.RowKit
set_option linter.unusedVariables false
set_option linter.unusedSimpArgs false
theorem run_equalIn_arrayM {P : Program} (w : World) (d : Nat) (t e : TypeId) (len m : Nat) (xs ys : Array Value) (p : Nat → Bool) (ht : P.underlying t = some (.array len e)) (hs : (sizeOf e).run P w = .ok m w)
    (h : ∀ i, i < len → ∃ a b, (part e xs (i * m)).run P w = .ok a w ∧ (part e ys (i * m)).run P w = .ok b w ∧ (Op.equalIn d e a b).run P w = .ok (p i) w) :
    (Op.equalIn (d + 1) t (.agg xs) (.agg ys)).run P w = .ok ((List.range len).all p) w := by
  simp only [Op.equalIn, Sem.run_bind, run_underlying ht, Result.andThen_ok, hs]
  rw [Std.Legacy.Range.forIn_eq_forIn_range']
  have hL : ∀ i ∈ List.range' 0 len, i < len := fun i hi => by simpa using hi
  rw [List.range_eq_range']
  simp only [Std.Legacy.Range.size, Nat.sub_zero, Nat.add_sub_cancel, Nat.div_one]
  generalize List.range' 0 len = L at *
  induction L with
  | nil => simp
  | cons i L ih =>
    obtain ⟨a, b, h1, h2, h3⟩ := h i (hL i (by simp))
    simp only [List.forIn_cons, Sem.run_bind, h1, h2, h3, Result.andThen_ok, Sem.run_ite]
    cases hp : p i with
    | false => simp [hp]
    | true =>
      simp only [hp, List.all_cons, Bool.true_and]
      simpa using ih (fun j hj => hL j (by simp [hj]))
theorem run_part_flat {P : Program} {e : TypeId} (he : flat P e = true) {cs : Array Value} {o : Nat} {v : Value} (hv : cs[o]? = some v) (w : World) : (part e cs o).run P w = .ok v w := by
  unfold flat at he
  simp only [Bool.and_eq_true, Option.any_eq_true] at he
  obtain ⟨he, _⟩ := he
  cases hu : P.underlying e with
  | none => simp [hu] at he
  | some d => cases d <;> simp [hu] at he <;> simp [part, isAgg, run_underlying hu, hv]
theorem run_sizeOf {P : Program} {e : TypeId} {m : Nat} (hm : (P.info? e).map (·.size) = some m) (w : World) : (sizeOf e).run P w = .ok m w := by
  obtain ⟨inf, hi, hs⟩ : ∃ inf, P.info? e = some inf ∧ inf.size = m := by
    cases hx : P.info? e with
    | none => simp [hx] at hm
    | some i => exact ⟨i, rfl, by simpa [hx] using hm⟩
  simp [sizeOf, typeInfo, hi, hs]
/-- Two arrays of integers compared. -/
theorem run_eql_ints {P : Program} {t e : TypeId} {n : Nat} {k : IntKind} (ht : P.underlying t = some (.array n e)) (he : P.underlying e = some (.int k)) (hf : flat P e = true) (hs : (P.info? e).map (·.size) = some 1) (d : Nat) (f g : Nat → Int) (w : World) :
    (Op.equalIn (d + 2) t (.agg (vArr n fun i => .int k (f i))) (.agg (vArr n fun i => .int k (g i)))).run P w = .ok ((List.range n).all fun i => f i == g i) w :=
  run_equalIn_arrayM w (d + 1) t e n 1 _ _ _ ht (run_sizeOf hs w) fun i hi => ⟨.int k (f i), .int k (g i), run_part_flat hf (by rw [Nat.mul_one]; exact vArr_at n _ i hi) w, run_part_flat hf (by rw [Nat.mul_one]; exact vArr_at n _ i hi) w, by simp [Op.equalIn, run_underlying he]⟩
end Go.Proofs.YtngfmofjonleeaaGreat
namespace Go.Proofs.YtngfmofjonleeaaGreat
open Go.RowKit
set_option linter.unusedVariables false
set_option linter.unusedSimpArgs false
set_option maxRecDepth 100000
theorem IRow.congr {w : World} {k : IntKind} {A : Option Addr} {n : Nat} {z z' : Nat → Int} (h : IRow w k A n z) (e : ∀ i, i < n → z i = z' i) : IRow w k A n z' := fun i hi => by
  obtain ⟨ad, h1, h2, h3, h4⟩ := h i hi
  rw [e i hi] at h3 h4
  exact ⟨ad, h1, h2, h3, h4⟩
end Go.Proofs.YtngfmofjonleeaaGreat
