/-
  Plain facts: where bytes that aren't 0 begin, and how many there are.
-/
import Derived.Test.YtfhndajhlpakoaaCart6
namespace Go.Proofs.Ytfhndajhlpakoaa
open Go.RowKit
set_option linter.unusedVariables false
/-- The rows of bytes that aren't 0 among the first i bytes: where each begins, and how long it is. -/
def runs (z : Nat → Int) : Nat → List (Nat × Nat)
  | 0 => []
  | i + 1 => if z i = 0 then runs z i else if 0 < i ∧ z (i - 1) ≠ 0 then (runs z i).dropLast ++ [(((runs z i).getLastD (0, 0)).1, ((runs z i).getLastD (0, 0)).2 + 1)] else runs z i ++ [(i, 1)]
theorem runs_len (z : Nat → Int) (i : Nat) : (runs z i).length ≤ i := by
  induction i with
  | zero => simp [runs]
  | succ i ih =>
    simp only [runs]
    split
    · omega
    · split
      · rename_i h
        have : 0 < (runs z i).length ∨ (runs z i).length = 0 := by omega
        rw [List.length_append, List.length_dropLast]; simp; omega
      · simp; omega
theorem runs_zero (z : Nat → Int) (e f : Nat) (h : e ≤ f) (hz : ∀ j, e ≤ j → j < f → z j = 0) : runs z f = runs z e := by
  induction f with
  | zero => rw [show e = 0 by omega]
  | succ f ih =>
    rcases Nat.lt_or_ge e (f + 1) with h1 | h1
    · simp only [runs]
      rw [if_pos (hz f (by omega) (by omega))]
      exact ih (by omega) fun j a b => hz j a (by omega)
    · rw [show e = f + 1 by omega]
theorem runs_succ (z : Nat → Int) (i : Nat) : runs z (i + 1) = if z i = 0 then runs z i else if 0 < i ∧ z (i - 1) ≠ 0 then (runs z i).dropLast ++ [(((runs z i).getLastD (0, 0)).1, ((runs z i).getLastD (0, 0)).2 + 1)] else runs z i ++ [(i, 1)] := rfl
theorem runs_block (z : Nat → Int) (f d : Nat) (hf : f = 0 ∨ z (f - 1) = 0) (hz : ∀ j, j < d + 1 → z (f + j) ≠ 0) : runs z (f + (d + 1)) = runs z f ++ [(f, d + 1)] := by
  induction d with
  | zero =>
    have h0 : z f ≠ 0 := hz 0 (by omega)
    rw [show f + (0 + 1) = f + 1 from rfl, runs_succ, if_neg h0, if_neg (by rintro ⟨a, b⟩; rcases hf with h | h; omega; exact b h)]
  | succ d ih =>
    have h1 := ih fun j hj => hz j (by omega)
    rw [show f + (d + 1 + 1) = (f + (d + 1)) + 1 from rfl, runs_succ, if_neg (hz (d + 1) (by omega)), if_pos ⟨by omega, by rw [show f + (d + 1) - 1 = f + d by omega]; exact hz d (by omega)⟩, h1]
    simp
end Go.Proofs.Ytfhndajhlpakoaa
