/-
  Texts of these proofs, one behind the other: Cart6, MR.
-/
import Derived.Test.YtdfjpdcnjjgljaaKMT25
import Derived.Test.YtdfjpdcnjjgljaaKMT06
import Derived.Test.YtdfjpdcnjjgljaaKMT05
import Derived.Deep.QuietTactic
import Derived.BigQuiet
import Derived.WalkSmall
namespace Go.Proofs.Ytdfjpdcnjjgljaa
open Go.RowKit
set_option linter.unusedVariables false
/-- How many bytes, from the first one on, are 0, or aren't. -/
def AheadAt (z : Nat → Int) (n : Nat) (zero : Bool) (k : Nat) : Prop := k ≤ n ∧ (∀ j, j < k → (z j == 0) = zero) ∧ (k < n → (z k == 0) = !zero)
theorem ne_self (x : Int) : (x != x) = false := by simp
def smallB (ps : Nat → Pc) (m : Nat) : Bool := decide (m ≤ 20) && (List.range m).all fun i => decide ((ps i).n ≤ 20000)
theorem small_no (ps : Nat → Pc) (m k : Nat) (hk : k < m) (h : ¬ (ps k).n ≤ 20000) : smallB ps m = false := by
  unfold smallB
  rw [Bool.and_eq_false_iff]; right
  rw [List.all_eq_false]
  exact ⟨k, by simpa using hk, by simpa using h⟩
theorem small_yes (ps : Nat → Pc) (m : Nat) (hm : m ≤ 20) (h : ∀ k, k < m → (ps k).n ≤ 20000) : smallB ps m = true := by
  unfold smallB
  simp only [Bool.and_eq_true, decide_eq_true_eq, List.all_eq_true, List.mem_range]
  exact ⟨hm, h⟩
theorem small_len (ps : Nat → Pc) (m : Nat) (h : smallB ps m = true) : m ≤ 20 ∧ ∀ k, k < m → (ps k).n ≤ 20000 := by
  unfold smallB at h
  simpa only [Bool.and_eq_true, decide_eq_true_eq, List.all_eq_true, List.mem_range] using h
end Go.Proofs.Ytdfjpdcnjjgljaa
namespace Go.Proofs.Ytdfjpdcnjjgljaa
open Go.RowKit
set_option linter.unusedVariables false
/-- The rows of bytes that aren't 0 among the first i bytes: where each begins, and how long it is. -/
def runs (z : Nat → Int) : Nat → List (Nat × Nat)
  | 0 => []
  | i + 1 => if z i = 0 then runs z i else if 0 < i ∧ z (i - 1) ≠ 0 then (runs z i).dropLast ++ [(((runs z i).getLastD (0, 0)).1, ((runs z i).getLastD (0, 0)).2 + 1)] else runs z i ++ [(i, 1)]
theorem runs_len (z : Nat → Int) (i : Nat) : (runs z i).length ≤ i := by
  induction i with
  | zero => simp [runs]
  | succ i ih =>
    simp only [runs]
    split
    · omega
    · split
      · rename_i h
        have : 0 < (runs z i).length ∨ (runs z i).length = 0 := by omega
        rw [List.length_append, List.length_dropLast]; simp; omega
      · simp; omega
theorem runs_zero (z : Nat → Int) (e f : Nat) (h : e ≤ f) (hz : ∀ j, e ≤ j → j < f → z j = 0) : runs z f = runs z e := by
  induction f with
  | zero => rw [show e = 0 by omega]
  | succ f ih =>
    rcases Nat.lt_or_ge e (f + 1) with h1 | h1
    · simp only [runs]
      rw [if_pos (hz f (by omega) (by omega))]
      exact ih (by omega) fun j a b => hz j a (by omega)
    · rw [show e = f + 1 by omega]
theorem runs_succ (z : Nat → Int) (i : Nat) : runs z (i + 1) = if z i = 0 then runs z i else if 0 < i ∧ z (i - 1) ≠ 0 then (runs z i).dropLast ++ [(((runs z i).getLastD (0, 0)).1, ((runs z i).getLastD (0, 0)).2 + 1)] else runs z i ++ [(i, 1)] := rfl
theorem runs_block (z : Nat → Int) (f d : Nat) (hf : f = 0 ∨ z (f - 1) = 0) (hz : ∀ j, j < d + 1 → z (f + j) ≠ 0) : runs z (f + (d + 1)) = runs z f ++ [(f, d + 1)] := by
  induction d with
  | zero =>
    have h0 : z f ≠ 0 := hz 0 (by omega)
    rw [show f + (0 + 1) = f + 1 from rfl, runs_succ, if_neg h0, if_neg (by rintro ⟨a, b⟩; rcases hf with h | h; omega; exact b h)]
  | succ d ih =>
    have h1 := ih fun j hj => hz j (by omega)
    rw [show f + (d + 1 + 1) = (f + (d + 1)) + 1 from rfl, runs_succ, if_neg (hz (d + 1) (by omega)), if_pos ⟨by omega, by rw [show f + (d + 1) - 1 = f + d by omega]; exact hz d (by omega)⟩, h1]
    simp
end Go.Proofs.Ytdfjpdcnjjgljaa
