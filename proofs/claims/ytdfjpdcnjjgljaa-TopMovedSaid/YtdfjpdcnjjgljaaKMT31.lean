/-
  Texts of these proofs, one behind the other: A3.
-/
import Derived.Test.YtdfjpdcnjjgljaaKMT30
import Derived.Test.YtdfjpdcnjjgljaaKMT10
namespace Go.Proofs.Ytdfjpdcnjjgljaa
open Go.RowKit

def digI (k : Nat) : Int := if k < 10 then 48 + k else 55 + k
def figs : Array Value := #[.int .u8 48, .int .u8 49, .int .u8 50, .int .u8 51, .int .u8 52, .int .u8 53, .int .u8 54, .int .u8 55, .int .u8 56, .int .u8 57, .int .u8 65, .int .u8 66, .int .u8 67, .int .u8 68, .int .u8 69, .int .u8 70]
theorem figs_at (k : Nat) (h : k < 16) : figs[k]? = some (.int .u8 (digI k)) := by
  have : k = 0 ∨ k = 1 ∨ k = 2 ∨ k = 3 ∨ k = 4 ∨ k = 5 ∨ k = 6 ∨ k = 7 ∨ k = 8 ∨ k = 9 ∨ k = 10 ∨ k = 11 ∨ k = 12 ∨ k = 13 ∨ k = 14 ∨ k = 15 := by omega
  rcases this with rfl | rfl | rfl | rfl | rfl | rfl | rfl | rfl | rfl | rfl | rfl | rfl | rfl | rfl | rfl | rfl <;> rfl

def valB (c : Int) : Bool := decide ((48 ≤ c ∧ c ≤ 57) ∨ (65 ≤ c ∧ c ≤ 70))
def valI (c : Int) : Int := if valB c then (if c ≤ 57 then c - 48 else c - 55) else 0
theorem valI_bd (c : Int) : 0 ≤ valI c ∧ valI c ≤ 15 := by
  unfold valI valB; simp only [decide_eq_true_eq]; split <;> (try split) <;> omega
theorem val_dig (k : Nat) (h : k < 16) (c : Int) (e : digI k = c) : valB c = true ∧ valI c = k := by
  unfold digI at e
  have hb : valB c = true := by unfold valB; simp only [decide_eq_true_eq]; split at e <;> omega
  refine ⟨hb, ?_⟩
  unfold valI; rw [if_pos hb]
  split at e <;> split <;> omega
theorem val_none (c : Int) (h : ∀ j : Nat, j < 16 → digI j ≠ c) : valB c = false ∧ valI c = 0 := by
  have hb : valB c = false := by
    unfold valB; simp only [decide_eq_false_iff_not]
    intro hc
    rcases hc with hc | hc
    · exact h (c - 48).toNat (by omega) (by unfold digI; rw [if_pos (by omega)]; omega)
    · exact h (c - 55).toNat (by omega) (by unfold digI; rw [if_neg (by omega)]; omega)
  exact ⟨hb, by unfold valI; rw [hb]; rfl⟩
def NoneTo (c : Int) (k : Nat) : Prop := ∀ j : Nat, j < k → digI j ≠ c

end Go.Proofs.Ytdfjpdcnjjgljaa
