/-
  Texts of these proofs, one behind the other: Cart5.
-/
import Derived.Test.YtdfjpdcnjjgljaaKMT29
import Derived.Test.YtdfjpdcnjjgljaaKMT35
namespace Go.Proofs.Ytdfjpdcnjjgljaa
open Go.RowKit
set_option linter.unusedVariables false
theorem laid_wf {w : World} {ps : Nat → Pc} {m : Nat} (h : ∀ i, i < m → PcOk w (ps i)) (k : Nat) (hk : k ≤ m) (i : Nat) : (Lit.int .u8 (laid ps k i)).wf = true := by
  induction k with
  | zero => rfl
  | succ k ih =>
    simp only [laid]
    split
    · rename_i c
      obtain ⟨_, _, _, _, hw⟩ := (h k (by omega)).2.2.2 ((i : Int) - (ps k).at_).toNat (by omega)
      exact hw
    · exact ih (by omega)
theorem PRow.ok {w : World} {A : Option Addr} {m : Nat} {ps : Nat → Pc} (R : PRow w A m ps) (i : Nat) (hi : i < m) : PcOk w (ps i) := by
  obtain ⟨_, _, _, _, _, h⟩ := R i hi
  exact h
theorem IRow.of_blk {w : World} {g : Nat} {t : TypeId} {C : List Value} {S : Nat} {f : Nat → Int} (h : Blk w g t C.toArray) (hA : BArr C S f) (hw : ∀ i, (Lit.int .u8 (f i)).wf = true) : IRow w .u8 (some ⟨g, 0, none⟩) S f := fun i hi =>
  ⟨_, rfl, h.lt, by rw [add_zero_block, h.cell]; simpa using hA.2 i hi, hw i⟩
end Go.Proofs.Ytdfjpdcnjjgljaa
