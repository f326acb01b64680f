/-
  Texts of these proofs, one behind the other: Ram6.
-/
import Derived.Test.YtdfjpdcnjjgljaaKMT24
import Derived.Test.YtdfjpdcnjjgljaaKMT07
import Derived.Test.YtdfjpdcnjjgljaaKMT27
namespace Go.Proofs.Ytdfjpdcnjjgljaa
open Go.RowKit
set_option linter.unusedVariables false
set_option linter.unusedSimpArgs false
set_option maxRecDepth 100000
theorem make_room (n : Nat) (hn : n ≤ 16777216) (w : World) : ∃ cur, cur.size = n ∧ (Instr.makeSlice 31 (.int .i64 0) (.int .i64 (n : Int))).run Try.prog w = .ok (.slice (some ⟨w.heap.size, 0, none⟩) 0 n) (w.alloc (.cells cur 5)) := by
  obtain ⟨i, hi, hzz⟩ := Option.map_eq_some_iff.1 u8_info'
  simp only [Prod.mk.injEq] at hzz
  obtain ⟨hz, hs, hb⟩ := hzz
  have h := run_makeSlice (P := Try.prog) w 31 5 i _ Try.underlying31 hi hz .i64 .i64 0 n (by omega) (by omega) (by rw [hs]; simp; omega) (by rw [hb]; omega) (by omega)
  refine ⟨_, ?_, h⟩
  simp [madeCells, hs]
theorem intsOf_congr (z z' : Nat → Int) (n : Nat) (h : ∀ i, i < n → z i = z' i) : intsOf .u8 z n = intsOf .u8 z' n := by
  unfold intsOf
  apply List.map_congr_left
  intro i hi
  rw [h i (by simpa using hi)]
theorem arr_row {w : World} {g : Nat} {z : Nat → Int} (h : Blk w g 47 (arr z)) (hw : ∀ i, i < 64 → (Lit.int .u8 (z i)).wf = true) : IRow w .u8 (some ⟨g, 0, none⟩) 64 z := fun i hi =>
  ⟨_, rfl, h.lt, by rw [add_zero_block, h.cell i]; exact arr_at z i hi, hw i hi⟩
def PiecesR (f : Nat → Int) (w : World) (e : Ending) (w' : World) : Prop :=
  (∃ v ps B, e = .returned v ∧ w'.ownsRow B 57 2 v (runs f 8192).length (cellsP ps (runs f 8192).length) ∧ PL w' f (runs f 8192) ps) ∧ Below w.heap.size w w'
theorem runs_congr (z z' : Nat → Int) (n : Nat) (h : ∀ i, i < n → z i = z' i) : runs z n = runs z' n := by
  induction n with
  | zero => rfl
  | succ n ih =>
    have e := ih fun i hi => h i (by omega)
    rw [runs_succ, runs_succ, e, h n (by omega)]
    rcases Nat.eq_zero_or_pos n with rfl | hp
    · simp
    · rw [h (n - 1) (by omega)]
end Go.Proofs.Ytdfjpdcnjjgljaa
