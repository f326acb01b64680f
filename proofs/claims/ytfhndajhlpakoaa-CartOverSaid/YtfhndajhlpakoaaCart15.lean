/-
  What the reference's Same of two rows of pieces answers, where they are alike.
-/
import Derived.Test.YtfhndajhlpakoaaCart14
import Derived.Test.YtfhndajhlpakoaaCart6
import Derived.StillTailTactics
namespace Go.Proofs.Ytfhndajhlpakoaa
open Go.RowKit
set_option linter.unusedVariables false
/-- The pieces of a row of the call's own. -/
theorem prow_own {w : World} {B g m cap : Nat} {z : Nat → Int} {L : List (Nat × Nat)} {ps : Nat → Pc} (h : w.ownsRow B 25 2 (.slice (some ⟨g, 0, none⟩) m cap) m (cellsP ps m)) (hm : m = L.length) (hP : PL w z L ps) : PRow w (some ⟨g, 0, none⟩) m ps := fun i hi => by
  have hc := cellsP_at ps m i hi
  obtain ⟨_, _, _, ok, _⟩ := hP i (by omega)
  refine ⟨_, rfl, (h.lt g rfl).2, h.cells (g := g) rfl _ _ hc.1, h.cells (g := g) rfl _ _ hc.2, ok⟩
set_option maxRecDepth 100000 in
set_option maxHeartbeats 4000000 in
theorem rsameP_yes {w : World} (A B : Option Addr) (m c d : Nat) (ps qs : Nat → Pc) (hm : m ≤ 1048576) (R : PRow w A m ps) (Q : PRow w B m qs) (h : ∀ i, i < m → (qs i).at_ = (ps i).at_ ∧ (qs i).n = (ps i).n ∧ (qs i).z = (ps i).z) :
    Calls Try.prog 41 #[.slice A m c, .slice B m d] w fun e w' => e = .returned (.bool true) ∧ Below w.heap.size w w' := by
  have n0 : ((m : Int) != m) = false := by simp
  go_enter Try.func41, Try.ntmps41
  go_wp2_with fail
  clear n0
  go_loopw [5] (fun i wr => ∃ k : Nat, k ≤ m ∧ i = .int .i64 k ∧ Below w.heap.size w wr) (fun i _ => m - (intOf i).toNat)
  case atStart => exact ⟨0, by omega, rfl, Below.refl _ _⟩
  case round =>
    obtain ⟨k, hk, rfl, hB⟩ := hrel
    by_cases hlt : k < m
    · obtain ⟨a1, rfl, l1, x1, y1, ok1⟩ := (R.keep hB) k hlt
      obtain ⟨a2, rfl, l2, x2, y2, ok2⟩ := (Q.keep hB) k hlt
      have y1' := cell_next y1
      have y2' := cell_next y2
      obtain ⟨e1, e2, e3⟩ := h k hlt
      rw [e1] at x2
      rw [e2] at y2'
      have RB1 := ok1.2.2.2
      have RB2 := ok2.2.2.2
      rw [e2, e3] at RB2
      have nle : (ps k).n ≤ maxLen := Nat.le_trans ok1.2.1 ok1.2.2.1
      have NS := ne_self (ps k).at_
      clear y1 y2 e1 e2 e3 ok1 ok2
      generalize (ps k).at_ = V at *
      generalize (ps k).n = nn at *
      generalize (ps k).A = A1 at *
      generalize (ps k).c = C1 at *
      generalize (qs k).A = A2 at *
      generalize (qs k).c = C2 at *
      generalize (ps k).z = zz at *
      have i1 : (0 : Int) ≤ (k : Int) := by omega
      have i2 : (k : Int) < m := by omega
      have HN := Lib.hid nle
      clear nle
      go_wp2_with fail
      go_still_tail 22, (by kernel_rfl)
      change wpList _ _ _ _ _ wr.drew
      have RB3 : IRow wr.drew .u8 A1 nn zz := RB1
      have RB4 : IRow wr.drew .u8 A2 nn zz := RB2
      have hB3 : Below w.heap.size w wr.drew := hB.drew
      clear RB1 RB2 x1 x2 y1' y2' R Q h
      generalize wr.drew = w3 at *
      go_wp2_with fail
      refine (same_yes A1 A2 nn C1 C2 zz HN.out RB3 RB4).mono ?_
      rintro e w4 ⟨rfl, hb4⟩
      have hB4 := hB3.trans (hb4.mono hB3.size)
      go_wp2_with fail
      go_roundw
      case rel => exact ⟨k + 1, by omega, by go_num, hB4⟩
      case measure => simp [intOf]; omega
    · obtain rfl : k = m := by omega
      go_wp2_with fail
      go_ret
      exact ⟨rfl, hB⟩
end Go.Proofs.Ytfhndajhlpakoaa
