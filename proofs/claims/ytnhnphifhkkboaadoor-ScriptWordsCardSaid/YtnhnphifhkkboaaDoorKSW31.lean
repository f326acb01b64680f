/-
  Texts of these proofs, one behind the other: Feed3, Feed5.
-/
import Derived.Test.YtnhnphifhkkboaaDoorKSW18
import Derived.Deep.QuietTactic
import Derived.BigQuiet
import Derived.StillTailTactics
import Derived.RegionTactic
import Derived.BigRegion
import Derived.LoopN
namespace Go.Proofs.YtnhnphifhkkboaaDoor
open Go.RowKit
set_option linter.unusedVariables false
/-- The byte that comes so far behind the next one. -/
def peekI (n : Nat) (z : Nat → Int) (k : Int) : Int := if 0 ≤ k ∧ k < n then z k.toNat else 255
theorem peekI_no (n : Nat) (z : Nat → Int) (k : Int) (h : ¬ (0 ≤ k ∧ k < n)) : peekI n z k = 255 := by unfold peekI; rw [if_neg h]
theorem peekI_yes (n : Nat) (z : Nat → Int) (k : Nat) (h : k < n) : peekI n z k = z k := by unfold peekI; rw [if_pos (by omega)]; rfl
end Go.Proofs.YtnhnphifhkkboaaDoor
namespace Go.Proofs.YtnhnphifhkkboaaDoor
open Go.RowKit
set_option linter.unusedVariables false
set_option maxRecDepth 100000
def longB (a b c : Nat) : Bool := decide (10000 < a ∨ 10000 < b ∨ 10000 < c)
set_option maxHeartbeats 1000000 in
theorem anyLong_any {w : World} {g : Nat} (A B C : Option Addr) (a b c ca cb cc : Nat) (ha : a ≤ 9223372036854775807) (hb : b ≤ 9223372036854775807) (hc : c ≤ 9223372036854775807)
    (h : Blk w g 22 #[.slice A a ca, .slice B b cb, .slice C c cc]) :
    Calls Tryd.prog 90 #[.slice (some ⟨g, 0, none⟩) 3 3] w fun e w' => e = .returned (.bool (longB a b c)) ∧ w = w' := by
  have c0 : w.cell? ⟨g, 0, none⟩ = some (.slice A a ca) := h.cell 0
  have c1 : w.cell? ⟨g, 1, none⟩ = some (.slice B b cb) := h.cell 1
  have c2 : w.cell? ⟨g, 2, none⟩ = some (.slice C c cc) := h.cell 2
  clear h
  by_cases h1 : 10000 < a
  · have e : longB a b c = true := by unfold longB; simp [h1]
    rw [e]
    have h1' : (10000 : Int) < a := by omega
    go_enter Tryd.func90, Tryd.ntmps90
    go_wp2
    refine wp_loop_rounds 1 ?_
    rw [rounds_succ]
    go_wp2
    go_ret
    exact ⟨rfl, rfl⟩
  by_cases h2 : 10000 < b
  · have e : longB a b c = true := by unfold longB; simp [h2]
    rw [e]
    have h1' : ¬ (10000 : Int) < a := by omega
    have h2' : (10000 : Int) < b := by omega
    go_enter Tryd.func90, Tryd.ntmps90
    go_wp2
    refine wp_loop_rounds 2 ?_
    rw [rounds_succ]
    go_wp2
    rw [rounds_succ]
    go_wp2
    go_ret
    exact ⟨rfl, rfl⟩
  by_cases h3 : 10000 < c
  · have e : longB a b c = true := by unfold longB; simp [h3]
    rw [e]
    have h1' : ¬ (10000 : Int) < a := by omega
    have h2' : ¬ (10000 : Int) < b := by omega
    have h3' : (10000 : Int) < c := by omega
    go_enter Tryd.func90, Tryd.ntmps90
    go_wp2
    refine wp_loop_rounds 3 ?_
    rw [rounds_succ]
    go_wp2
    rw [rounds_succ]
    go_wp2
    rw [rounds_succ]
    go_wp2
    go_ret
    exact ⟨rfl, rfl⟩
  · have e : longB a b c = false := by unfold longB; simp [h1, h2, h3]
    rw [e]
    have h1' : ¬ (10000 : Int) < a := by omega
    have h2' : ¬ (10000 : Int) < b := by omega
    have h3' : ¬ (10000 : Int) < c := by omega
    go_enter Tryd.func90, Tryd.ntmps90
    go_wp2
    refine wp_loop_rounds 4 ?_
    rw [rounds_succ]
    go_wp2
    rw [rounds_succ]
    go_wp2
    rw [rounds_succ]
    go_wp2
    rw [rounds_succ]
    go_wp2
    go_ret
    exact ⟨rfl, rfl⟩
set_option maxHeartbeats 1000000 in
theorem fcheck_any {w : World} (A B C : Option Addr) (a b c ca cb cc : Nat) (ha : a ≤ 9223372036854775807) (hb : b ≤ 9223372036854775807) (hc : c ≤ 9223372036854775807) :
    Calls Tryd.prog 45 #[.agg #[.slice A a ca, .slice B b cb, .slice C c cc]] w fun e w' => e = .returned (.int .i64 (if longB a b c then 2 else 0)) ∧ Below w.heap.size w w' := by
  obtain ⟨l, hl⟩ : ∃ l, longB a b c = l := ⟨_, rfl⟩
  rw [hl]
  have HL := Lib.hid hl
  clear hl
  go_enter Tryd.func45, Tryd.ntmps45
  go_wp2_with fail
  refine (anyLong_any A B C a b c ca cb cc ha hb hc (Blk.new_ (by simp))).mono ?_
  rintro e w1 ⟨rfl, rfl⟩
  rw [HL.out]
  cases l
  all_goals
    go_wp2
    go_ret
    exact ⟨rfl, ((Below.refl _ _).alloc (Nat.le_refl _) _).alloc (by simp) _⟩
end Go.Proofs.YtnhnphifhkkboaaDoor
