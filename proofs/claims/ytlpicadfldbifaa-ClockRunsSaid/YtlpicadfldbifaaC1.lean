/-
  What clock's At, Length, one and the methods that only read answer, and what all methods answer of no clock; the reference's At and Length.
-/
import Derived.Test.YtlpicadfldbifaaProg
import Derived.Test.YtlpicadfldbifaaG1
import Derived.Test.YtlpicadfldbifaaG4
import Derived.Deep.QuietTactic
import Derived.BigQuiet
import Derived.Deep.RegionWith
import Derived.Deep.WholeRow
import Derived.Lib.Hide
namespace Go.Proofs.Ytlpicadfldbifaa
open Go.RowKit
def oneI (b : Bool) : Int := if b then 1 else 0
def lenI (f x : Bool) : Int := (if f then 3 else 12) * (if x then 2 else 1)
theorem one_any (b : Bool) (w : World) : Calls Try.prog 61 #[.bool b] w fun e w' => e = .returned (.int .i64 (oneI b)) ∧ w' = w := by
  cases b
  all_goals
    go_enter Try.func61, Try.ntmps61
    go_wp2
    go_ret
    exact ⟨rfl, rfl⟩
set_option maxHeartbeats 400000 in
theorem length_any (f x : Bool) (w : World) : Calls Try.prog 51 #[.bool f, .bool x] w fun e w' => e = .returned (.int .i64 (lenI f x)) ∧ Below w.heap.size w w' := by
  have o1 : oneI true = 1 := rfl
  have o0 : oneI false = 0 := rfl
  cases f <;> cases x
  all_goals
    go_enter Try.func51, Try.ntmps51
    go_wp2_with fail
    go_quiet ((go_at_call 61; exact Calls.quiet_of_same (one_any _ _)))
    go_wp2_with fail
    go_ret
    exact ⟨rfl, below_drewN ((Below.refl _ _).alloc (Nat.le_refl _) _) _⟩
theorem rlength_any (f x : Bool) (w : World) : Calls Try.prog 60 #[.bool f, .bool x] w fun e w' => e = .returned (.int .i64 (lenI f x)) ∧ w = w' := by
  cases f <;> cases x
  all_goals
    go_enter Try.func60, Try.ntmps60
    go_wp2
    go_ret
    exact ⟨rfl, rfl⟩
/-- The cells of a clock; of the reference's clock. -/
def ck (now cyc : Int) (fast asked next : Bool) : Array Value := #[.int .i64 now, .int .i64 cyc, .bool fast, .bool asked, .bool next]
def rk (now cyc : Int) (fast asked next : Bool) : Array Value := #[.int .i64 now, .bool fast, .int .i64 cyc, .bool asked, .bool next]
def heldI (n : Int) : Int := if n < 0 then 0 else if 1125899906842624 < n then 1125899906842624 else n
set_option maxHeartbeats 400000 in
theorem at_any (n : Int) (f : Bool) (w : World) : Calls Try.prog 37 #[.int .i64 n, .bool f] w fun e w' => e = .returned (.pointer (some ⟨w.heap.size, 0, none⟩)) ∧ w' = w.alloc (.cells (ck (heldI n) 0 f false false) 85) := by
  by_cases h : n < 0
  · have e : heldI n = 0 := by unfold heldI; rw [if_pos h]
    rw [e]; clear e
    go_enter Try.func37, Try.ntmps37
    go_wp2
    go_ret
    exact ⟨rfl, rfl⟩
  by_cases h' : 1125899906842624 < n
  · have e : heldI n = 1125899906842624 := by unfold heldI; rw [if_neg h, if_pos h']
    rw [e]; clear e
    go_enter Try.func37, Try.ntmps37
    go_wp2
    go_ret
    exact ⟨rfl, rfl⟩
  · have e : heldI n = n := by unfold heldI; rw [if_neg h, if_neg h']
    rw [e]; clear e
    go_enter Try.func37, Try.ntmps37
    go_wp2
    go_ret
    exact ⟨rfl, rfl⟩
section
variable {w : World} {g : Nat} {now cyc : Int} {fast asked next : Bool}
theorem ck_cells (h : Blk w g 85 (ck now cyc fast asked next)) : w.cell? ⟨g, 0, none⟩ = some (.int .i64 now) ∧ w.cell? ⟨g, 1, none⟩ = some (.int .i64 cyc) ∧ w.cell? ⟨g, 2, none⟩ = some (.bool fast) ∧ w.cell? ⟨g, 3, none⟩ = some (.bool asked) ∧ w.cell? ⟨g, 4, none⟩ = some (.bool next) ∧ ∀ o, w.frozen? ⟨g, o, none⟩ = false :=
  ⟨h.cell 0, h.cell 1, h.cell 2, h.cell 3, h.cell 4, h.frozen⟩
theorem rk_cells (h : Blk w g 53 (rk now cyc fast asked next)) : w.cell? ⟨g, 0, none⟩ = some (.int .i64 now) ∧ w.cell? ⟨g, 1, none⟩ = some (.bool fast) ∧ w.cell? ⟨g, 2, none⟩ = some (.int .i64 cyc) ∧ w.cell? ⟨g, 3, none⟩ = some (.bool asked) ∧ w.cell? ⟨g, 4, none⟩ = some (.bool next) ∧ ∀ o, w.frozen? ⟨g, o, none⟩ = false :=
  ⟨h.cell 0, h.cell 1, h.cell 2, h.cell 3, h.cell 4, h.frozen⟩
theorem now_any (h : Blk w g 85 (ck now cyc fast asked next)) : Calls Try.prog 39 #[.pointer (some ⟨g, 0, none⟩)] w fun e w' => e = .returned (.int .i64 now) ∧ w' = w := by
  obtain ⟨c0, c1, c2, c3, c4, hf⟩ := ck_cells h
  clear h
  go_enter Try.func39, Try.ntmps39
  go_wp2
  go_ret
  exact ⟨rfl, rfl⟩
theorem fast_any (h : Blk w g 85 (ck now cyc fast asked next)) : Calls Try.prog 40 #[.pointer (some ⟨g, 0, none⟩)] w fun e w' => e = .returned (.bool fast) ∧ w' = w := by
  obtain ⟨c0, c1, c2, c3, c4, hf⟩ := ck_cells h
  clear h
  go_enter Try.func40, Try.ntmps40
  go_wp2
  go_ret
  exact ⟨rfl, rfl⟩
theorem cycles_any (h : Blk w g 85 (ck now cyc fast asked next)) : Calls Try.prog 41 #[.pointer (some ⟨g, 0, none⟩)] w fun e w' => e = .returned (.int .i64 cyc) ∧ w' = w := by
  obtain ⟨c0, c1, c2, c3, c4, hf⟩ := ck_cells h
  clear h
  go_enter Try.func41, Try.ntmps41
  go_wp2
  go_ret
  exact ⟨rfl, rfl⟩
end
theorem now_nil (w : World) : Calls Try.prog 39 #[.pointer none] w fun e w' => e = .returned (.int .i64 0) ∧ w' = w := by
  go_enter Try.func39, Try.ntmps39
  go_wp2
  go_ret
  exact ⟨rfl, rfl⟩
theorem fast_nil (w : World) : Calls Try.prog 40 #[.pointer none] w fun e w' => e = .returned (.bool false) ∧ w' = w := by
  go_enter Try.func40, Try.ntmps40
  go_wp2
  go_ret
  exact ⟨rfl, rfl⟩
theorem cycles_nil (w : World) : Calls Try.prog 41 #[.pointer none] w fun e w' => e = .returned (.int .i64 0) ∧ w' = w := by
  go_enter Try.func41, Try.ntmps41
  go_wp2
  go_ret
  exact ⟨rfl, rfl⟩
theorem cycle_nil (x : Bool) (w : World) : Calls Try.prog 48 #[.pointer none, .bool x] w fun e w' => e = .returned (.int .i64 0) ∧ w' = w := by
  go_enter Try.func48, Try.ntmps48
  go_wp2
  go_ret
  exact ⟨rfl, rfl⟩
theorem ask_nil (x : Bool) (w : World) : Calls Try.prog 49 #[.pointer none, .bool x] w fun e w' => e = .returned (.tuple #[]) ∧ w' = w := by
  go_enter Try.func49, Try.ntmps49
  go_wp2
  go_end0
  exact ⟨rfl, rfl⟩
theorem turn_nil (w : World) : Calls Try.prog 50 #[.pointer none] w fun e w' => e = .returned (.tuple #[]) ∧ w' = w := by
  go_enter Try.func50, Try.ntmps50
  go_wp2
  go_returns
  exact ⟨rfl, rfl⟩
theorem clone_nil (w : World) : Calls Try.prog 43 #[.pointer none] w fun e w' => e = .returned (.pointer none) ∧ w' = w := by
  go_enter Try.func43, Try.ntmps43
  go_wp2
  go_ret
  exact ⟨rfl, rfl⟩
theorem rat_any (n : Int) (f : Bool) (w : World) : Calls Try.prog 38 #[.int .i64 n, .bool f] w fun e w' => e = .returned (.pointer (some ⟨w.heap.size, 0, none⟩)) ∧ w' = w.alloc (.cells (rk (heldI n) 0 f false false) 53) := by
  by_cases h : n < 0
  · have e : heldI n = 0 := by unfold heldI; rw [if_pos h]
    rw [e]; clear e
    go_enter Try.func38, Try.ntmps38
    go_wp2
    go_ret
    exact ⟨rfl, rfl⟩
  by_cases h' : 1125899906842624 < n
  · have e : heldI n = 1125899906842624 := by unfold heldI; rw [if_neg h, if_pos h']
    rw [e]; clear e
    go_enter Try.func38, Try.ntmps38
    go_wp2
    go_ret
    exact ⟨rfl, rfl⟩
  · have e : heldI n = n := by unfold heldI; rw [if_neg h, if_neg h']
    rw [e]; clear e
    go_enter Try.func38, Try.ntmps38
    go_wp2
    go_ret
    exact ⟨rfl, rfl⟩
end Go.Proofs.Ytlpicadfldbifaa
