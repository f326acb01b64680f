/-
  Texts of these proofs, one behind the other: C1, C2, A2, A3, A5, C3.
-/
import Derived.Test.YtngfmofjonleeaaGreatProg
import Derived.Test.YtngfmofjonleeaaGreatKEA02
import Derived.Test.YtngfmofjonleeaaGreatKEA03
import Derived.Deep.QuietTactic
import Derived.BigQuiet
import Derived.Deep.RegionWith
import Derived.Deep.WholeRow
import Derived.Lib.Hide
import Derived.Handy
import Derived.BigRegion
import Derived.RegionTactic
namespace Go.Proofs.YtngfmofjonleeaaGreat
open Go.RowKit
def oneI (b : Bool) : Int := if b then 1 else 0
def lenI (f x : Bool) : Int := (if f then 3 else 12) * (if x then 2 else 1)
theorem one_any (b : Bool) (w : World) : Calls Tryz.prog 119 #[.bool b] w fun e w' => e = .returned (.int .i64 (oneI b)) ∧ w' = w := by
  cases b
  all_goals
    go_enter Tryz.func119, Tryz.ntmps119
    go_wp2
    go_ret
    exact ⟨rfl, rfl⟩
set_option maxHeartbeats 400000 in
theorem length_any (f x : Bool) (w : World) : Calls Tryz.prog 118 #[.bool f, .bool x] w fun e w' => e = .returned (.int .i64 (lenI f x)) ∧ Below w.heap.size w w' := by
  have o1 : oneI true = 1 := rfl
  have o0 : oneI false = 0 := rfl
  cases f <;> cases x
  all_goals
    go_enter Tryz.func118, Tryz.ntmps118
    go_wp2_with fail
    go_quiet ((go_at_call 119; exact Calls.quiet_of_same (one_any _ _)))
    go_wp2_with fail
    go_ret
    exact ⟨rfl, below_drewN ((Below.refl _ _).alloc (Nat.le_refl _) _) _⟩
theorem rlength_any (f x : Bool) (w : World) : Calls Tryz.prog 106 #[.bool f, .bool x] w fun e w' => e = .returned (.int .i64 (lenI f x)) ∧ w = w' := by
  cases f <;> cases x
  all_goals
    go_enter Tryz.func106, Tryz.ntmps106
    go_wp2
    go_ret
    exact ⟨rfl, rfl⟩
/-- The cells of a clock; of the reference's clock. -/
def ck (now cyc : Int) (fast asked next : Bool) : Array Value := #[.int .i64 now, .int .i64 cyc, .bool fast, .bool asked, .bool next]
def rk (now cyc : Int) (fast asked next : Bool) : Array Value := #[.int .i64 now, .bool fast, .int .i64 cyc, .bool asked, .bool next]
def heldI (n : Int) : Int := if n < 0 then 0 else if 1125899906842624 < n then 1125899906842624 else n
set_option maxHeartbeats 400000 in
theorem at_any (n : Int) (f : Bool) (w : World) : Calls Tryz.prog 61 #[.int .i64 n, .bool f] w fun e w' => e = .returned (.pointer (some ⟨w.heap.size, 0, none⟩)) ∧ w' = w.alloc (.cells (ck (heldI n) 0 f false false) 112) := by
  by_cases h : n < 0
  · have e : heldI n = 0 := by unfold heldI; rw [if_pos h]
    rw [e]; clear e
    go_enter Tryz.func61, Tryz.ntmps61
    go_wp2
    go_ret
    exact ⟨rfl, rfl⟩
  by_cases h' : 1125899906842624 < n
  · have e : heldI n = 1125899906842624 := by unfold heldI; rw [if_neg h, if_pos h']
    rw [e]; clear e
    go_enter Tryz.func61, Tryz.ntmps61
    go_wp2
    go_ret
    exact ⟨rfl, rfl⟩
  · have e : heldI n = n := by unfold heldI; rw [if_neg h, if_neg h']
    rw [e]; clear e
    go_enter Tryz.func61, Tryz.ntmps61
    go_wp2
    go_ret
    exact ⟨rfl, rfl⟩
section
variable {w : World} {g : Nat} {now cyc : Int} {fast asked next : Bool}
theorem rk_cells (h : Blk w g 161 (rk now cyc fast asked next)) : w.cell? ⟨g, 0, none⟩ = some (.int .i64 now) ∧ w.cell? ⟨g, 1, none⟩ = some (.bool fast) ∧ w.cell? ⟨g, 2, none⟩ = some (.int .i64 cyc) ∧ w.cell? ⟨g, 3, none⟩ = some (.bool asked) ∧ w.cell? ⟨g, 4, none⟩ = some (.bool next) ∧ ∀ o, w.frozen? ⟨g, o, none⟩ = false :=
  ⟨h.cell 0, h.cell 1, h.cell 2, h.cell 3, h.cell 4, h.frozen⟩
end
theorem rat_any (n : Int) (f : Bool) (w : World) : Calls Tryz.prog 32 #[.int .i64 n, .bool f] w fun e w' => e = .returned (.pointer (some ⟨w.heap.size, 0, none⟩)) ∧ w' = w.alloc (.cells (rk (heldI n) 0 f false false) 161) := by
  by_cases h : n < 0
  · have e : heldI n = 0 := by unfold heldI; rw [if_pos h]
    rw [e]; clear e
    go_enter Tryz.func32, Tryz.ntmps32
    go_wp2
    go_ret
    exact ⟨rfl, rfl⟩
  by_cases h' : 1125899906842624 < n
  · have e : heldI n = 1125899906842624 := by unfold heldI; rw [if_neg h, if_pos h']
    rw [e]; clear e
    go_enter Tryz.func32, Tryz.ntmps32
    go_wp2
    go_ret
    exact ⟨rfl, rfl⟩
  · have e : heldI n = n := by unfold heldI; rw [if_neg h, if_neg h']
    rw [e]; clear e
    go_enter Tryz.func32, Tryz.ntmps32
    go_wp2
    go_ret
    exact ⟨rfl, rfl⟩
end Go.Proofs.YtngfmofjonleeaaGreat
namespace Go.Proofs.YtngfmofjonleeaaGreat
open Go.RowKit
theorem lenI_bd (f x : Bool) : 3 ≤ lenI f x ∧ lenI f x ≤ 24 := by cases f <;> cases x <;> decide
theorem oneI_bd (x : Bool) : 0 ≤ oneI x ∧ oneI x ≤ 1 := by cases x <;> decide
theorem gb_below {a w w' : World} {row : Option Nat} (h : a.grownBy w row) (hb : Below w.heap.size w w') : a.grownBy w' row :=
  ⟨hb.os.trans h.os, hb.tape.trans h.tape, hb.output.trans h.output, Nat.le_trans h.size hb.size, fun i hi hr => (hb.block i (Nat.lt_of_lt_of_le hi h.size)).trans (h.block i hi hr)⟩
theorem gb_set {a w : World} {b : Nat} (h : a.grownBy w (some b)) (i : Nat) (v : Value) : a.grownBy (w.setCell ⟨b, i, none⟩ v) (some b) :=
  ⟨h.os, h.tape, h.output, by simpa using h.size, fun k hk hr => (Below.heap_setCell w ⟨b, i, none⟩ v k (fun e => hr (by rw [e]))).trans (h.block k hk hr)⟩
theorem gb_drew {a w : World} {row : Option Nat} (h : a.grownBy w row) : a.grownBy w.drew row := ⟨h.os, h.tape, h.output, h.size, h.block⟩
theorem gb_refl (w : World) (row : Option Nat) : w.grownBy w row := ⟨rfl, rfl, rfl, Nat.le_refl _, fun _ _ _ => rfl⟩
section
variable {w : World} {g : Nat} {now cyc : Int} {fast asked next : Bool}
set_option maxHeartbeats 1000000 in
theorem rcycle_any (x : Bool) (h : Blk w g 161 (rk now cyc fast asked next)) (n0 : 0 ≤ now) (n1 : now ≤ 1152921504606846976) (k0 : 0 ≤ cyc) (k1 : cyc ≤ 1152921504606846976) :
    Calls Tryz.prog 68 #[.pointer (some ⟨g, 0, none⟩), .bool x] w fun e w' => e = .returned (.int .i64 now) ∧ (Blk w' g 161 (rk (now + lenI fast x) (cyc + (1 + oneI x)) fast asked next) ∧ w.grownBy w' (some g)) := by
  obtain ⟨c0, c1, c2, c3, c4, hf⟩ := rk_cells h
  have lb := lenI_bd fast x
  cases x
  · have e0 : cyc + (1 + oneI false) = cyc + 1 := by simp [oneI]
    rw [e0]
    clear e0
    go_enter Tryz.func68, Tryz.ntmps68
    go_wp2_with (go_at_call 106; refine (rlength_any _ _ _).mono ?_; rintro e w2 ⟨rfl, rfl⟩)
    go_ret
    exact ⟨rfl, (h.set_ 0 _).set_ 2 _, gb_set (gb_set (gb_refl w _) 0 _) 2 _⟩
  · have e0 : cyc + (1 + oneI true) = cyc + 1 + 1 := by simp [oneI]; omega
    rw [e0]
    clear e0
    go_enter Tryz.func68, Tryz.ntmps68
    go_wp2_with (go_at_call 106; refine (rlength_any _ _ _).mono ?_; rintro e w2 ⟨rfl, rfl⟩)
    go_ret
    exact ⟨rfl, ((h.set_ 0 _).set_ 2 _).set_ 2 _, gb_set (gb_set (gb_set (gb_refl w _) 0 _) 2 _) 2 _⟩
end
section
variable {w : World} {g : Nat} {now cyc : Int} {fast asked next : Bool}
end
end Go.Proofs.YtngfmofjonleeaaGreat
namespace Go.Proofs.YtngfmofjonleeaaGreat
open Go.RowKit

end Go.Proofs.YtngfmofjonleeaaGreat
namespace Go.Proofs.YtngfmofjonleeaaGreat
open Go.RowKit

end Go.Proofs.YtngfmofjonleeaaGreat
namespace Go.Proofs.YtngfmofjonleeaaGreat
open Go.RowKit
end Go.Proofs.YtngfmofjonleeaaGreat
namespace Go.Proofs.YtngfmofjonleeaaGreat
open Go.RowKit
theorem at_new (n : Int) (f : Bool) (w : World) : Calls Tryz.prog 61 #[.int .i64 n, .bool f] w fun e w' => e = .returned (.pointer (some ⟨w.heap.size, 0, none⟩)) ∧ (Blk w' w.heap.size 112 (ck (heldI n) 0 f false false) ∧ Below w.heap.size w w') :=
  (at_any n f w).mono fun _ _ ⟨a, b⟩ => ⟨a, by rw [b]; exact ⟨Blk.new w 112 _, (Below.refl _ _).alloc (Nat.le_refl _) _⟩⟩
theorem rat_new (n : Int) (f : Bool) (w : World) : Calls Tryz.prog 32 #[.int .i64 n, .bool f] w fun e w' => e = .returned (.pointer (some ⟨w.heap.size, 0, none⟩)) ∧ (Blk w' w.heap.size 161 (rk (heldI n) 0 f false false) ∧ Below w.heap.size w w') :=
  (rat_any n f w).mono fun _ _ ⟨a, b⟩ => ⟨a, by rw [b]; exact ⟨Blk.new w 161 _, (Below.refl _ _).alloc (Nat.le_refl _) _⟩⟩
theorem cknew_any (w : World) : Calls Tryz.prog 29 #[] w fun e w' => e = .returned (.pointer (some ⟨w.heap.size, 0, none⟩)) ∧ (Blk w' w.heap.size 112 (ck 0 0 false false false) ∧ Below w.heap.size w w') := by
  go_enter Tryz.func29, Tryz.ntmps29
  go_wp2_with (go_at_call 61; refine (at_new _ _ _).mono ?_; rintro e w1 ⟨rfl, h1, h2⟩)
  go_ret
  exact ⟨rfl, h1, h2⟩
end Go.Proofs.YtngfmofjonleeaaGreat
