/-
  What Cycle, Ask and Turn do to a clock, and the reference's to its own: stamps and cycles up to 2 to the 60.
-/
import Derived.Test.YtlpicadfldbifaaC1
namespace Go.Proofs.Ytlpicadfldbifaa
open Go.RowKit
theorem lenI_bd (f x : Bool) : 3 ≤ lenI f x ∧ lenI f x ≤ 24 := by cases f <;> cases x <;> decide
theorem oneI_bd (x : Bool) : 0 ≤ oneI x ∧ oneI x ≤ 1 := by cases x <;> decide
theorem gb_below {a w w' : World} {row : Option Nat} (h : a.grownBy w row) (hb : Below w.heap.size w w') : a.grownBy w' row :=
  ⟨hb.os.trans h.os, hb.tape.trans h.tape, hb.output.trans h.output, Nat.le_trans h.size hb.size, fun i hi hr => (hb.block i (Nat.lt_of_lt_of_le hi h.size)).trans (h.block i hi hr)⟩
theorem gb_set {a w : World} {b : Nat} (h : a.grownBy w (some b)) (i : Nat) (v : Value) : a.grownBy (w.setCell ⟨b, i, none⟩ v) (some b) :=
  ⟨h.os, h.tape, h.output, by simpa using h.size, fun k hk hr => (Below.heap_setCell w ⟨b, i, none⟩ v k (fun e => hr (by rw [e]))).trans (h.block k hk hr)⟩
theorem gb_drewN {a w : World} {row : Option Nat} (h : a.grownBy w row) (n : Nat) : a.grownBy (w.drewN n) row := ⟨h.os, h.tape, h.output, h.size, h.block⟩
theorem gb_drew {a w : World} {row : Option Nat} (h : a.grownBy w row) : a.grownBy w.drew row := ⟨h.os, h.tape, h.output, h.size, h.block⟩
theorem gb_refl (w : World) (row : Option Nat) : w.grownBy w row := ⟨rfl, rfl, rfl, Nat.le_refl _, fun _ _ _ => rfl⟩
set_option maxHeartbeats 4000000 in
theorem cycle_any {w : World} {g : Nat} {now cyc : Int} {fast asked next : Bool} (x : Bool) (h : Blk w g 85 (ck now cyc fast asked next)) (n0 : 0 ≤ now) (n1 : now ≤ 1152921504606846976) (k0 : 0 ≤ cyc) (k1 : cyc ≤ 1152921504606846976) :
    Calls Try.prog 48 #[.pointer (some ⟨g, 0, none⟩), .bool x] w fun e w' => e = .returned (.int .i64 now) ∧ (Blk w' g 85 (ck (now + lenI fast x) (cyc + (1 + oneI x)) fast asked next) ∧ w.grownBy w' (some g)) := by
  obtain ⟨c0, c1, c2, c3, c4, hf⟩ := ck_cells h
  have lb := lenI_bd fast x
  have ob := oneI_bd x
  have e1 : IntKind.i64.wrap (now + lenI fast x) = now + lenI fast x := IntWalk.i64_in _ (by omega)
  have e2 : IntKind.i64.wrap (1 + oneI x) = 1 + oneI x := IntWalk.i64_in _ (by omega)
  have e3 : IntKind.i64.wrap (cyc + (1 + oneI x)) = cyc + (1 + oneI x) := IntWalk.i64_in _ (by omega)
  clear lb ob n0 n1 k0 k1
  go_enter Try.func48, Try.ntmps48
  go_wp2_with fail
  go_region_with (go_at_call 51; refine (length_any _ _ _).mono ?_; rintro e w1 ⟨rfl, hb1⟩; have h1 : Blk w1 g 85 (ck now cyc fast asked next) := Blk.later h hb1 rfl; obtain ⟨d0, d1, d2, d3, d4, hf1⟩ := ck_cells h1; have hz1 := hb1.size)
  all_goals
    go_wp2_with fail
    go_region_with (go_at_call 61; refine (one_any _ _).mono ?_; rintro e w2 ⟨rfl, rfl⟩)
  all_goals
    go_wp2_with fail
    go_ret
    refine ⟨rfl, (h1.set_ 0 _).set_ 1 _, gb_drew (gb_set (gb_set (gb_below (gb_drew (gb_refl w _)) hb1) 0 _) 1 _)⟩
section
variable {w : World} {g : Nat} {now cyc : Int} {fast asked next : Bool}
set_option maxHeartbeats 1000000 in
theorem rcycle_any (x : Bool) (h : Blk w g 53 (rk now cyc fast asked next)) (n0 : 0 ≤ now) (n1 : now ≤ 1152921504606846976) (k0 : 0 ≤ cyc) (k1 : cyc ≤ 1152921504606846976) :
    Calls Try.prog 46 #[.pointer (some ⟨g, 0, none⟩), .bool x] w fun e w' => e = .returned (.int .i64 now) ∧ (Blk w' g 53 (rk (now + lenI fast x) (cyc + (1 + oneI x)) fast asked next) ∧ w.grownBy w' (some g)) := by
  obtain ⟨c0, c1, c2, c3, c4, hf⟩ := rk_cells h
  have lb := lenI_bd fast x
  cases x
  · have e0 : cyc + (1 + oneI false) = cyc + 1 := by simp [oneI]
    rw [e0]
    clear e0
    go_enter Try.func46, Try.ntmps46
    go_wp2_with (go_at_call 60; refine (rlength_any _ _ _).mono ?_; rintro e w2 ⟨rfl, rfl⟩)
    go_ret
    exact ⟨rfl, (h.set_ 0 _).set_ 2 _, gb_set (gb_set (gb_refl w _) 0 _) 2 _⟩
  · have e0 : cyc + (1 + oneI true) = cyc + 1 + 1 := by simp [oneI]; omega
    rw [e0]
    clear e0
    go_enter Try.func46, Try.ntmps46
    go_wp2_with (go_at_call 60; refine (rlength_any _ _ _).mono ?_; rintro e w2 ⟨rfl, rfl⟩)
    go_ret
    exact ⟨rfl, ((h.set_ 0 _).set_ 2 _).set_ 2 _, gb_set (gb_set (gb_set (gb_refl w _) 0 _) 2 _) 2 _⟩
set_option maxHeartbeats 1000000 in
theorem ask_any (x : Bool) (h : Blk w g 85 (ck now cyc fast asked next)) :
    Calls Try.prog 49 #[.pointer (some ⟨g, 0, none⟩), .bool x] w fun e w' => e = .returned (.tuple #[]) ∧ (Blk w' g 85 (ck now cyc fast true x) ∧ w.grownBy w' (some g)) := by
  obtain ⟨c0, c1, c2, c3, c4, hf⟩ := ck_cells h
  go_enter Try.func49, Try.ntmps49
  go_wp2
  go_returns
  exact ⟨rfl, (h.set_ 3 _).set_ 4 _, gb_set (gb_set (gb_refl w _) 3 _) 4 _⟩
set_option maxHeartbeats 1000000 in
theorem rask_any (x : Bool) (h : Blk w g 53 (rk now cyc fast asked next)) :
    Calls Try.prog 58 #[.pointer (some ⟨g, 0, none⟩), .bool x] w fun e w' => e = .returned (.tuple #[]) ∧ (Blk w' g 53 (rk now cyc fast true x) ∧ w.grownBy w' (some g)) := by
  obtain ⟨c0, c1, c2, c3, c4, hf⟩ := rk_cells h
  go_enter Try.func58, Try.ntmps58
  go_wp2
  go_returns
  exact ⟨rfl, (h.set_ 3 _).set_ 4 _, gb_set (gb_set (gb_refl w _) 3 _) 4 _⟩
end
section
variable {w : World} {g : Nat} {now cyc : Int} {fast asked next : Bool}
set_option maxHeartbeats 1000000 in
theorem turn_no (h : Blk w g 85 (ck now cyc fast false false)) :
    Calls Try.prog 50 #[.pointer (some ⟨g, 0, none⟩)] w fun e w' => e = .returned (.tuple #[]) ∧ (Blk w' g 85 (ck now cyc fast false false) ∧ w.grownBy w' (some g)) := by
  obtain ⟨c0, c1, c2, c3, c4, hf⟩ := ck_cells h
  go_enter Try.func50, Try.ntmps50
  go_wp2
  go_returns
  exact ⟨rfl, h, gb_refl w _⟩
set_option maxHeartbeats 1000000 in
theorem turn_yes (h : Blk w g 85 (ck now cyc fast true next)) :
    Calls Try.prog 50 #[.pointer (some ⟨g, 0, none⟩)] w fun e w' => e = .returned (.tuple #[]) ∧ (Blk w' g 85 (ck now cyc next false false) ∧ w.grownBy w' (some g)) := by
  obtain ⟨c0, c1, c2, c3, c4, hf⟩ := ck_cells h
  go_enter Try.func50, Try.ntmps50
  go_wp2
  go_returns
  exact ⟨rfl, ((h.set_ 2 _).set_ 3 _).set_ 4 _, gb_set (gb_set (gb_set (gb_refl w _) 2 _) 3 _) 4 _⟩
set_option maxHeartbeats 1000000 in
theorem rturn_any (hK : Blk w g 53 (rk now cyc fast asked next)) :
    Calls Try.prog 59 #[.pointer (some ⟨g, 0, none⟩)] w fun e w' => e = .returned (.tuple #[]) ∧ (Blk w' g 53 (rk now cyc (if asked then next else fast) false next) ∧ w.grownBy w' (some g)) := by
  obtain ⟨c0, c1, c2, c3, c4, hf⟩ := rk_cells hK
  cases asked
  · go_enter Try.func59, Try.ntmps59
    go_wp2
    go_returns
    exact ⟨rfl, hK.set_ 3 _, gb_set (gb_refl w _) 3 _⟩
  · go_enter Try.func59, Try.ntmps59
    go_wp2
    go_returns
    exact ⟨rfl, (hK.set_ 1 _).set_ 3 _, gb_set (gb_set (gb_refl w _) 1 _) 3 _⟩
end
end Go.Proofs.Ytlpicadfldbifaa
