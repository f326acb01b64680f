/-
  What Clone, New and the reference's Copy make; the statements' first test of package clock holds.
-/
import Derived.Test.YtlpicadfldbifaaC2
import Derived.BigRegion
import Derived.RegionTactic
namespace Go.Proofs.Ytlpicadfldbifaa
open Go.RowKit
set_option maxHeartbeats 1000000 in
theorem clone_any {w : World} {g : Nat} {now cyc : Int} {fast asked next : Bool} (h : Blk w g 85 (ck now cyc fast asked next)) :
    Calls Try.prog 43 #[.pointer (some ⟨g, 0, none⟩)] w fun e w' => e = .returned (.pointer (some ⟨w.heap.size, 0, none⟩)) ∧ (Blk w' w.heap.size 85 (ck now cyc fast asked next) ∧ Below w.heap.size w w') := by
  obtain ⟨c0, c1, c2, c3, c4, hf⟩ := ck_cells h
  go_enter Try.func43, Try.ntmps43
  go_wp2
  go_ret
  exact ⟨rfl, Blk.new w 85 _, (Below.refl _ _).alloc (Nat.le_refl _) _⟩
set_option maxHeartbeats 2000000 in
theorem copy_any {w : World} {g : Nat} {now cyc : Int} {fast asked next : Bool} (h : Blk w g 53 (rk now cyc fast asked next)) :
    Calls Try.prog 44 #[.pointer (some ⟨g, 0, none⟩)] w fun e w' => e = .returned (.pointer (some ⟨w.heap.size, 0, none⟩)) ∧ (Blk w' w.heap.size 53 (rk now cyc fast asked next) ∧ Below w.heap.size w w') := by
  obtain ⟨c0, c1, c2, c3, c4, hf⟩ := rk_cells h
  go_enter Try.func44, Try.ntmps44
  go_wp2
  go_region
  all_goals
    go_wp2
    go_ret
    exact ⟨rfl, Blk.new w 53 _, ((Below.refl _ _).alloc (Nat.le_refl _) _).drew⟩
theorem at_new (n : Int) (f : Bool) (w : World) : Calls Try.prog 37 #[.int .i64 n, .bool f] w fun e w' => e = .returned (.pointer (some ⟨w.heap.size, 0, none⟩)) ∧ (Blk w' w.heap.size 85 (ck (heldI n) 0 f false false) ∧ Below w.heap.size w w') :=
  (at_any n f w).mono fun _ _ ⟨a, b⟩ => ⟨a, by rw [b]; exact ⟨Blk.new w 85 _, (Below.refl _ _).alloc (Nat.le_refl _) _⟩⟩
theorem rat_new (n : Int) (f : Bool) (w : World) : Calls Try.prog 38 #[.int .i64 n, .bool f] w fun e w' => e = .returned (.pointer (some ⟨w.heap.size, 0, none⟩)) ∧ (Blk w' w.heap.size 53 (rk (heldI n) 0 f false false) ∧ Below w.heap.size w w') :=
  (rat_any n f w).mono fun _ _ ⟨a, b⟩ => ⟨a, by rw [b]; exact ⟨Blk.new w 53 _, (Below.refl _ _).alloc (Nat.le_refl _) _⟩⟩
theorem new_any (w : World) : Calls Try.prog 47 #[] w fun e w' => e = .returned (.pointer (some ⟨w.heap.size, 0, none⟩)) ∧ (Blk w' w.heap.size 85 (ck 0 0 false false false) ∧ Below w.heap.size w w') := by
  go_enter Try.func47, Try.ntmps47
  go_wp2_with (go_at_call 37; refine (at_new _ _ _).mono ?_; rintro e w1 ⟨rfl, h1, h2⟩)
  go_ret
  exact ⟨rfl, h1, h2⟩
theorem below_gb {B : Nat} {a w w' : World} {g : Nat} (h : Below B a w) (hg : w.grownBy w' (some g)) (hB : B ≤ w.heap.size) (hr : B ≤ g) : Below B a w' :=
  h.grown hg hB (fun k e => by cases e; exact hr)
set_option maxHeartbeats 2000000 in
theorem liveC_any (w : World) : Calls Try.prog 36 #[] w fun e w' => e = .returned (.bool true) ∧ Below w.heap.size w w' := by
  have hL : lenI true true = 6 := rfl
  go_enter Try.func36, Try.ntmps36
  go_wp2_with fail
  refine (new_any _).mono ?_
  rintro e w1 ⟨rfl, b1, q1⟩
  have s1 := q1.size
  generalize hg : w.heap.size = g at *
  have hg' := Lib.hid hg
  clear hg
  go_wp2_with fail
  refine (cycle_any false b1 (by decide) (by decide) (by decide) (by decide)).mono ?_
  rintro e w2 ⟨rfl, b2', q2⟩
  have b2 : Blk w2 g 85 (ck 12 1 false false false) := b2'
  clear b2' b1
  have s2 := q2.size
  go_wp2_with fail
  refine (now_any b2).mono ?_
  rintro e w' ⟨rfl, rfl⟩
  go_wp2_with fail
  refine (ask_any true b2).mono ?_
  rintro e w3 ⟨rfl, b3, q3⟩
  clear b2
  have s3 := q3.size
  go_wp2_with fail
  refine (cycle_any false b3 (by decide) (by decide) (by decide) (by decide)).mono ?_
  rintro e w4 ⟨rfl, b4', q4⟩
  have b4 : Blk w4 g 85 (ck 24 2 false true true) := b4'
  clear b4' b3
  have s4 := q4.size
  go_wp2_with fail
  refine (turn_yes b4).mono ?_
  rintro e w5 ⟨rfl, b5, q5⟩
  clear b4
  have s5 := q5.size
  go_wp2_with fail
  refine (cycle_any false b5 (by decide) (by decide) (by decide) (by decide)).mono ?_
  rintro e w6 ⟨rfl, b6', q6⟩
  have b6 : Blk w6 g 85 (ck 27 3 true false false) := b6'
  clear b6' b5
  have s6 := q6.size
  go_wp2_with fail
  refine (ask_nil _ _).mono ?_
  rintro e w' ⟨rfl, rfl⟩
  go_wp2_with fail
  refine (turn_nil _).mono ?_
  rintro e w' ⟨rfl, rfl⟩
  go_wp2_with fail
  refine (length_any _ _ _).mono ?_
  rintro e w7 ⟨rfl, q7⟩
  have b7 := Blk.later b6 q7 rfl
  go_wp2_with fail
  refine (now_any b7).mono ?_
  rintro e w' ⟨rfl, rfl⟩
  go_wp2_with fail
  refine (fast_any b7).mono ?_
  rintro e w' ⟨rfl, rfl⟩
  go_wp2_with fail
  refine (cycles_any b7).mono ?_
  rintro e w' ⟨rfl, rfl⟩
  go_wp2_with fail
  refine (now_nil _).mono ?_
  rintro e w' ⟨rfl, rfl⟩
  go_wp2_with fail
  refine (cycle_nil _ _).mono ?_
  rintro e w' ⟨rfl, rfl⟩
  go_wp2_with fail
  refine (cycles_nil _).mono ?_
  rintro e w' ⟨rfl, rfl⟩
  go_wp2_with fail
  refine (fast_nil _).mono ?_
  rintro e w' ⟨rfl, rfl⟩
  go_wp2_with fail
  refine (clone_nil _).mono ?_
  rintro e w' ⟨rfl, rfl⟩
  go_wp2_with fail
  go_ret
  refine ⟨rfl, ?_⟩
  have r2 := below_gb q1 q2 s1 (Nat.le_refl _)
  have r3 := below_gb r2 q3 (by omega) (Nat.le_refl _)
  have r4 := below_gb r3 q4 (by omega) (Nat.le_refl _)
  have r5 := below_gb r4 q5 (by omega) (Nat.le_refl _)
  have r6 := below_gb r5 q6 (by omega) (Nat.le_refl _)
  rw [hg'.out]
  exact r6.trans (q7.mono (by omega))
end Go.Proofs.Ytlpicadfldbifaa
