/-
  Texts of these proofs, one behind the other: Rh7.
-/
import Derived.Test.YtcnjekballnncaaGreatKH38
import Derived.RegionTactic
import Derived.BigRegion
namespace Go.Proofs.YtcnjekballnncaaGreat
open Go.RowKit
set_option linter.unusedVariables false
set_option linter.unusedSimpArgs false
set_option maxRecDepth 100000
theorem rfcopy_any {w : World} {g n c t : Nat} {A : Option Addr} (h : Blk w g 102 (rfC A n c t)) :
    Calls Tryz.prog 45 #[.pointer (some ⟨g, 0, none⟩)] w fun e w' => e = .returned (.pointer (some ⟨w.heap.size, 0, none⟩)) ∧ Blk w' w.heap.size 102 (rfC A n c t) ∧ Below w.heap.size w w' := by
  have c0 : w.cell? ⟨g, 0, none⟩ = some (.slice A n c) := h.cell 0
  have c1 : w.cell? ⟨g, 1, none⟩ = some (.int .i64 t) := h.cell 1
  clear h
  go_enter Tryz.func45, Tryz.ntmps45
  go_wp2_with fail
  go_region
  all_goals
    go_wp2_with fail
    go_ret
    exact ⟨rfl, Blk.new w.drew _ _, (Below.refl _ _).drew.alloc (Nat.le_refl _) _⟩
def RhCopyR (r : Nat) (d : Hd) (J : Rr) (Z : Rz) (x : Hp) (w : World) (e : Ending) (w' : World) : Prop :=
  ∃ r2 J2, e = .returned (.pointer (some ⟨r2, 0, none⟩)) ∧ (∀ y ∈ J2.all r2, w.heap.size ≤ y) ∧ RHp w' r2 d J2 Z x ∧ RHp w' r d J Z x ∧ Below w.heap.size w w'
section
variable {w : World} {r : Nat} {d : Hd} {J : Rr} {Z : Rz} {x : Hp}
set_option maxHeartbeats 16000000 in
theorem rhcopy_any (h : RHp w r d J Z x) :
    Calls Tryz.prog 12 #[.pointer (some ⟨r, 0, none⟩)] w (RhCopyR r d J Z x w) := by
  obtain ⟨B, hB⟩ : ∃ B, w.heap.size = B := ⟨_, rfl⟩
  have HBB := Lib.hid hB
  have H := Lib.hid (h.kp0 (Kp.refl _ _).drew)
  have BW : Hid (Below B w w.drew) := Lib.hid (hB ▸ (Below.refl _ w).drew)
  have hz : B ≤ w.drew.heap.size := by rw [← hB]; exact Nat.le_refl _
  obtain ⟨e0, e1, e2, e3, e4, e5, e6, e7⟩ := h.cells
  have eq0 : w.cell? ⟨J.q, 0, none⟩ = some (.int .u8 x.q.d) := h.q.1.cell 0
  have eq1 : w.cell? ⟨J.q, 1, none⟩ = some (.bool x.q.due) := h.q.1.cell 1
  clear h hB
  go_enter Tryz.func12, Tryz.ntmps12
  go_wp2_with fail
  refine rg_begin (S := fun w' => w'.cell? ⟨r, 0, none⟩ = some (.int .u8 x.buf) ∧ w'.cell? ⟨r, 1, none⟩ = some (.pointer (some ⟨J.t, 0, none⟩)) ∧ w'.cell? ⟨r, 2, none⟩ = some (.pointer (some ⟨J.q, 0, none⟩)) ∧ w'.cell? ⟨r, 3, none⟩ = some (.pointer (some ⟨J.p, 0, none⟩)) ∧ w'.cell? ⟨r, 4, none⟩ = some (.pointer (some ⟨J.v, 0, none⟩)) ∧ w'.cell? ⟨r, 5, none⟩ = some (.pointer (some ⟨J.c, 0, none⟩)) ∧ w'.cell? ⟨r, 6, none⟩ = some (.pointer (some ⟨J.l, 0, none⟩)) ∧ w'.cell? ⟨r, 7, none⟩ = some (.int .i64 x.now) ∧ w'.cell? ⟨J.q, 0, none⟩ = some (.int .u8 x.q.d) ∧ w'.cell? ⟨J.q, 1, none⟩ = some (.bool x.q.due)) 52 #[false, false, false, false, false, false, false, false, false, false, false, false, false, false, false, false, false, false, false, false, false, false, false, false, false, false, false, false, false, false, false, false, false, false, false, false, false, false, false, false, false, false, false, false, false, false, false, false, false, false, false, false] (by kernel_rfl) (by kernel_rfl) (by kernel_rfl) ?_ (fun hHeld => ?_)
  · exact ⟨e0, e1, e2, e3, e4, e5, e6, e7, eq0, eq1⟩
  generalize w.drew = w0 at *
  clear e0 e1 e2 e3 e4 e5 e6 e7 eq0 eq1
  refine rg_take (i := 0) (d := some 3) (l := #[true, false, false, false, false, false, false, false, false, false, false, false, false, false, false, false, false, false, false, false, false, false, false, false, false, false, false, false, false, false, false, false, false, false, false, false, false, false, false, false, false, false, false, false, false, false, false, false, false, false, false, false]) (fuel := 51) (v := ?_) rfl (by kernel_rfl) (by kernel_rfl) (by kernel_rfl) (by kernel_rfl) (by kernel_rfl) (fun _ _ _ h => h) (by kernel_rfl) ?_ (by assumption) ?_
  rotate_left 1
  · (intro wS hSw; (try dsimp only at hSw); go_simp; try with_reducible rfl)
  try simp only [Act.put, List.setIfInBounds_toArray, List.set_cons_zero, List.set_cons_succ]
  refine rg_take (i := 1) (d := some 4) (l := #[true, true, false, false, false, false, false, false, false, false, false, false, false, false, false, false, false, false, false, false, false, false, false, false, false, false, false, false, false, false, false, false, false, false, false, false, false, false, false, false, false, false, false, false, false, false, false, false, false, false, false, false]) (fuel := 50) (v := ?_) rfl (by kernel_rfl) (by kernel_rfl) (by kernel_rfl) (by kernel_rfl) (by kernel_rfl) (fun _ _ _ h => h) (by kernel_rfl) ?_ (by assumption) ?_
  rotate_left 1
  · (intro wS hSw; (try dsimp only at hSw); go_simp; try with_reducible rfl)
  try simp only [Act.put, List.setIfInBounds_toArray, List.set_cons_zero, List.set_cons_succ]
  refine rg_take (i := 2) (d := some 5) (l := #[true, true, true, false, false, false, false, false, false, false, false, false, false, false, false, false, false, false, false, false, false, false, false, false, false, false, false, false, false, false, false, false, false, false, false, false, false, false, false, false, false, false, false, false, false, false, false, false, false, false, false, false]) (fuel := 49) (v := ?_) rfl (by kernel_rfl) (by kernel_rfl) (by kernel_rfl) (by kernel_rfl) (by kernel_rfl) (fun _ _ _ h => h) (by kernel_rfl) ?_ (by assumption) ?_
  rotate_left 1
  · (intro wS hSw; (try dsimp only at hSw); go_simp; try with_reducible rfl)
  try simp only [Act.put, List.setIfInBounds_toArray, List.set_cons_zero, List.set_cons_succ]
  refine rg_take (i := 3) (d := some 6) (l := #[true, true, true, true, false, false, false, false, false, false, false, false, false, false, false, false, false, false, false, false, false, false, false, false, false, false, false, false, false, false, false, false, false, false, false, false, false, false, false, false, false, false, false, false, false, false, false, false, false, false, false, false]) (fuel := 48) (v := ?_) rfl (by kernel_rfl) (by kernel_rfl) (by kernel_rfl) (by kernel_rfl) (by kernel_rfl) (fun _ _ _ h => h) (by kernel_rfl) ?_ (by assumption) ?_
  rotate_left 1
  · (intro wS hSw; (try dsimp only at hSw); go_simp; try with_reducible rfl)
  try simp only [Act.put, List.setIfInBounds_toArray, List.set_cons_zero, List.set_cons_succ]
  refine rg_take (i := 4) (d := some 7) (l := #[true, true, true, true, true, false, false, false, false, false, false, false, false, false, false, false, false, false, false, false, false, false, false, false, false, false, false, false, false, false, false, false, false, false, false, false, false, false, false, false, false, false, false, false, false, false, false, false, false, false, false, false]) (fuel := 47) (v := ?_) rfl (by kernel_rfl) (by kernel_rfl) (by kernel_rfl) (by kernel_rfl) (by kernel_rfl) (fun _ _ _ h => h) (by kernel_rfl) ?_ (by assumption) ?_
  rotate_left 1
  · (intro wS hSw; (try dsimp only at hSw); go_simp; try with_reducible rfl)
  try simp only [Act.put, List.setIfInBounds_toArray, List.set_cons_zero, List.set_cons_succ]
  refine rg_take (i := 5) (d := some 8) (l := #[true, true, true, true, true, true, false, false, false, false, false, false, false, false, false, false, false, false, false, false, false, false, false, false, false, false, false, false, false, false, false, false, false, false, false, false, false, false, false, false, false, false, false, false, false, false, false, false, false, false, false, false]) (fuel := 46) (v := ?_) rfl (by kernel_rfl) (by kernel_rfl) (by kernel_rfl) (by kernel_rfl) (by kernel_rfl) (fun _ _ _ h => h) (by kernel_rfl) ?_ (by assumption) ?_
  rotate_left 1
  · (intro wS hSw; (try dsimp only at hSw); go_simp; try with_reducible rfl)
  try simp only [Act.put, List.setIfInBounds_toArray, List.set_cons_zero, List.set_cons_succ]
  refine rg_take (i := 6) (d := some 9) (l := #[true, true, true, true, true, true, true, false, false, false, false, false, false, false, false, false, false, false, false, false, false, false, false, false, false, false, false, false, false, false, false, false, false, false, false, false, false, false, false, false, false, false, false, false, false, false, false, false, false, false, false, false]) (fuel := 45) (v := ?_) rfl (by kernel_rfl) (by kernel_rfl) (by kernel_rfl) (by kernel_rfl) (by kernel_rfl) (fun _ _ _ h => h) (by kernel_rfl) ?_ (by assumption) ?_
  rotate_left 1
  · (intro wS hSw; (try dsimp only at hSw); go_simp; try with_reducible rfl)
  try simp only [Act.put, List.setIfInBounds_toArray, List.set_cons_zero, List.set_cons_succ]
  refine rg_take (i := 7) (d := some 10) (l := #[true, true, true, true, true, true, true, true, false, false, false, false, false, false, false, false, false, false, false, false, false, false, false, false, false, false, false, false, false, false, false, false, false, false, false, false, false, false, false, false, false, false, false, false, false, false, false, false, false, false, false, false]) (fuel := 44) (v := ?_) rfl (by kernel_rfl) (by kernel_rfl) (by kernel_rfl) (by kernel_rfl) (by kernel_rfl) (fun _ _ _ h => h) (by kernel_rfl) ?_ (by assumption) ?_
  rotate_left 1
  · (intro wS hSw; (try dsimp only at hSw); go_simp; try with_reducible rfl)
  try simp only [Act.put, List.setIfInBounds_toArray, List.set_cons_zero, List.set_cons_succ]
  refine rg_take (i := 9) (d := some 12) (l := #[true, true, true, true, true, true, true, true, false, true, false, false, false, false, false, false, false, false, false, false, false, false, false, false, false, false, false, false, false, false, false, false, false, false, false, false, false, false, false, false, false, false, false, false, false, false, false, false, false, false, false, false]) (fuel := 43) (v := ?_) rfl (by kernel_rfl) (by kernel_rfl) (by kernel_rfl) (by kernel_rfl) (by kernel_rfl) (fun _ _ _ h => h) (by kernel_rfl) ?_ (by assumption) ?_
  rotate_left 1
  · (intro wS hSw; (try dsimp only at hSw); go_simp; try with_reducible rfl)
  try simp only [Act.put, List.setIfInBounds_toArray, List.set_cons_zero, List.set_cons_succ]
  refine rg_take (i := 10) (d := some 13) (l := #[true, true, true, true, true, true, true, true, false, true, true, false, false, false, false, false, false, false, false, false, false, false, false, false, false, false, false, false, false, false, false, false, false, false, false, false, false, false, false, false, false, false, false, false, false, false, false, false, false, false, false, false]) (fuel := 42) (v := ?_) rfl (by kernel_rfl) (by kernel_rfl) (by kernel_rfl) (by kernel_rfl) (by kernel_rfl) (fun _ _ _ h => h) (by kernel_rfl) ?_ (by assumption) ?_
  rotate_left 1
  · (intro wS hSw; (try dsimp only at hSw); go_simp; try with_reducible rfl)
  try simp only [Act.put, List.setIfInBounds_toArray, List.set_cons_zero, List.set_cons_succ]
  refine rg_take (i := 11) (d := some 14) (l := #[true, true, true, true, true, true, true, true, false, true, true, true, false, false, false, false, false, false, false, false, false, false, false, false, false, false, false, false, false, false, false, false, false, false, false, false, false, false, false, false, false, false, false, false, false, false, false, false, false, false, false, false]) (fuel := 41) (v := ?_) rfl (by kernel_rfl) (by kernel_rfl) (by kernel_rfl) (by kernel_rfl) (by kernel_rfl) (fun _ _ _ h => h) (by kernel_rfl) ?_ (by assumption) ?_
  rotate_left 1
  · (intro wS hSw; (try dsimp only at hSw); go_simp; try with_reducible rfl)
  try simp only [Act.put, List.setIfInBounds_toArray, List.set_cons_zero, List.set_cons_succ]
  refine rg_take (i := 12) (d := some 15) (l := #[true, true, true, true, true, true, true, true, false, true, true, true, true, false, false, false, false, false, false, false, false, false, false, false, false, false, false, false, false, false, false, false, false, false, false, false, false, false, false, false, false, false, false, false, false, false, false, false, false, false, false, false]) (fuel := 40) (v := ?_) rfl (by kernel_rfl) (by kernel_rfl) (by kernel_rfl) (by kernel_rfl) (by kernel_rfl) (fun _ _ _ h => h) (by kernel_rfl) ?_ (by assumption) ?_
  rotate_left 1
  · (intro wS hSw; (try dsimp only at hSw); go_simp; try with_reducible rfl)
  try simp only [Act.put, List.setIfInBounds_toArray, List.set_cons_zero, List.set_cons_succ]
  refine rg_take (i := 13) (d := some 16) (l := #[true, true, true, true, true, true, true, true, false, true, true, true, true, true, false, false, false, false, false, false, false, false, false, false, false, false, false, false, false, false, false, false, false, false, false, false, false, false, false, false, false, false, false, false, false, false, false, false, false, false, false, false]) (fuel := 39) (v := ?_) rfl (by kernel_rfl) (by kernel_rfl) (by kernel_rfl) (by kernel_rfl) (by kernel_rfl) (fun _ _ _ h => h) (by kernel_rfl) ?_ (by assumption) ?_
  rotate_left 1
  · (intro wS hSw; (try dsimp only at hSw); go_simp; try with_reducible rfl)
  try simp only [Act.put, List.setIfInBounds_toArray, List.set_cons_zero, List.set_cons_succ]
  refine rg_take (i := 14) (d := some 17) (l := #[true, true, true, true, true, true, true, true, false, true, true, true, true, true, true, false, false, false, false, false, false, false, false, false, false, false, false, false, false, false, false, false, false, false, false, false, false, false, false, false, false, false, false, false, false, false, false, false, false, false, false, false]) (fuel := 38) (v := ?_) rfl (by kernel_rfl) (by kernel_rfl) (by kernel_rfl) (by kernel_rfl) (by kernel_rfl) (fun _ _ _ h => h) (by kernel_rfl) ?_ (by assumption) ?_
  rotate_left 1
  · (intro wS hSw; (try dsimp only at hSw); go_simp; try with_reducible rfl)
  try simp only [Act.put, List.setIfInBounds_toArray, List.set_cons_zero, List.set_cons_succ]
  refine rg_take (i := 15) (d := some 18) (l := #[true, true, true, true, true, true, true, true, false, true, true, true, true, true, true, true, false, false, false, false, false, false, false, false, false, false, false, false, false, false, false, false, false, false, false, false, false, false, false, false, false, false, false, false, false, false, false, false, false, false, false, false]) (fuel := 37) (v := ?_) rfl (by kernel_rfl) (by kernel_rfl) (by kernel_rfl) (by kernel_rfl) (by kernel_rfl) (fun _ _ _ h => h) (by kernel_rfl) ?_ (by assumption) ?_
  rotate_left 1
  · (intro wS hSw; (try dsimp only at hSw); go_simp; try with_reducible rfl)
  try simp only [Act.put, List.setIfInBounds_toArray, List.set_cons_zero, List.set_cons_succ]
  refine rg_take (i := 16) (d := some 19) (l := #[true, true, true, true, true, true, true, true, false, true, true, true, true, true, true, true, true, false, false, false, false, false, false, false, false, false, false, false, false, false, false, false, false, false, false, false, false, false, false, false, false, false, false, false, false, false, false, false, false, false, false, false]) (fuel := 36) (v := ?_) rfl (by kernel_rfl) (by kernel_rfl) (by kernel_rfl) (by kernel_rfl) (by kernel_rfl) (fun _ _ _ h => h) (by kernel_rfl) ?_ (by assumption) ?_
  rotate_left 1
  · (intro wS hSw; (try dsimp only at hSw); go_simp; try with_reducible rfl)
  try simp only [Act.put, List.setIfInBounds_toArray, List.set_cons_zero, List.set_cons_succ]
  refine rg_take (i := 17) (d := some 20) (l := #[true, true, true, true, true, true, true, true, false, true, true, true, true, true, true, true, true, true, false, false, false, false, false, false, false, false, false, false, false, false, false, false, false, false, false, false, false, false, false, false, false, false, false, false, false, false, false, false, false, false, false, false]) (fuel := 35) (v := ?_) rfl (by kernel_rfl) (by kernel_rfl) (by kernel_rfl) (by kernel_rfl) (by kernel_rfl) (fun _ _ _ h => h) (by kernel_rfl) ?_ (by assumption) ?_
  rotate_left 1
  · (intro wS hSw; (try dsimp only at hSw); go_simp; try with_reducible rfl)
  try simp only [Act.put, List.setIfInBounds_toArray, List.set_cons_zero, List.set_cons_succ]
  refine rg_take (i := 18) (d := some 21) (l := #[true, true, true, true, true, true, true, true, false, true, true, true, true, true, true, true, true, true, true, false, false, false, false, false, false, false, false, false, false, false, false, false, false, false, false, false, false, false, false, false, false, false, false, false, false, false, false, false, false, false, false, false]) (fuel := 34) (v := ?_) rfl (by kernel_rfl) (by kernel_rfl) (by kernel_rfl) (by kernel_rfl) (by kernel_rfl) (fun _ _ _ h => h) (by kernel_rfl) ?_ (by assumption) ?_
  rotate_left 1
  · (intro wS hSw; (try dsimp only at hSw); go_simp; try with_reducible rfl)
  try simp only [Act.put, List.setIfInBounds_toArray, List.set_cons_zero, List.set_cons_succ]
  refine rg_take (i := 19) (d := some 22) (l := #[true, true, true, true, true, true, true, true, false, true, true, true, true, true, true, true, true, true, true, true, false, false, false, false, false, false, false, false, false, false, false, false, false, false, false, false, false, false, false, false, false, false, false, false, false, false, false, false, false, false, false, false]) (fuel := 33) (v := ?_) rfl (by kernel_rfl) (by kernel_rfl) (by kernel_rfl) (by kernel_rfl) (by kernel_rfl) (fun _ _ _ h => h) (by kernel_rfl) ?_ (by assumption) ?_
  rotate_left 1
  · (intro wS hSw; (try dsimp only at hSw); go_simp; try with_reducible rfl)
  try simp only [Act.put, List.setIfInBounds_toArray, List.set_cons_zero, List.set_cons_succ]
  refine rg_take (i := 20) (d := some 23) (l := #[true, true, true, true, true, true, true, true, false, true, true, true, true, true, true, true, true, true, true, true, true, false, false, false, false, false, false, false, false, false, false, false, false, false, false, false, false, false, false, false, false, false, false, false, false, false, false, false, false, false, false, false]) (fuel := 32) (v := ?_) rfl (by kernel_rfl) (by kernel_rfl) (by kernel_rfl) (by kernel_rfl) (by kernel_rfl) (fun _ _ _ h => h) (by kernel_rfl) ?_ (by assumption) ?_
  rotate_left 1
  · (intro wS hSw; (try dsimp only at hSw); go_simp; try with_reducible rfl)
  try simp only [Act.put, List.setIfInBounds_toArray, List.set_cons_zero, List.set_cons_succ]
  refine rg_take (i := 21) (d := some 24) (l := #[true, true, true, true, true, true, true, true, false, true, true, true, true, true, true, true, true, true, true, true, true, true, false, false, false, false, false, false, false, false, false, false, false, false, false, false, false, false, false, false, false, false, false, false, false, false, false, false, false, false, false, false]) (fuel := 31) (v := ?_) rfl (by kernel_rfl) (by kernel_rfl) (by kernel_rfl) (by kernel_rfl) (by kernel_rfl) (fun _ _ _ h => h) (by kernel_rfl) ?_ (by assumption) ?_
  rotate_left 1
  · (intro wS hSw; (try dsimp only at hSw); go_simp; try with_reducible rfl)
  try simp only [Act.put, List.setIfInBounds_toArray, List.set_cons_zero, List.set_cons_succ]
  refine rg_take (i := 22) (d := some 25) (l := #[true, true, true, true, true, true, true, true, false, true, true, true, true, true, true, true, true, true, true, true, true, true, true, false, false, false, false, false, false, false, false, false, false, false, false, false, false, false, false, false, false, false, false, false, false, false, false, false, false, false, false, false]) (fuel := 30) (v := ?_) rfl (by kernel_rfl) (by kernel_rfl) (by kernel_rfl) (by kernel_rfl) (by kernel_rfl) (fun _ _ _ h => h) (by kernel_rfl) ?_ (by assumption) ?_
  rotate_left 1
  · (intro wS hSw; (try dsimp only at hSw); go_simp; try with_reducible rfl)
  try simp only [Act.put, List.setIfInBounds_toArray, List.set_cons_zero, List.set_cons_succ]
  refine rg_take (i := 23) (d := some 26) (l := #[true, true, true, true, true, true, true, true, false, true, true, true, true, true, true, true, true, true, true, true, true, true, true, true, false, false, false, false, false, false, false, false, false, false, false, false, false, false, false, false, false, false, false, false, false, false, false, false, false, false, false, false]) (fuel := 29) (v := ?_) rfl (by kernel_rfl) (by kernel_rfl) (by kernel_rfl) (by kernel_rfl) (by kernel_rfl) (fun _ _ _ h => h) (by kernel_rfl) ?_ (by assumption) ?_
  rotate_left 1
  · (intro wS hSw; (try dsimp only at hSw); go_simp; try with_reducible rfl)
  try simp only [Act.put, List.setIfInBounds_toArray, List.set_cons_zero, List.set_cons_succ]
  refine rg_take (i := 25) (d := some 28) (l := #[true, true, true, true, true, true, true, true, false, true, true, true, true, true, true, true, true, true, true, true, true, true, true, true, false, true, false, false, false, false, false, false, false, false, false, false, false, false, false, false, false, false, false, false, false, false, false, false, false, false, false, false]) (fuel := 28) (v := ?_) rfl (by kernel_rfl) (by kernel_rfl) (by kernel_rfl) (by kernel_rfl) (by kernel_rfl) (fun _ _ _ h => h) (by kernel_rfl) ?_ (by assumption) ?_
  rotate_left 1
  · (intro wS hSw; (try dsimp only at hSw); go_simp; try with_reducible rfl)
  try simp only [Act.put, List.setIfInBounds_toArray, List.set_cons_zero, List.set_cons_succ]
  refine rg_take (i := 26) (d := some 29) (l := #[true, true, true, true, true, true, true, true, false, true, true, true, true, true, true, true, true, true, true, true, true, true, true, true, false, true, true, false, false, false, false, false, false, false, false, false, false, false, false, false, false, false, false, false, false, false, false, false, false, false, false, false]) (fuel := 27) (v := ?_) rfl (by kernel_rfl) (by kernel_rfl) (by kernel_rfl) (by kernel_rfl) (by kernel_rfl) (fun _ _ _ h => h) (by kernel_rfl) ?_ (by assumption) ?_
  rotate_left 1
  · (intro wS hSw; (try dsimp only at hSw); go_simp; try with_reducible rfl)
  try simp only [Act.put, List.setIfInBounds_toArray, List.set_cons_zero, List.set_cons_succ]
  refine rg_take (i := 27) (d := some 30) (l := #[true, true, true, true, true, true, true, true, false, true, true, true, true, true, true, true, true, true, true, true, true, true, true, true, false, true, true, true, false, false, false, false, false, false, false, false, false, false, false, false, false, false, false, false, false, false, false, false, false, false, false, false]) (fuel := 26) (v := ?_) rfl (by kernel_rfl) (by kernel_rfl) (by kernel_rfl) (by kernel_rfl) (by kernel_rfl) (fun _ _ _ h => h) (by kernel_rfl) ?_ (by assumption) ?_
  rotate_left 1
  · (intro wS hSw; (try dsimp only at hSw); go_simp; try with_reducible rfl)
  try simp only [Act.put, List.setIfInBounds_toArray, List.set_cons_zero, List.set_cons_succ]
  refine rg_take (i := 28) (d := some 31) (l := #[true, true, true, true, true, true, true, true, false, true, true, true, true, true, true, true, true, true, true, true, true, true, true, true, false, true, true, true, true, false, false, false, false, false, false, false, false, false, false, false, false, false, false, false, false, false, false, false, false, false, false, false]) (fuel := 25) (v := ?_) rfl (by kernel_rfl) (by kernel_rfl) (by kernel_rfl) (by kernel_rfl) (by kernel_rfl) (fun _ _ _ h => h) (by kernel_rfl) ?_ (by assumption) ?_
  rotate_left 1
  · (intro wS hSw; (try dsimp only at hSw); go_simp; try with_reducible rfl)
  try simp only [Act.put, List.setIfInBounds_toArray, List.set_cons_zero, List.set_cons_succ]
  refine rg_take (i := 30) (d := some 33) (l := #[true, true, true, true, true, true, true, true, false, true, true, true, true, true, true, true, true, true, true, true, true, true, true, true, false, true, true, true, true, false, true, false, false, false, false, false, false, false, false, false, false, false, false, false, false, false, false, false, false, false, false, false]) (fuel := 24) (v := ?_) rfl (by kernel_rfl) (by kernel_rfl) (by kernel_rfl) (by kernel_rfl) (by kernel_rfl) (fun _ _ _ h => h) (by kernel_rfl) ?_ (by assumption) ?_
  rotate_left 1
  · (intro wS hSw; (try dsimp only at hSw); go_simp; try with_reducible rfl)
  try simp only [Act.put, List.setIfInBounds_toArray, List.set_cons_zero, List.set_cons_succ]
  refine rg_take (i := 31) (d := some 34) (l := #[true, true, true, true, true, true, true, true, false, true, true, true, true, true, true, true, true, true, true, true, true, true, true, true, false, true, true, true, true, false, true, true, false, false, false, false, false, false, false, false, false, false, false, false, false, false, false, false, false, false, false, false]) (fuel := 23) (v := ?_) rfl (by kernel_rfl) (by kernel_rfl) (by kernel_rfl) (by kernel_rfl) (by kernel_rfl) (fun _ _ _ h => h) (by kernel_rfl) ?_ (by assumption) ?_
  rotate_left 1
  · (intro wS hSw; (try dsimp only at hSw); go_simp; try with_reducible rfl)
  try simp only [Act.put, List.setIfInBounds_toArray, List.set_cons_zero, List.set_cons_succ]
  refine rg_take (i := 32) (d := some 35) (l := #[true, true, true, true, true, true, true, true, false, true, true, true, true, true, true, true, true, true, true, true, true, true, true, true, false, true, true, true, true, false, true, true, true, false, false, false, false, false, false, false, false, false, false, false, false, false, false, false, false, false, false, false]) (fuel := 22) (v := ?_) rfl (by kernel_rfl) (by kernel_rfl) (by kernel_rfl) (by kernel_rfl) (by kernel_rfl) (fun _ _ _ h => h) (by kernel_rfl) ?_ (by assumption) ?_
  rotate_left 1
  · (intro wS hSw; (try dsimp only at hSw); go_simp; try with_reducible rfl)
  try simp only [Act.put, List.setIfInBounds_toArray, List.set_cons_zero, List.set_cons_succ]
  refine rg_take (i := 33) (d := some 36) (l := #[true, true, true, true, true, true, true, true, false, true, true, true, true, true, true, true, true, true, true, true, true, true, true, true, false, true, true, true, true, false, true, true, true, true, false, false, false, false, false, false, false, false, false, false, false, false, false, false, false, false, false, false]) (fuel := 21) (v := ?_) rfl (by kernel_rfl) (by kernel_rfl) (by kernel_rfl) (by kernel_rfl) (by kernel_rfl) (fun _ _ _ h => h) (by kernel_rfl) ?_ (by assumption) ?_
  rotate_left 1
  · (intro wS hSw; (try dsimp only at hSw); go_simp; try with_reducible rfl)
  try simp only [Act.put, List.setIfInBounds_toArray, List.set_cons_zero, List.set_cons_succ]
  refine rg_take (i := 35) (d := some 38) (l := #[true, true, true, true, true, true, true, true, false, true, true, true, true, true, true, true, true, true, true, true, true, true, true, true, false, true, true, true, true, false, true, true, true, true, false, true, false, false, false, false, false, false, false, false, false, false, false, false, false, false, false, false]) (fuel := 20) (v := ?_) rfl (by kernel_rfl) (by kernel_rfl) (by kernel_rfl) (by kernel_rfl) (by kernel_rfl) (fun _ _ _ h => h) (by kernel_rfl) ?_ (by assumption) ?_
  rotate_left 1
  · (intro wS hSw; (try dsimp only at hSw); go_simp; try with_reducible rfl)
  try simp only [Act.put, List.setIfInBounds_toArray, List.set_cons_zero, List.set_cons_succ]
  refine rg_take (i := 36) (d := some 39) (l := #[true, true, true, true, true, true, true, true, false, true, true, true, true, true, true, true, true, true, true, true, true, true, true, true, false, true, true, true, true, false, true, true, true, true, false, true, true, false, false, false, false, false, false, false, false, false, false, false, false, false, false, false]) (fuel := 19) (v := ?_) rfl (by kernel_rfl) (by kernel_rfl) (by kernel_rfl) (by kernel_rfl) (by kernel_rfl) (fun _ _ _ h => h) (by kernel_rfl) ?_ (by assumption) ?_
  rotate_left 1
  · (intro wS hSw; (try dsimp only at hSw); go_simp; try with_reducible rfl)
  try simp only [Act.put, List.setIfInBounds_toArray, List.set_cons_zero, List.set_cons_succ]
  refine rg_take (i := 37) (d := some 40) (l := #[true, true, true, true, true, true, true, true, false, true, true, true, true, true, true, true, true, true, true, true, true, true, true, true, false, true, true, true, true, false, true, true, true, true, false, true, true, true, false, false, false, false, false, false, false, false, false, false, false, false, false, false]) (fuel := 18) (v := ?_) rfl (by kernel_rfl) (by kernel_rfl) (by kernel_rfl) (by kernel_rfl) (by kernel_rfl) (fun _ _ _ h => h) (by kernel_rfl) ?_ (by assumption) ?_
  rotate_left 1
  · (intro wS hSw; (try dsimp only at hSw); go_simp; try with_reducible rfl)
  try simp only [Act.put, List.setIfInBounds_toArray, List.set_cons_zero, List.set_cons_succ]
  refine rg_take (i := 38) (d := some 41) (l := #[true, true, true, true, true, true, true, true, false, true, true, true, true, true, true, true, true, true, true, true, true, true, true, true, false, true, true, true, true, false, true, true, true, true, false, true, true, true, true, false, false, false, false, false, false, false, false, false, false, false, false, false]) (fuel := 17) (v := ?_) rfl (by kernel_rfl) (by kernel_rfl) (by kernel_rfl) (by kernel_rfl) (by kernel_rfl) (fun _ _ _ h => h) (by kernel_rfl) ?_ (by assumption) ?_
  rotate_left 1
  · (intro wS hSw; (try dsimp only at hSw); go_simp; try with_reducible rfl)
  try simp only [Act.put, List.setIfInBounds_toArray, List.set_cons_zero, List.set_cons_succ]
  refine rg_take (i := 40) (d := some 43) (l := #[true, true, true, true, true, true, true, true, false, true, true, true, true, true, true, true, true, true, true, true, true, true, true, true, false, true, true, true, true, false, true, true, true, true, false, true, true, true, true, false, true, false, false, false, false, false, false, false, false, false, false, false]) (fuel := 16) (v := ?_) rfl (by kernel_rfl) (by kernel_rfl) (by kernel_rfl) (by kernel_rfl) (by kernel_rfl) (fun _ _ _ h => h) (by kernel_rfl) ?_ (by assumption) ?_
  rotate_left 1
  · (intro wS hSw; (try dsimp only at hSw); go_simp; try with_reducible rfl)
  try simp only [Act.put, List.setIfInBounds_toArray, List.set_cons_zero, List.set_cons_succ]
  refine rg_take (i := 41) (d := some 44) (l := #[true, true, true, true, true, true, true, true, false, true, true, true, true, true, true, true, true, true, true, true, true, true, true, true, false, true, true, true, true, false, true, true, true, true, false, true, true, true, true, false, true, true, false, false, false, false, false, false, false, false, false, false]) (fuel := 15) (v := ?_) rfl (by kernel_rfl) (by kernel_rfl) (by kernel_rfl) (by kernel_rfl) (by kernel_rfl) (fun _ _ _ h => h) (by kernel_rfl) ?_ (by assumption) ?_
  rotate_left 1
  · (intro wS hSw; (try dsimp only at hSw); go_simp; try with_reducible rfl)
  try simp only [Act.put, List.setIfInBounds_toArray, List.set_cons_zero, List.set_cons_succ]
  refine rg_take (i := 42) (d := some 45) (l := #[true, true, true, true, true, true, true, true, false, true, true, true, true, true, true, true, true, true, true, true, true, true, true, true, false, true, true, true, true, false, true, true, true, true, false, true, true, true, true, false, true, true, true, false, false, false, false, false, false, false, false, false]) (fuel := 14) (v := ?_) rfl (by kernel_rfl) (by kernel_rfl) (by kernel_rfl) (by kernel_rfl) (by kernel_rfl) (fun _ _ _ h => h) (by kernel_rfl) ?_ (by assumption) ?_
  rotate_left 1
  · (intro wS hSw; (try dsimp only at hSw); go_simp; try with_reducible rfl)
  try simp only [Act.put, List.setIfInBounds_toArray, List.set_cons_zero, List.set_cons_succ]
  refine rg_take (i := 43) (d := some 46) (l := #[true, true, true, true, true, true, true, true, false, true, true, true, true, true, true, true, true, true, true, true, true, true, true, true, false, true, true, true, true, false, true, true, true, true, false, true, true, true, true, false, true, true, true, true, false, false, false, false, false, false, false, false]) (fuel := 13) (v := ?_) rfl (by kernel_rfl) (by kernel_rfl) (by kernel_rfl) (by kernel_rfl) (by kernel_rfl) (fun _ _ _ h => h) (by kernel_rfl) ?_ (by assumption) ?_
  rotate_left 1
  · (intro wS hSw; (try dsimp only at hSw); go_simp; try with_reducible rfl)
  try simp only [Act.put, List.setIfInBounds_toArray, List.set_cons_zero, List.set_cons_succ]
  refine rg_take (i := 45) (d := some 48) (l := #[true, true, true, true, true, true, true, true, false, true, true, true, true, true, true, true, true, true, true, true, true, true, true, true, false, true, true, true, true, false, true, true, true, true, false, true, true, true, true, false, true, true, true, true, false, true, false, false, false, false, false, false]) (fuel := 12) (v := ?_) rfl (by kernel_rfl) (by kernel_rfl) (by kernel_rfl) (by kernel_rfl) (by kernel_rfl) (fun _ _ _ h => h) (by kernel_rfl) ?_ (by assumption) ?_
  rotate_left 1
  · (intro wS hSw; (try dsimp only at hSw); go_simp; try with_reducible rfl)
  try simp only [Act.put, List.setIfInBounds_toArray, List.set_cons_zero, List.set_cons_succ]
  refine rg_take (i := 46) (d := some 49) (l := #[true, true, true, true, true, true, true, true, false, true, true, true, true, true, true, true, true, true, true, true, true, true, true, true, false, true, true, true, true, false, true, true, true, true, false, true, true, true, true, false, true, true, true, true, false, true, true, false, false, false, false, false]) (fuel := 11) (v := ?_) rfl (by kernel_rfl) (by kernel_rfl) (by kernel_rfl) (by kernel_rfl) (by kernel_rfl) (fun _ _ _ h => h) (by kernel_rfl) ?_ (by assumption) ?_
  rotate_left 1
  · (intro wS hSw; (try dsimp only at hSw); go_simp; try with_reducible rfl)
  try simp only [Act.put, List.setIfInBounds_toArray, List.set_cons_zero, List.set_cons_succ]
  refine rg_take (i := 47) (d := some 50) (l := #[true, true, true, true, true, true, true, true, false, true, true, true, true, true, true, true, true, true, true, true, true, true, true, true, false, true, true, true, true, false, true, true, true, true, false, true, true, true, true, false, true, true, true, true, false, true, true, true, false, false, false, false]) (fuel := 10) (v := ?_) rfl (by kernel_rfl) (by kernel_rfl) (by kernel_rfl) (by kernel_rfl) (by kernel_rfl) (fun _ _ _ h => h) (by kernel_rfl) ?_ (by assumption) ?_
  rotate_left 1
  · (intro wS hSw; (try dsimp only at hSw); go_simp; try with_reducible rfl)
  try simp only [Act.put, List.setIfInBounds_toArray, List.set_cons_zero, List.set_cons_succ]
  refine rg_take (i := 48) (d := some 51) (l := #[true, true, true, true, true, true, true, true, false, true, true, true, true, true, true, true, true, true, true, true, true, true, true, true, false, true, true, true, true, false, true, true, true, true, false, true, true, true, true, false, true, true, true, true, false, true, true, true, true, false, false, false]) (fuel := 9) (v := ?_) rfl (by kernel_rfl) (by kernel_rfl) (by kernel_rfl) (by kernel_rfl) (by kernel_rfl) (fun _ _ _ h => h) (by kernel_rfl) ?_ (by assumption) ?_
  rotate_left 1
  · (intro wS hSw; (try dsimp only at hSw); go_simp; try with_reducible rfl)
  try simp only [Act.put, List.setIfInBounds_toArray, List.set_cons_zero, List.set_cons_succ]
  refine rg_of (rs := [8, 24]) (fuel := 8) (by kernel_rfl) rfl ?_
  refine rg_step (i := 8) (l := #[true, true, true, true, true, true, true, true, true, true, true, true, true, true, true, true, true, true, true, true, true, true, true, true, false, true, true, true, true, false, true, true, true, true, false, true, true, true, true, false, true, true, true, true, false, true, true, true, true, false, false, false]) rfl (by kernel_rfl) (by kernel_rfl) ?_ ?_
  · intro K hK
    go_simp
    (go_at_call 43)
    refine (rtcopy_any H.out.tm).mono ?_
    rintro e w1 ⟨rfl, y1, b1⟩
    obtain ⟨gt, hg⟩ : ∃ g, w0.heap.size = g := ⟨_, rfl⟩
    have Nt : Hid (RTM w1 gt x.tm) := Lib.hid (hg ▸ y1)
    simp only [hg]
    have zt : B ≤ gt := by omega
    have BW' := Lib.hid (BW.out.trans (b1.mono hz))
    replace H := Lib.hid (H.out.keep b1)
    have hz' : B ≤ w1.heap.size := Nat.le_trans hz b1.size
    clear BW hz
    have BW := BW'
    have hz := hz'
    clear BW' hz' y1 b1 hg
    obtain ⟨e0, e1, e2, e3, e4, e5, e6, e7⟩ := H.out.cells
    have eq0 : _ = some (Value.int .u8 x.q.d) := H.out.q.1.cell 0
    have eq1 : _ = some (Value.bool x.q.due) := H.out.q.1.cell 1
    first | (refine hK.out _ _ ?_ (fun hHeld => ?_)) | (go_wp2_with fail; refine hK.out _ _ ?_ (fun hHeld => ?_))
    · (try dsimp only); exact ⟨e0, e1, e2, e3, e4, e5, e6, e7, eq0, eq1⟩
    clear hK K
    try simp only [Act.put, List.setIfInBounds_toArray, List.set_cons_zero, List.set_cons_succ]
    clear e0 e1 e2 e3 e4 e5 e6 e7 eq0 eq1
    refine rg_of (rs := [24, 29]) (fuel := 7) (by kernel_rfl) rfl ?_
    refine rg_step (i := 24) (l := #[true, true, true, true, true, true, true, true, true, true, true, true, true, true, true, true, true, true, true, true, true, true, true, true, true, true, true, true, true, false, true, true, true, true, false, true, true, true, true, false, true, true, true, true, false, true, true, true, true, false, false, false]) rfl (by kernel_rfl) (by kernel_rfl) ?_ ?_
    · intro K hK
      go_simp
      have b1 : Below w1.heap.size w1 (w1.alloc (.cells #[.int .u8 x.q.d, .bool x.q.due] 99)) := (Below.refl _ _).alloc (Nat.le_refl _) _
      have Nq : Hid (RQ (w1.alloc (.cells #[.int .u8 x.q.d, .bool x.q.due] 99)) w1.heap.size x.q) := Lib.hid ⟨Blk.new w1 _ _, H.out.q.2⟩
      replace Nt := Lib.hid (And.intro (Nt.out.1.below b1 Nt.out.1.lt) Nt.out.2)
      have BW' := Lib.hid (BW.out.trans (b1.mono hz))
      replace H := Lib.hid (H.out.keep b1)
      have hz' : B ≤ (w1.alloc (.cells #[.int .u8 x.q.d, .bool x.q.due] 99)).heap.size := Nat.le_trans hz b1.size
      have zq : B ≤ w1.heap.size := hz
      clear BW hz
      have BW := BW'
      have hz := hz'
      clear BW' hz' b1
      obtain ⟨e0, e1, e2, e3, e4, e5, e6, e7⟩ := H.out.cells
      have eq0 : _ = some (Value.int .u8 x.q.d) := H.out.q.1.cell 0
      have eq1 : _ = some (Value.bool x.q.due) := H.out.q.1.cell 1
      first | (refine hK.out _ _ ?_ (fun hHeld => ?_)) | (go_wp2_with fail; refine hK.out _ _ ?_ (fun hHeld => ?_))
      · (try dsimp only); exact ⟨e0, e1, e2, e3, e4, e5, e6, e7, eq0, eq1⟩
      clear hK K
      try simp only [Act.put, List.setIfInBounds_toArray, List.set_cons_zero, List.set_cons_succ]
      generalize hgq : w1.heap.size = gq at *
      generalize World.alloc w1 _ = w2 at *
      clear e0 e1 e2 e3 e4 e5 e6 e7 eq0 eq1
      refine rg_next (i := 29) (l := #[true, true, true, true, true, true, true, true, true, true, true, true, true, true, true, true, true, true, true, true, true, true, true, true, true, true, true, true, true, true, true, true, true, true, false, true, true, true, true, false, true, true, true, true, false, true, true, true, true, false, false, false]) (fuel := 6) (by kernel_rfl) rfl (by kernel_rfl) (by kernel_rfl) (fun K hK => ?_)
      go_simp
      (go_at_call 44)
      refine (rpcopy_any H.out.pt).mono ?_
      rintro e w3 ⟨rfl, y1, b1⟩
      obtain ⟨gp, hg⟩ : ∃ g, w2.heap.size = g := ⟨_, rfl⟩
      have Np : Hid (RP w3 gp Z.A3 d.np Z.c3 x.tp x.pt) := Lib.hid (hg ▸ y1)
      simp only [hg]
      have zp : B ≤ gp := by omega
      replace Nt := Lib.hid (And.intro (Nt.out.1.below b1 Nt.out.1.lt) Nt.out.2)
      replace Nq := Lib.hid (And.intro (Nq.out.1.below b1 Nq.out.1.lt) Nq.out.2)
      have BW' := Lib.hid (BW.out.trans (b1.mono hz))
      replace H := Lib.hid (H.out.keep b1)
      have hz' : B ≤ w3.heap.size := Nat.le_trans hz b1.size
      clear BW hz
      have BW := BW'
      have hz := hz'
      clear BW' hz' y1 b1 hg
      obtain ⟨e0, e1, e2, e3, e4, e5, e6, e7⟩ := H.out.cells
      have eq0 : _ = some (Value.int .u8 x.q.d) := H.out.q.1.cell 0
      have eq1 : _ = some (Value.bool x.q.due) := H.out.q.1.cell 1
      first | (refine hK.out _ _ ?_ (fun hHeld => ?_)) | (go_wp2_with fail; refine hK.out _ _ ?_ (fun hHeld => ?_))
      · (try dsimp only); exact ⟨e0, e1, e2, e3, e4, e5, e6, e7, eq0, eq1⟩
      clear hK K
      try simp only [Act.put, List.setIfInBounds_toArray, List.set_cons_zero, List.set_cons_succ]
      clear e0 e1 e2 e3 e4 e5 e6 e7 eq0 eq1
      refine rg_next (i := 34) (l := #[true, true, true, true, true, true, true, true, true, true, true, true, true, true, true, true, true, true, true, true, true, true, true, true, true, true, true, true, true, true, true, true, true, true, true, true, true, true, true, false, true, true, true, true, false, true, true, true, true, false, false, false]) (fuel := 5) (by kernel_rfl) rfl (by kernel_rfl) (by kernel_rfl) (fun K hK => ?_)
      go_simp
      (go_at_call 45)
      refine (rfcopy_any H.out.v).mono ?_
      rintro e w4 ⟨rfl, y1, b1⟩
      obtain ⟨gv, hg⟩ : ∃ g, w3.heap.size = g := ⟨_, rfl⟩
      have Nv : Hid (Blk w4 gv 102 (rfC Z.A1 d.nv Z.c1 x.tv)) := Lib.hid (hg ▸ y1)
      simp only [hg]
      have zv : B ≤ gv := by omega
      replace Nt := Lib.hid (And.intro (Nt.out.1.below b1 Nt.out.1.lt) Nt.out.2)
      replace Nq := Lib.hid (And.intro (Nq.out.1.below b1 Nq.out.1.lt) Nq.out.2)
      replace Np := Lib.hid (And.intro (Np.out.1.below b1 Np.out.1.lt) Np.out.2)
      have BW' := Lib.hid (BW.out.trans (b1.mono hz))
      replace H := Lib.hid (H.out.keep b1)
      have hz' : B ≤ w4.heap.size := Nat.le_trans hz b1.size
      clear BW hz
      have BW := BW'
      have hz := hz'
      clear BW' hz' y1 b1 hg
      obtain ⟨e0, e1, e2, e3, e4, e5, e6, e7⟩ := H.out.cells
      have eq0 : _ = some (Value.int .u8 x.q.d) := H.out.q.1.cell 0
      have eq1 : _ = some (Value.bool x.q.due) := H.out.q.1.cell 1
      first | (refine hK.out _ _ ?_ (fun hHeld => ?_)) | (go_wp2_with fail; refine hK.out _ _ ?_ (fun hHeld => ?_))
      · (try dsimp only); exact ⟨e0, e1, e2, e3, e4, e5, e6, e7, eq0, eq1⟩
      clear hK K
      try simp only [Act.put, List.setIfInBounds_toArray, List.set_cons_zero, List.set_cons_succ]
      clear e0 e1 e2 e3 e4 e5 e6 e7 eq0 eq1
      refine rg_next (i := 39) (l := #[true, true, true, true, true, true, true, true, true, true, true, true, true, true, true, true, true, true, true, true, true, true, true, true, true, true, true, true, true, true, true, true, true, true, true, true, true, true, true, true, true, true, true, true, false, true, true, true, true, false, false, false]) (fuel := 4) (by kernel_rfl) rfl (by kernel_rfl) (by kernel_rfl) (fun K hK => ?_)
      go_simp
      (go_at_call 45)
      refine (rfcopy_any H.out.c).mono ?_
      rintro e w5 ⟨rfl, y1, b1⟩
      obtain ⟨gc, hg⟩ : ∃ g, w4.heap.size = g := ⟨_, rfl⟩
      have Nc : Hid (Blk w5 gc 102 (rfC Z.A2 d.nc Z.c2 x.tc)) := Lib.hid (hg ▸ y1)
      simp only [hg]
      have zc : B ≤ gc := by omega
      have hvc : gv ≠ gc := (by have := Nv.out.lt; omega)
      replace Nt := Lib.hid (And.intro (Nt.out.1.below b1 Nt.out.1.lt) Nt.out.2)
      replace Nq := Lib.hid (And.intro (Nq.out.1.below b1 Nq.out.1.lt) Nq.out.2)
      replace Np := Lib.hid (And.intro (Np.out.1.below b1 Np.out.1.lt) Np.out.2)
      replace Nv := Lib.hid (Nv.out.below b1 Nv.out.lt)
      have BW' := Lib.hid (BW.out.trans (b1.mono hz))
      replace H := Lib.hid (H.out.keep b1)
      have hz' : B ≤ w5.heap.size := Nat.le_trans hz b1.size
      clear BW hz
      have BW := BW'
      have hz := hz'
      clear BW' hz' y1 b1 hg
      obtain ⟨e0, e1, e2, e3, e4, e5, e6, e7⟩ := H.out.cells
      have eq0 : _ = some (Value.int .u8 x.q.d) := H.out.q.1.cell 0
      have eq1 : _ = some (Value.bool x.q.due) := H.out.q.1.cell 1
      first | (refine hK.out _ _ ?_ (fun hHeld => ?_)) | (go_wp2_with fail; refine hK.out _ _ ?_ (fun hHeld => ?_))
      · (try dsimp only); exact ⟨e0, e1, e2, e3, e4, e5, e6, e7, eq0, eq1⟩
      clear hK K
      try simp only [Act.put, List.setIfInBounds_toArray, List.set_cons_zero, List.set_cons_succ]
      clear e0 e1 e2 e3 e4 e5 e6 e7 eq0 eq1
      refine rg_next (i := 44) (l := #[true, true, true, true, true, true, true, true, true, true, true, true, true, true, true, true, true, true, true, true, true, true, true, true, true, true, true, true, true, true, true, true, true, true, true, true, true, true, true, true, true, true, true, true, true, true, true, true, true, false, false, false]) (fuel := 3) (by kernel_rfl) rfl (by kernel_rfl) (by kernel_rfl) (fun K hK => ?_)
      go_simp
      (go_at_call 46)
      refine (rlcopy_any H.out.l).mono ?_
      rintro e w6 ⟨rfl, y1, b1⟩
      obtain ⟨gl, hg⟩ : ∃ g, w5.heap.size = g := ⟨_, rfl⟩
      have Nl : Hid (Blk w6 gl 104 (rlC Z.A d.n Z.c x.s x.ro)) := Lib.hid (hg ▸ y1)
      simp only [hg]
      have zl : B ≤ gl := by omega
      replace Nt := Lib.hid (And.intro (Nt.out.1.below b1 Nt.out.1.lt) Nt.out.2)
      replace Nq := Lib.hid (And.intro (Nq.out.1.below b1 Nq.out.1.lt) Nq.out.2)
      replace Np := Lib.hid (And.intro (Np.out.1.below b1 Np.out.1.lt) Np.out.2)
      replace Nv := Lib.hid (Nv.out.below b1 Nv.out.lt)
      replace Nc := Lib.hid (Nc.out.below b1 Nc.out.lt)
      have BW' := Lib.hid (BW.out.trans (b1.mono hz))
      replace H := Lib.hid (H.out.keep b1)
      have hz' : B ≤ w6.heap.size := Nat.le_trans hz b1.size
      clear BW hz
      have BW := BW'
      have hz := hz'
      clear BW' hz' y1 b1 hg
      obtain ⟨e0, e1, e2, e3, e4, e5, e6, e7⟩ := H.out.cells
      have eq0 : _ = some (Value.int .u8 x.q.d) := H.out.q.1.cell 0
      have eq1 : _ = some (Value.bool x.q.due) := H.out.q.1.cell 1
      first | (refine hK.out _ _ ?_ (fun hHeld => ?_)) | (go_wp2_with fail; refine hK.out _ _ ?_ (fun hHeld => ?_))
      · (try dsimp only); exact ⟨e0, e1, e2, e3, e4, e5, e6, e7, eq0, eq1⟩
      clear hK K
      try simp only [Act.put, List.setIfInBounds_toArray, List.set_cons_zero, List.set_cons_succ]
      refine rg_take (i := 49) (d := some 52) (l := #[true, true, true, true, true, true, true, true, true, true, true, true, true, true, true, true, true, true, true, true, true, true, true, true, true, true, true, true, true, true, true, true, true, true, true, true, true, true, true, true, true, true, true, true, true, true, true, true, true, true, false, false]) (fuel := 2) (v := ?_) rfl (by kernel_rfl) (by kernel_rfl) (by kernel_rfl) (by kernel_rfl) (by kernel_rfl) (fun _ _ _ h => h) (by kernel_rfl) ?_ (by assumption) ?_
      rotate_left 1
      · (intro wS hSw; (try dsimp only at hSw); go_simp; try with_reducible rfl)
      try simp only [Act.put, List.setIfInBounds_toArray, List.set_cons_zero, List.set_cons_succ]
      refine rg_next (i := 50) (l := #[true, true, true, true, true, true, true, true, true, true, true, true, true, true, true, true, true, true, true, true, true, true, true, true, true, true, true, true, true, true, true, true, true, true, true, true, true, true, true, true, true, true, true, true, true, true, true, true, true, true, true, false]) (fuel := 1) (by kernel_rfl) rfl (by kernel_rfl) (by kernel_rfl) (fun K hK => ?_)
      go_simp
      have b1 : Below w6.heap.size w6 (w6.alloc (.cells #[.int .u8 x.buf, .pointer (some ⟨gt, 0, none⟩), .pointer (some ⟨gq, 0, none⟩), .pointer (some ⟨gp, 0, none⟩), .pointer (some ⟨gv, 0, none⟩), .pointer (some ⟨gc, 0, none⟩), .pointer (some ⟨gl, 0, none⟩), .int .i64 x.now] 51)) := (Below.refl _ _).alloc (Nat.le_refl _) _
      have NP : Hid (RHp (w6.alloc (.cells #[.int .u8 x.buf, .pointer (some ⟨gt, 0, none⟩), .pointer (some ⟨gq, 0, none⟩), .pointer (some ⟨gp, 0, none⟩), .pointer (some ⟨gv, 0, none⟩), .pointer (some ⟨gc, 0, none⟩), .pointer (some ⟨gl, 0, none⟩), .int .i64 x.now] 51)) w6.heap.size d ⟨gt, gq, gp, gv, gc, gl⟩ Z x) := Lib.hid ⟨Blk.new w6 _ _, And.intro (Nt.out.1.below b1 Nt.out.1.lt) Nt.out.2, And.intro (Nq.out.1.below b1 Nq.out.1.lt) Nq.out.2, And.intro (Np.out.1.below b1 Np.out.1.lt) Np.out.2, Nv.out.below b1 Nv.out.lt, Nc.out.below b1 Nc.out.lt, Nl.out.below b1 Nl.out.lt, hvc⟩
      have BX := Lib.hid (BW.out.trans (b1.mono hz))
      replace H := Lib.hid (H.out.keep b1)
      obtain ⟨e0, e1, e2, e3, e4, e5, e6, e7⟩ := H.out.cells
      have eq0 : _ = some (Value.int .u8 x.q.d) := H.out.q.1.cell 0
      have eq1 : _ = some (Value.bool x.q.due) := H.out.q.1.cell 1
      first | (refine hK.out _ _ ?_ (fun hHeld => ?_)) | (go_wp2_with fail; refine hK.out _ _ ?_ (fun hHeld => ?_))
      · (try dsimp only); exact ⟨e0, e1, e2, e3, e4, e5, e6, e7, eq0, eq1⟩
      clear hK K
      try simp only [Act.put, List.setIfInBounds_toArray, List.set_cons_zero, List.set_cons_succ]
      refine rg_take (i := 51) (d := some 2) (l := #[true, true, true, true, true, true, true, true, true, true, true, true, true, true, true, true, true, true, true, true, true, true, true, true, true, true, true, true, true, true, true, true, true, true, true, true, true, true, true, true, true, true, true, true, true, true, true, true, true, true, true, true]) (fuel := 0) (v := ?_) rfl (by kernel_rfl) (by kernel_rfl) (by kernel_rfl) (by kernel_rfl) (by kernel_rfl) (fun _ _ _ h => h) (by kernel_rfl) ?_ (by assumption) ?_
      rotate_left 1
      · (intro wS hSw; (try dsimp only at hSw); go_simp; try with_reducible rfl)
      try simp only [Act.put, List.setIfInBounds_toArray, List.set_cons_zero, List.set_cons_succ]
      refine wpAnyH_done (by kernel_rfl) ?_ _
      clear hHeld
      go_wp2_with fail
      go_ret
      exact ⟨w6.heap.size, ⟨gt, gq, gp, gv, gc, gl⟩, rfl, (by rw [HBB.out]; simp [Rr.all]; omega), NP.out, H.out, by rw [HBB.out]; exact BX.out⟩
    refine rg_step (i := 29) (l := #[true, true, true, true, true, true, true, true, true, true, true, true, true, true, true, true, true, true, true, true, true, true, true, true, false, true, true, true, true, true, true, true, true, true, false, true, true, true, true, false, true, true, true, true, false, true, true, true, true, false, false, false]) rfl (by kernel_rfl) (by kernel_rfl) ?_ ?_
    · intro K hK
      go_simp
      (go_at_call 44)
      refine (rpcopy_any H.out.pt).mono ?_
      rintro e w2 ⟨rfl, y1, b1⟩
      obtain ⟨gp, hg⟩ : ∃ g, w1.heap.size = g := ⟨_, rfl⟩
      have Np : Hid (RP w2 gp Z.A3 d.np Z.c3 x.tp x.pt) := Lib.hid (hg ▸ y1)
      simp only [hg]
      have zp : B ≤ gp := by omega
      replace Nt := Lib.hid (And.intro (Nt.out.1.below b1 Nt.out.1.lt) Nt.out.2)
      have BW' := Lib.hid (BW.out.trans (b1.mono hz))
      replace H := Lib.hid (H.out.keep b1)
      have hz' : B ≤ w2.heap.size := Nat.le_trans hz b1.size
      clear BW hz
      have BW := BW'
      have hz := hz'
      clear BW' hz' y1 b1 hg
      obtain ⟨e0, e1, e2, e3, e4, e5, e6, e7⟩ := H.out.cells
      have eq0 : _ = some (Value.int .u8 x.q.d) := H.out.q.1.cell 0
      have eq1 : _ = some (Value.bool x.q.due) := H.out.q.1.cell 1
      first | (refine hK.out _ _ ?_ (fun hHeld => ?_)) | (go_wp2_with fail; refine hK.out _ _ ?_ (fun hHeld => ?_))
      · (try dsimp only); exact ⟨e0, e1, e2, e3, e4, e5, e6, e7, eq0, eq1⟩
      clear hK K
      try simp only [Act.put, List.setIfInBounds_toArray, List.set_cons_zero, List.set_cons_succ]
      clear e0 e1 e2 e3 e4 e5 e6 e7 eq0 eq1
      refine rg_of (rs := [24, 34]) (fuel := 6) (by kernel_rfl) rfl ?_
      refine rg_step (i := 24) (l := #[true, true, true, true, true, true, true, true, true, true, true, true, true, true, true, true, true, true, true, true, true, true, true, true, true, true, true, true, true, true, true, true, true, true, false, true, true, true, true, false, true, true, true, true, false, true, true, true, true, false, false, false]) rfl (by kernel_rfl) (by kernel_rfl) ?_ ?_
      · intro K hK
        go_simp
        have b1 : Below w2.heap.size w2 (w2.alloc (.cells #[.int .u8 x.q.d, .bool x.q.due] 99)) := (Below.refl _ _).alloc (Nat.le_refl _) _
        have Nq : Hid (RQ (w2.alloc (.cells #[.int .u8 x.q.d, .bool x.q.due] 99)) w2.heap.size x.q) := Lib.hid ⟨Blk.new w2 _ _, H.out.q.2⟩
        replace Nt := Lib.hid (And.intro (Nt.out.1.below b1 Nt.out.1.lt) Nt.out.2)
        replace Np := Lib.hid (And.intro (Np.out.1.below b1 Np.out.1.lt) Np.out.2)
        have BW' := Lib.hid (BW.out.trans (b1.mono hz))
        replace H := Lib.hid (H.out.keep b1)
        have hz' : B ≤ (w2.alloc (.cells #[.int .u8 x.q.d, .bool x.q.due] 99)).heap.size := Nat.le_trans hz b1.size
        have zq : B ≤ w2.heap.size := hz
        clear BW hz
        have BW := BW'
        have hz := hz'
        clear BW' hz' b1
        obtain ⟨e0, e1, e2, e3, e4, e5, e6, e7⟩ := H.out.cells
        have eq0 : _ = some (Value.int .u8 x.q.d) := H.out.q.1.cell 0
        have eq1 : _ = some (Value.bool x.q.due) := H.out.q.1.cell 1
        first | (refine hK.out _ _ ?_ (fun hHeld => ?_)) | (go_wp2_with fail; refine hK.out _ _ ?_ (fun hHeld => ?_))
        · (try dsimp only); exact ⟨e0, e1, e2, e3, e4, e5, e6, e7, eq0, eq1⟩
        clear hK K
        try simp only [Act.put, List.setIfInBounds_toArray, List.set_cons_zero, List.set_cons_succ]
        generalize hgq : w2.heap.size = gq at *
        generalize World.alloc w2 _ = w3 at *
        clear e0 e1 e2 e3 e4 e5 e6 e7 eq0 eq1
        refine rg_next (i := 34) (l := #[true, true, true, true, true, true, true, true, true, true, true, true, true, true, true, true, true, true, true, true, true, true, true, true, true, true, true, true, true, true, true, true, true, true, true, true, true, true, true, false, true, true, true, true, false, true, true, true, true, false, false, false]) (fuel := 5) (by kernel_rfl) rfl (by kernel_rfl) (by kernel_rfl) (fun K hK => ?_)
        go_simp
        (go_at_call 45)
        refine (rfcopy_any H.out.v).mono ?_
        rintro e w4 ⟨rfl, y1, b1⟩
        obtain ⟨gv, hg⟩ : ∃ g, w3.heap.size = g := ⟨_, rfl⟩
        have Nv : Hid (Blk w4 gv 102 (rfC Z.A1 d.nv Z.c1 x.tv)) := Lib.hid (hg ▸ y1)
        simp only [hg]
        have zv : B ≤ gv := by omega
        replace Nt := Lib.hid (And.intro (Nt.out.1.below b1 Nt.out.1.lt) Nt.out.2)
        replace Np := Lib.hid (And.intro (Np.out.1.below b1 Np.out.1.lt) Np.out.2)
        replace Nq := Lib.hid (And.intro (Nq.out.1.below b1 Nq.out.1.lt) Nq.out.2)
        have BW' := Lib.hid (BW.out.trans (b1.mono hz))
        replace H := Lib.hid (H.out.keep b1)
        have hz' : B ≤ w4.heap.size := Nat.le_trans hz b1.size
        clear BW hz
        have BW := BW'
        have hz := hz'
        clear BW' hz' y1 b1 hg
        obtain ⟨e0, e1, e2, e3, e4, e5, e6, e7⟩ := H.out.cells
        have eq0 : _ = some (Value.int .u8 x.q.d) := H.out.q.1.cell 0
        have eq1 : _ = some (Value.bool x.q.due) := H.out.q.1.cell 1
        first | (refine hK.out _ _ ?_ (fun hHeld => ?_)) | (go_wp2_with fail; refine hK.out _ _ ?_ (fun hHeld => ?_))
        · (try dsimp only); exact ⟨e0, e1, e2, e3, e4, e5, e6, e7, eq0, eq1⟩
        clear hK K
        try simp only [Act.put, List.setIfInBounds_toArray, List.set_cons_zero, List.set_cons_succ]
        clear e0 e1 e2 e3 e4 e5 e6 e7 eq0 eq1
        refine rg_next (i := 39) (l := #[true, true, true, true, true, true, true, true, true, true, true, true, true, true, true, true, true, true, true, true, true, true, true, true, true, true, true, true, true, true, true, true, true, true, true, true, true, true, true, true, true, true, true, true, false, true, true, true, true, false, false, false]) (fuel := 4) (by kernel_rfl) rfl (by kernel_rfl) (by kernel_rfl) (fun K hK => ?_)
        go_simp
        (go_at_call 45)
        refine (rfcopy_any H.out.c).mono ?_
        rintro e w5 ⟨rfl, y1, b1⟩
        obtain ⟨gc, hg⟩ : ∃ g, w4.heap.size = g := ⟨_, rfl⟩
        have Nc : Hid (Blk w5 gc 102 (rfC Z.A2 d.nc Z.c2 x.tc)) := Lib.hid (hg ▸ y1)
        simp only [hg]
        have zc : B ≤ gc := by omega
        have hvc : gv ≠ gc := (by have := Nv.out.lt; omega)
        replace Nt := Lib.hid (And.intro (Nt.out.1.below b1 Nt.out.1.lt) Nt.out.2)
        replace Np := Lib.hid (And.intro (Np.out.1.below b1 Np.out.1.lt) Np.out.2)
        replace Nq := Lib.hid (And.intro (Nq.out.1.below b1 Nq.out.1.lt) Nq.out.2)
        replace Nv := Lib.hid (Nv.out.below b1 Nv.out.lt)
        have BW' := Lib.hid (BW.out.trans (b1.mono hz))
        replace H := Lib.hid (H.out.keep b1)
        have hz' : B ≤ w5.heap.size := Nat.le_trans hz b1.size
        clear BW hz
        have BW := BW'
        have hz := hz'
        clear BW' hz' y1 b1 hg
        obtain ⟨e0, e1, e2, e3, e4, e5, e6, e7⟩ := H.out.cells
        have eq0 : _ = some (Value.int .u8 x.q.d) := H.out.q.1.cell 0
        have eq1 : _ = some (Value.bool x.q.due) := H.out.q.1.cell 1
        first | (refine hK.out _ _ ?_ (fun hHeld => ?_)) | (go_wp2_with fail; refine hK.out _ _ ?_ (fun hHeld => ?_))
        · (try dsimp only); exact ⟨e0, e1, e2, e3, e4, e5, e6, e7, eq0, eq1⟩
        clear hK K
        try simp only [Act.put, List.setIfInBounds_toArray, List.set_cons_zero, List.set_cons_succ]
        clear e0 e1 e2 e3 e4 e5 e6 e7 eq0 eq1
        refine rg_next (i := 44) (l := #[true, true, true, true, true, true, true, true, true, true, true, true, true, true, true, true, true, true, true, true, true, true, true, true, true, true, true, true, true, true, true, true, true, true, true, true, true, true, true, true, true, true, true, true, true, true, true, true, true, false, false, false]) (fuel := 3) (by kernel_rfl) rfl (by kernel_rfl) (by kernel_rfl) (fun K hK => ?_)
        go_simp
        (go_at_call 46)
        refine (rlcopy_any H.out.l).mono ?_
        rintro e w6 ⟨rfl, y1, b1⟩
        obtain ⟨gl, hg⟩ : ∃ g, w5.heap.size = g := ⟨_, rfl⟩
        have Nl : Hid (Blk w6 gl 104 (rlC Z.A d.n Z.c x.s x.ro)) := Lib.hid (hg ▸ y1)
        simp only [hg]
        have zl : B ≤ gl := by omega
        replace Nt := Lib.hid (And.intro (Nt.out.1.below b1 Nt.out.1.lt) Nt.out.2)
        replace Np := Lib.hid (And.intro (Np.out.1.below b1 Np.out.1.lt) Np.out.2)
        replace Nq := Lib.hid (And.intro (Nq.out.1.below b1 Nq.out.1.lt) Nq.out.2)
        replace Nv := Lib.hid (Nv.out.below b1 Nv.out.lt)
        replace Nc := Lib.hid (Nc.out.below b1 Nc.out.lt)
        have BW' := Lib.hid (BW.out.trans (b1.mono hz))
        replace H := Lib.hid (H.out.keep b1)
        have hz' : B ≤ w6.heap.size := Nat.le_trans hz b1.size
        clear BW hz
        have BW := BW'
        have hz := hz'
        clear BW' hz' y1 b1 hg
        obtain ⟨e0, e1, e2, e3, e4, e5, e6, e7⟩ := H.out.cells
        have eq0 : _ = some (Value.int .u8 x.q.d) := H.out.q.1.cell 0
        have eq1 : _ = some (Value.bool x.q.due) := H.out.q.1.cell 1
        first | (refine hK.out _ _ ?_ (fun hHeld => ?_)) | (go_wp2_with fail; refine hK.out _ _ ?_ (fun hHeld => ?_))
        · (try dsimp only); exact ⟨e0, e1, e2, e3, e4, e5, e6, e7, eq0, eq1⟩
        clear hK K
        try simp only [Act.put, List.setIfInBounds_toArray, List.set_cons_zero, List.set_cons_succ]
        refine rg_take (i := 49) (d := some 52) (l := #[true, true, true, true, true, true, true, true, true, true, true, true, true, true, true, true, true, true, true, true, true, true, true, true, true, true, true, true, true, true, true, true, true, true, true, true, true, true, true, true, true, true, true, true, true, true, true, true, true, true, false, false]) (fuel := 2) (v := ?_) rfl (by kernel_rfl) (by kernel_rfl) (by kernel_rfl) (by kernel_rfl) (by kernel_rfl) (fun _ _ _ h => h) (by kernel_rfl) ?_ (by assumption) ?_
        rotate_left 1
        · (intro wS hSw; (try dsimp only at hSw); go_simp; try with_reducible rfl)
        try simp only [Act.put, List.setIfInBounds_toArray, List.set_cons_zero, List.set_cons_succ]
        refine rg_next (i := 50) (l := #[true, true, true, true, true, true, true, true, true, true, true, true, true, true, true, true, true, true, true, true, true, true, true, true, true, true, true, true, true, true, true, true, true, true, true, true, true, true, true, true, true, true, true, true, true, true, true, true, true, true, true, false]) (fuel := 1) (by kernel_rfl) rfl (by kernel_rfl) (by kernel_rfl) (fun K hK => ?_)
        go_simp
        have b1 : Below w6.heap.size w6 (w6.alloc (.cells #[.int .u8 x.buf, .pointer (some ⟨gt, 0, none⟩), .pointer (some ⟨gq, 0, none⟩), .pointer (some ⟨gp, 0, none⟩), .pointer (some ⟨gv, 0, none⟩), .pointer (some ⟨gc, 0, none⟩), .pointer (some ⟨gl, 0, none⟩), .int .i64 x.now] 51)) := (Below.refl _ _).alloc (Nat.le_refl _) _
        have NP : Hid (RHp (w6.alloc (.cells #[.int .u8 x.buf, .pointer (some ⟨gt, 0, none⟩), .pointer (some ⟨gq, 0, none⟩), .pointer (some ⟨gp, 0, none⟩), .pointer (some ⟨gv, 0, none⟩), .pointer (some ⟨gc, 0, none⟩), .pointer (some ⟨gl, 0, none⟩), .int .i64 x.now] 51)) w6.heap.size d ⟨gt, gq, gp, gv, gc, gl⟩ Z x) := Lib.hid ⟨Blk.new w6 _ _, And.intro (Nt.out.1.below b1 Nt.out.1.lt) Nt.out.2, And.intro (Nq.out.1.below b1 Nq.out.1.lt) Nq.out.2, And.intro (Np.out.1.below b1 Np.out.1.lt) Np.out.2, Nv.out.below b1 Nv.out.lt, Nc.out.below b1 Nc.out.lt, Nl.out.below b1 Nl.out.lt, hvc⟩
        have BX := Lib.hid (BW.out.trans (b1.mono hz))
        replace H := Lib.hid (H.out.keep b1)
        obtain ⟨e0, e1, e2, e3, e4, e5, e6, e7⟩ := H.out.cells
        have eq0 : _ = some (Value.int .u8 x.q.d) := H.out.q.1.cell 0
        have eq1 : _ = some (Value.bool x.q.due) := H.out.q.1.cell 1
        first | (refine hK.out _ _ ?_ (fun hHeld => ?_)) | (go_wp2_with fail; refine hK.out _ _ ?_ (fun hHeld => ?_))
        · (try dsimp only); exact ⟨e0, e1, e2, e3, e4, e5, e6, e7, eq0, eq1⟩
        clear hK K
        try simp only [Act.put, List.setIfInBounds_toArray, List.set_cons_zero, List.set_cons_succ]
        refine rg_take (i := 51) (d := some 2) (l := #[true, true, true, true, true, true, true, true, true, true, true, true, true, true, true, true, true, true, true, true, true, true, true, true, true, true, true, true, true, true, true, true, true, true, true, true, true, true, true, true, true, true, true, true, true, true, true, true, true, true, true, true]) (fuel := 0) (v := ?_) rfl (by kernel_rfl) (by kernel_rfl) (by kernel_rfl) (by kernel_rfl) (by kernel_rfl) (fun _ _ _ h => h) (by kernel_rfl) ?_ (by assumption) ?_
        rotate_left 1
        · (intro wS hSw; (try dsimp only at hSw); go_simp; try with_reducible rfl)
        try simp only [Act.put, List.setIfInBounds_toArray, List.set_cons_zero, List.set_cons_succ]
        refine wpAnyH_done (by kernel_rfl) ?_ _
        clear hHeld
        go_wp2_with fail
        go_ret
        exact ⟨w6.heap.size, ⟨gt, gq, gp, gv, gc, gl⟩, rfl, (by rw [HBB.out]; simp [Rr.all]; omega), NP.out, H.out, by rw [HBB.out]; exact BX.out⟩
      refine rg_step (i := 34) (l := #[true, true, true, true, true, true, true, true, true, true, true, true, true, true, true, true, true, true, true, true, true, true, true, true, false, true, true, true, true, true, true, true, true, true, true, true, true, true, true, false, true, true, true, true, false, true, true, true, true, false, false, false]) rfl (by kernel_rfl) (by kernel_rfl) ?_ ?_
      · intro K hK
        go_simp
        (go_at_call 45)
        refine (rfcopy_any H.out.v).mono ?_
        rintro e w3 ⟨rfl, y1, b1⟩
        obtain ⟨gv, hg⟩ : ∃ g, w2.heap.size = g := ⟨_, rfl⟩
        have Nv : Hid (Blk w3 gv 102 (rfC Z.A1 d.nv Z.c1 x.tv)) := Lib.hid (hg ▸ y1)
        simp only [hg]
        have zv : B ≤ gv := by omega
        replace Nt := Lib.hid (And.intro (Nt.out.1.below b1 Nt.out.1.lt) Nt.out.2)
        replace Np := Lib.hid (And.intro (Np.out.1.below b1 Np.out.1.lt) Np.out.2)
        have BW' := Lib.hid (BW.out.trans (b1.mono hz))
        replace H := Lib.hid (H.out.keep b1)
        have hz' : B ≤ w3.heap.size := Nat.le_trans hz b1.size
        clear BW hz
        have BW := BW'
        have hz := hz'
        clear BW' hz' y1 b1 hg
        obtain ⟨e0, e1, e2, e3, e4, e5, e6, e7⟩ := H.out.cells
        have eq0 : _ = some (Value.int .u8 x.q.d) := H.out.q.1.cell 0
        have eq1 : _ = some (Value.bool x.q.due) := H.out.q.1.cell 1
        first | (refine hK.out _ _ ?_ (fun hHeld => ?_)) | (go_wp2_with fail; refine hK.out _ _ ?_ (fun hHeld => ?_))
        · (try dsimp only); exact ⟨e0, e1, e2, e3, e4, e5, e6, e7, eq0, eq1⟩
        clear hK K
        try simp only [Act.put, List.setIfInBounds_toArray, List.set_cons_zero, List.set_cons_succ]
        clear e0 e1 e2 e3 e4 e5 e6 e7 eq0 eq1
        refine rg_of (rs := [24, 39]) (fuel := 5) (by kernel_rfl) rfl ?_
        refine rg_step (i := 24) (l := #[true, true, true, true, true, true, true, true, true, true, true, true, true, true, true, true, true, true, true, true, true, true, true, true, true, true, true, true, true, true, true, true, true, true, true, true, true, true, true, false, true, true, true, true, false, true, true, true, true, false, false, false]) rfl (by kernel_rfl) (by kernel_rfl) ?_ ?_
        · intro K hK
          go_simp
          have b1 : Below w3.heap.size w3 (w3.alloc (.cells #[.int .u8 x.q.d, .bool x.q.due] 99)) := (Below.refl _ _).alloc (Nat.le_refl _) _
          have Nq : Hid (RQ (w3.alloc (.cells #[.int .u8 x.q.d, .bool x.q.due] 99)) w3.heap.size x.q) := Lib.hid ⟨Blk.new w3 _ _, H.out.q.2⟩
          replace Nt := Lib.hid (And.intro (Nt.out.1.below b1 Nt.out.1.lt) Nt.out.2)
          replace Np := Lib.hid (And.intro (Np.out.1.below b1 Np.out.1.lt) Np.out.2)
          replace Nv := Lib.hid (Nv.out.below b1 Nv.out.lt)
          have BW' := Lib.hid (BW.out.trans (b1.mono hz))
          replace H := Lib.hid (H.out.keep b1)
          have hz' : B ≤ (w3.alloc (.cells #[.int .u8 x.q.d, .bool x.q.due] 99)).heap.size := Nat.le_trans hz b1.size
          have zq : B ≤ w3.heap.size := hz
          clear BW hz
          have BW := BW'
          have hz := hz'
          clear BW' hz' b1
          obtain ⟨e0, e1, e2, e3, e4, e5, e6, e7⟩ := H.out.cells
          have eq0 : _ = some (Value.int .u8 x.q.d) := H.out.q.1.cell 0
          have eq1 : _ = some (Value.bool x.q.due) := H.out.q.1.cell 1
          first | (refine hK.out _ _ ?_ (fun hHeld => ?_)) | (go_wp2_with fail; refine hK.out _ _ ?_ (fun hHeld => ?_))
          · (try dsimp only); exact ⟨e0, e1, e2, e3, e4, e5, e6, e7, eq0, eq1⟩
          clear hK K
          try simp only [Act.put, List.setIfInBounds_toArray, List.set_cons_zero, List.set_cons_succ]
          generalize hgq : w3.heap.size = gq at *
          generalize World.alloc w3 _ = w4 at *
          clear e0 e1 e2 e3 e4 e5 e6 e7 eq0 eq1
          refine rg_next (i := 39) (l := #[true, true, true, true, true, true, true, true, true, true, true, true, true, true, true, true, true, true, true, true, true, true, true, true, true, true, true, true, true, true, true, true, true, true, true, true, true, true, true, true, true, true, true, true, false, true, true, true, true, false, false, false]) (fuel := 4) (by kernel_rfl) rfl (by kernel_rfl) (by kernel_rfl) (fun K hK => ?_)
          go_simp
          (go_at_call 45)
          refine (rfcopy_any H.out.c).mono ?_
          rintro e w5 ⟨rfl, y1, b1⟩
          obtain ⟨gc, hg⟩ : ∃ g, w4.heap.size = g := ⟨_, rfl⟩
          have Nc : Hid (Blk w5 gc 102 (rfC Z.A2 d.nc Z.c2 x.tc)) := Lib.hid (hg ▸ y1)
          simp only [hg]
          have zc : B ≤ gc := by omega
          have hvc : gv ≠ gc := (by have := Nv.out.lt; omega)
          replace Nt := Lib.hid (And.intro (Nt.out.1.below b1 Nt.out.1.lt) Nt.out.2)
          replace Np := Lib.hid (And.intro (Np.out.1.below b1 Np.out.1.lt) Np.out.2)
          replace Nv := Lib.hid (Nv.out.below b1 Nv.out.lt)
          replace Nq := Lib.hid (And.intro (Nq.out.1.below b1 Nq.out.1.lt) Nq.out.2)
          have BW' := Lib.hid (BW.out.trans (b1.mono hz))
          replace H := Lib.hid (H.out.keep b1)
          have hz' : B ≤ w5.heap.size := Nat.le_trans hz b1.size
          clear BW hz
          have BW := BW'
          have hz := hz'
          clear BW' hz' y1 b1 hg
          obtain ⟨e0, e1, e2, e3, e4, e5, e6, e7⟩ := H.out.cells
          have eq0 : _ = some (Value.int .u8 x.q.d) := H.out.q.1.cell 0
          have eq1 : _ = some (Value.bool x.q.due) := H.out.q.1.cell 1
          first | (refine hK.out _ _ ?_ (fun hHeld => ?_)) | (go_wp2_with fail; refine hK.out _ _ ?_ (fun hHeld => ?_))
          · (try dsimp only); exact ⟨e0, e1, e2, e3, e4, e5, e6, e7, eq0, eq1⟩
          clear hK K
          try simp only [Act.put, List.setIfInBounds_toArray, List.set_cons_zero, List.set_cons_succ]
          clear e0 e1 e2 e3 e4 e5 e6 e7 eq0 eq1
          refine rg_next (i := 44) (l := #[true, true, true, true, true, true, true, true, true, true, true, true, true, true, true, true, true, true, true, true, true, true, true, true, true, true, true, true, true, true, true, true, true, true, true, true, true, true, true, true, true, true, true, true, true, true, true, true, true, false, false, false]) (fuel := 3) (by kernel_rfl) rfl (by kernel_rfl) (by kernel_rfl) (fun K hK => ?_)
          go_simp
          (go_at_call 46)
          refine (rlcopy_any H.out.l).mono ?_
          rintro e w6 ⟨rfl, y1, b1⟩
          obtain ⟨gl, hg⟩ : ∃ g, w5.heap.size = g := ⟨_, rfl⟩
          have Nl : Hid (Blk w6 gl 104 (rlC Z.A d.n Z.c x.s x.ro)) := Lib.hid (hg ▸ y1)
          simp only [hg]
          have zl : B ≤ gl := by omega
          replace Nt := Lib.hid (And.intro (Nt.out.1.below b1 Nt.out.1.lt) Nt.out.2)
          replace Np := Lib.hid (And.intro (Np.out.1.below b1 Np.out.1.lt) Np.out.2)
          replace Nv := Lib.hid (Nv.out.below b1 Nv.out.lt)
          replace Nq := Lib.hid (And.intro (Nq.out.1.below b1 Nq.out.1.lt) Nq.out.2)
          replace Nc := Lib.hid (Nc.out.below b1 Nc.out.lt)
          have BW' := Lib.hid (BW.out.trans (b1.mono hz))
          replace H := Lib.hid (H.out.keep b1)
          have hz' : B ≤ w6.heap.size := Nat.le_trans hz b1.size
          clear BW hz
          have BW := BW'
          have hz := hz'
          clear BW' hz' y1 b1 hg
          obtain ⟨e0, e1, e2, e3, e4, e5, e6, e7⟩ := H.out.cells
          have eq0 : _ = some (Value.int .u8 x.q.d) := H.out.q.1.cell 0
          have eq1 : _ = some (Value.bool x.q.due) := H.out.q.1.cell 1
          first | (refine hK.out _ _ ?_ (fun hHeld => ?_)) | (go_wp2_with fail; refine hK.out _ _ ?_ (fun hHeld => ?_))
          · (try dsimp only); exact ⟨e0, e1, e2, e3, e4, e5, e6, e7, eq0, eq1⟩
          clear hK K
          try simp only [Act.put, List.setIfInBounds_toArray, List.set_cons_zero, List.set_cons_succ]
          refine rg_take (i := 49) (d := some 52) (l := #[true, true, true, true, true, true, true, true, true, true, true, true, true, true, true, true, true, true, true, true, true, true, true, true, true, true, true, true, true, true, true, true, true, true, true, true, true, true, true, true, true, true, true, true, true, true, true, true, true, true, false, false]) (fuel := 2) (v := ?_) rfl (by kernel_rfl) (by kernel_rfl) (by kernel_rfl) (by kernel_rfl) (by kernel_rfl) (fun _ _ _ h => h) (by kernel_rfl) ?_ (by assumption) ?_
          rotate_left 1
          · (intro wS hSw; (try dsimp only at hSw); go_simp; try with_reducible rfl)
          try simp only [Act.put, List.setIfInBounds_toArray, List.set_cons_zero, List.set_cons_succ]
          refine rg_next (i := 50) (l := #[true, true, true, true, true, true, true, true, true, true, true, true, true, true, true, true, true, true, true, true, true, true, true, true, true, true, true, true, true, true, true, true, true, true, true, true, true, true, true, true, true, true, true, true, true, true, true, true, true, true, true, false]) (fuel := 1) (by kernel_rfl) rfl (by kernel_rfl) (by kernel_rfl) (fun K hK => ?_)
          go_simp
          have b1 : Below w6.heap.size w6 (w6.alloc (.cells #[.int .u8 x.buf, .pointer (some ⟨gt, 0, none⟩), .pointer (some ⟨gq, 0, none⟩), .pointer (some ⟨gp, 0, none⟩), .pointer (some ⟨gv, 0, none⟩), .pointer (some ⟨gc, 0, none⟩), .pointer (some ⟨gl, 0, none⟩), .int .i64 x.now] 51)) := (Below.refl _ _).alloc (Nat.le_refl _) _
          have NP : Hid (RHp (w6.alloc (.cells #[.int .u8 x.buf, .pointer (some ⟨gt, 0, none⟩), .pointer (some ⟨gq, 0, none⟩), .pointer (some ⟨gp, 0, none⟩), .pointer (some ⟨gv, 0, none⟩), .pointer (some ⟨gc, 0, none⟩), .pointer (some ⟨gl, 0, none⟩), .int .i64 x.now] 51)) w6.heap.size d ⟨gt, gq, gp, gv, gc, gl⟩ Z x) := Lib.hid ⟨Blk.new w6 _ _, And.intro (Nt.out.1.below b1 Nt.out.1.lt) Nt.out.2, And.intro (Nq.out.1.below b1 Nq.out.1.lt) Nq.out.2, And.intro (Np.out.1.below b1 Np.out.1.lt) Np.out.2, Nv.out.below b1 Nv.out.lt, Nc.out.below b1 Nc.out.lt, Nl.out.below b1 Nl.out.lt, hvc⟩
          have BX := Lib.hid (BW.out.trans (b1.mono hz))
          replace H := Lib.hid (H.out.keep b1)
          obtain ⟨e0, e1, e2, e3, e4, e5, e6, e7⟩ := H.out.cells
          have eq0 : _ = some (Value.int .u8 x.q.d) := H.out.q.1.cell 0
          have eq1 : _ = some (Value.bool x.q.due) := H.out.q.1.cell 1
          first | (refine hK.out _ _ ?_ (fun hHeld => ?_)) | (go_wp2_with fail; refine hK.out _ _ ?_ (fun hHeld => ?_))
          · (try dsimp only); exact ⟨e0, e1, e2, e3, e4, e5, e6, e7, eq0, eq1⟩
          clear hK K
          try simp only [Act.put, List.setIfInBounds_toArray, List.set_cons_zero, List.set_cons_succ]
          refine rg_take (i := 51) (d := some 2) (l := #[true, true, true, true, true, true, true, true, true, true, true, true, true, true, true, true, true, true, true, true, true, true, true, true, true, true, true, true, true, true, true, true, true, true, true, true, true, true, true, true, true, true, true, true, true, true, true, true, true, true, true, true]) (fuel := 0) (v := ?_) rfl (by kernel_rfl) (by kernel_rfl) (by kernel_rfl) (by kernel_rfl) (by kernel_rfl) (fun _ _ _ h => h) (by kernel_rfl) ?_ (by assumption) ?_
          rotate_left 1
          · (intro wS hSw; (try dsimp only at hSw); go_simp; try with_reducible rfl)
          try simp only [Act.put, List.setIfInBounds_toArray, List.set_cons_zero, List.set_cons_succ]
          refine wpAnyH_done (by kernel_rfl) ?_ _
          clear hHeld
          go_wp2_with fail
          go_ret
          exact ⟨w6.heap.size, ⟨gt, gq, gp, gv, gc, gl⟩, rfl, (by rw [HBB.out]; simp [Rr.all]; omega), NP.out, H.out, by rw [HBB.out]; exact BX.out⟩
        refine rg_step (i := 39) (l := #[true, true, true, true, true, true, true, true, true, true, true, true, true, true, true, true, true, true, true, true, true, true, true, true, false, true, true, true, true, true, true, true, true, true, true, true, true, true, true, true, true, true, true, true, false, true, true, true, true, false, false, false]) rfl (by kernel_rfl) (by kernel_rfl) ?_ ?_
        · intro K hK
          go_simp
          (go_at_call 45)
          refine (rfcopy_any H.out.c).mono ?_
          rintro e w4 ⟨rfl, y1, b1⟩
          obtain ⟨gc, hg⟩ : ∃ g, w3.heap.size = g := ⟨_, rfl⟩
          have Nc : Hid (Blk w4 gc 102 (rfC Z.A2 d.nc Z.c2 x.tc)) := Lib.hid (hg ▸ y1)
          simp only [hg]
          have zc : B ≤ gc := by omega
          have hvc : gv ≠ gc := (by have := Nv.out.lt; omega)
          replace Nt := Lib.hid (And.intro (Nt.out.1.below b1 Nt.out.1.lt) Nt.out.2)
          replace Np := Lib.hid (And.intro (Np.out.1.below b1 Np.out.1.lt) Np.out.2)
          replace Nv := Lib.hid (Nv.out.below b1 Nv.out.lt)
          have BW' := Lib.hid (BW.out.trans (b1.mono hz))
          replace H := Lib.hid (H.out.keep b1)
          have hz' : B ≤ w4.heap.size := Nat.le_trans hz b1.size
          clear BW hz
          have BW := BW'
          have hz := hz'
          clear BW' hz' y1 b1 hg
          obtain ⟨e0, e1, e2, e3, e4, e5, e6, e7⟩ := H.out.cells
          have eq0 : _ = some (Value.int .u8 x.q.d) := H.out.q.1.cell 0
          have eq1 : _ = some (Value.bool x.q.due) := H.out.q.1.cell 1
          first | (refine hK.out _ _ ?_ (fun hHeld => ?_)) | (go_wp2_with fail; refine hK.out _ _ ?_ (fun hHeld => ?_))
          · (try dsimp only); exact ⟨e0, e1, e2, e3, e4, e5, e6, e7, eq0, eq1⟩
          clear hK K
          try simp only [Act.put, List.setIfInBounds_toArray, List.set_cons_zero, List.set_cons_succ]
          clear e0 e1 e2 e3 e4 e5 e6 e7 eq0 eq1
          refine rg_of (rs := [24, 44]) (fuel := 4) (by kernel_rfl) rfl ?_
          refine rg_step (i := 24) (l := #[true, true, true, true, true, true, true, true, true, true, true, true, true, true, true, true, true, true, true, true, true, true, true, true, true, true, true, true, true, true, true, true, true, true, true, true, true, true, true, true, true, true, true, true, false, true, true, true, true, false, false, false]) rfl (by kernel_rfl) (by kernel_rfl) ?_ ?_
          · intro K hK
            go_simp
            have b1 : Below w4.heap.size w4 (w4.alloc (.cells #[.int .u8 x.q.d, .bool x.q.due] 99)) := (Below.refl _ _).alloc (Nat.le_refl _) _
            have Nq : Hid (RQ (w4.alloc (.cells #[.int .u8 x.q.d, .bool x.q.due] 99)) w4.heap.size x.q) := Lib.hid ⟨Blk.new w4 _ _, H.out.q.2⟩
            replace Nt := Lib.hid (And.intro (Nt.out.1.below b1 Nt.out.1.lt) Nt.out.2)
            replace Np := Lib.hid (And.intro (Np.out.1.below b1 Np.out.1.lt) Np.out.2)
            replace Nv := Lib.hid (Nv.out.below b1 Nv.out.lt)
            replace Nc := Lib.hid (Nc.out.below b1 Nc.out.lt)
            have BW' := Lib.hid (BW.out.trans (b1.mono hz))
            replace H := Lib.hid (H.out.keep b1)
            have hz' : B ≤ (w4.alloc (.cells #[.int .u8 x.q.d, .bool x.q.due] 99)).heap.size := Nat.le_trans hz b1.size
            have zq : B ≤ w4.heap.size := hz
            clear BW hz
            have BW := BW'
            have hz := hz'
            clear BW' hz' b1
            obtain ⟨e0, e1, e2, e3, e4, e5, e6, e7⟩ := H.out.cells
            have eq0 : _ = some (Value.int .u8 x.q.d) := H.out.q.1.cell 0
            have eq1 : _ = some (Value.bool x.q.due) := H.out.q.1.cell 1
            first | (refine hK.out _ _ ?_ (fun hHeld => ?_)) | (go_wp2_with fail; refine hK.out _ _ ?_ (fun hHeld => ?_))
            · (try dsimp only); exact ⟨e0, e1, e2, e3, e4, e5, e6, e7, eq0, eq1⟩
            clear hK K
            try simp only [Act.put, List.setIfInBounds_toArray, List.set_cons_zero, List.set_cons_succ]
            generalize hgq : w4.heap.size = gq at *
            generalize World.alloc w4 _ = w5 at *
            clear e0 e1 e2 e3 e4 e5 e6 e7 eq0 eq1
            refine rg_next (i := 44) (l := #[true, true, true, true, true, true, true, true, true, true, true, true, true, true, true, true, true, true, true, true, true, true, true, true, true, true, true, true, true, true, true, true, true, true, true, true, true, true, true, true, true, true, true, true, true, true, true, true, true, false, false, false]) (fuel := 3) (by kernel_rfl) rfl (by kernel_rfl) (by kernel_rfl) (fun K hK => ?_)
            go_simp
            (go_at_call 46)
            refine (rlcopy_any H.out.l).mono ?_
            rintro e w6 ⟨rfl, y1, b1⟩
            obtain ⟨gl, hg⟩ : ∃ g, w5.heap.size = g := ⟨_, rfl⟩
            have Nl : Hid (Blk w6 gl 104 (rlC Z.A d.n Z.c x.s x.ro)) := Lib.hid (hg ▸ y1)
            simp only [hg]
            have zl : B ≤ gl := by omega
            replace Nt := Lib.hid (And.intro (Nt.out.1.below b1 Nt.out.1.lt) Nt.out.2)
            replace Np := Lib.hid (And.intro (Np.out.1.below b1 Np.out.1.lt) Np.out.2)
            replace Nv := Lib.hid (Nv.out.below b1 Nv.out.lt)
            replace Nc := Lib.hid (Nc.out.below b1 Nc.out.lt)
            replace Nq := Lib.hid (And.intro (Nq.out.1.below b1 Nq.out.1.lt) Nq.out.2)
            have BW' := Lib.hid (BW.out.trans (b1.mono hz))
            replace H := Lib.hid (H.out.keep b1)
            have hz' : B ≤ w6.heap.size := Nat.le_trans hz b1.size
            clear BW hz
            have BW := BW'
            have hz := hz'
            clear BW' hz' y1 b1 hg
            obtain ⟨e0, e1, e2, e3, e4, e5, e6, e7⟩ := H.out.cells
            have eq0 : _ = some (Value.int .u8 x.q.d) := H.out.q.1.cell 0
            have eq1 : _ = some (Value.bool x.q.due) := H.out.q.1.cell 1
            first | (refine hK.out _ _ ?_ (fun hHeld => ?_)) | (go_wp2_with fail; refine hK.out _ _ ?_ (fun hHeld => ?_))
            · (try dsimp only); exact ⟨e0, e1, e2, e3, e4, e5, e6, e7, eq0, eq1⟩
            clear hK K
            try simp only [Act.put, List.setIfInBounds_toArray, List.set_cons_zero, List.set_cons_succ]
            refine rg_take (i := 49) (d := some 52) (l := #[true, true, true, true, true, true, true, true, true, true, true, true, true, true, true, true, true, true, true, true, true, true, true, true, true, true, true, true, true, true, true, true, true, true, true, true, true, true, true, true, true, true, true, true, true, true, true, true, true, true, false, false]) (fuel := 2) (v := ?_) rfl (by kernel_rfl) (by kernel_rfl) (by kernel_rfl) (by kernel_rfl) (by kernel_rfl) (fun _ _ _ h => h) (by kernel_rfl) ?_ (by assumption) ?_
            rotate_left 1
            · (intro wS hSw; (try dsimp only at hSw); go_simp; try with_reducible rfl)
            try simp only [Act.put, List.setIfInBounds_toArray, List.set_cons_zero, List.set_cons_succ]
            refine rg_next (i := 50) (l := #[true, true, true, true, true, true, true, true, true, true, true, true, true, true, true, true, true, true, true, true, true, true, true, true, true, true, true, true, true, true, true, true, true, true, true, true, true, true, true, true, true, true, true, true, true, true, true, true, true, true, true, false]) (fuel := 1) (by kernel_rfl) rfl (by kernel_rfl) (by kernel_rfl) (fun K hK => ?_)
            go_simp
            have b1 : Below w6.heap.size w6 (w6.alloc (.cells #[.int .u8 x.buf, .pointer (some ⟨gt, 0, none⟩), .pointer (some ⟨gq, 0, none⟩), .pointer (some ⟨gp, 0, none⟩), .pointer (some ⟨gv, 0, none⟩), .pointer (some ⟨gc, 0, none⟩), .pointer (some ⟨gl, 0, none⟩), .int .i64 x.now] 51)) := (Below.refl _ _).alloc (Nat.le_refl _) _
            have NP : Hid (RHp (w6.alloc (.cells #[.int .u8 x.buf, .pointer (some ⟨gt, 0, none⟩), .pointer (some ⟨gq, 0, none⟩), .pointer (some ⟨gp, 0, none⟩), .pointer (some ⟨gv, 0, none⟩), .pointer (some ⟨gc, 0, none⟩), .pointer (some ⟨gl, 0, none⟩), .int .i64 x.now] 51)) w6.heap.size d ⟨gt, gq, gp, gv, gc, gl⟩ Z x) := Lib.hid ⟨Blk.new w6 _ _, And.intro (Nt.out.1.below b1 Nt.out.1.lt) Nt.out.2, And.intro (Nq.out.1.below b1 Nq.out.1.lt) Nq.out.2, And.intro (Np.out.1.below b1 Np.out.1.lt) Np.out.2, Nv.out.below b1 Nv.out.lt, Nc.out.below b1 Nc.out.lt, Nl.out.below b1 Nl.out.lt, hvc⟩
            have BX := Lib.hid (BW.out.trans (b1.mono hz))
            replace H := Lib.hid (H.out.keep b1)
            obtain ⟨e0, e1, e2, e3, e4, e5, e6, e7⟩ := H.out.cells
            have eq0 : _ = some (Value.int .u8 x.q.d) := H.out.q.1.cell 0
            have eq1 : _ = some (Value.bool x.q.due) := H.out.q.1.cell 1
            first | (refine hK.out _ _ ?_ (fun hHeld => ?_)) | (go_wp2_with fail; refine hK.out _ _ ?_ (fun hHeld => ?_))
            · (try dsimp only); exact ⟨e0, e1, e2, e3, e4, e5, e6, e7, eq0, eq1⟩
            clear hK K
            try simp only [Act.put, List.setIfInBounds_toArray, List.set_cons_zero, List.set_cons_succ]
            refine rg_take (i := 51) (d := some 2) (l := #[true, true, true, true, true, true, true, true, true, true, true, true, true, true, true, true, true, true, true, true, true, true, true, true, true, true, true, true, true, true, true, true, true, true, true, true, true, true, true, true, true, true, true, true, true, true, true, true, true, true, true, true]) (fuel := 0) (v := ?_) rfl (by kernel_rfl) (by kernel_rfl) (by kernel_rfl) (by kernel_rfl) (by kernel_rfl) (fun _ _ _ h => h) (by kernel_rfl) ?_ (by assumption) ?_
            rotate_left 1
            · (intro wS hSw; (try dsimp only at hSw); go_simp; try with_reducible rfl)
            try simp only [Act.put, List.setIfInBounds_toArray, List.set_cons_zero, List.set_cons_succ]
            refine wpAnyH_done (by kernel_rfl) ?_ _
            clear hHeld
            go_wp2_with fail
            go_ret
            exact ⟨w6.heap.size, ⟨gt, gq, gp, gv, gc, gl⟩, rfl, (by rw [HBB.out]; simp [Rr.all]; omega), NP.out, H.out, by rw [HBB.out]; exact BX.out⟩
          refine rg_step (i := 44) (l := #[true, true, true, true, true, true, true, true, true, true, true, true, true, true, true, true, true, true, true, true, true, true, true, true, false, true, true, true, true, true, true, true, true, true, true, true, true, true, true, true, true, true, true, true, true, true, true, true, true, false, false, false]) rfl (by kernel_rfl) (by kernel_rfl) ?_ ?_
          · intro K hK
            go_simp
            (go_at_call 46)
            refine (rlcopy_any H.out.l).mono ?_
            rintro e w5 ⟨rfl, y1, b1⟩
            obtain ⟨gl, hg⟩ : ∃ g, w4.heap.size = g := ⟨_, rfl⟩
            have Nl : Hid (Blk w5 gl 104 (rlC Z.A d.n Z.c x.s x.ro)) := Lib.hid (hg ▸ y1)
            simp only [hg]
            have zl : B ≤ gl := by omega
            replace Nt := Lib.hid (And.intro (Nt.out.1.below b1 Nt.out.1.lt) Nt.out.2)
            replace Np := Lib.hid (And.intro (Np.out.1.below b1 Np.out.1.lt) Np.out.2)
            replace Nv := Lib.hid (Nv.out.below b1 Nv.out.lt)
            replace Nc := Lib.hid (Nc.out.below b1 Nc.out.lt)
            have BW' := Lib.hid (BW.out.trans (b1.mono hz))
            replace H := Lib.hid (H.out.keep b1)
            have hz' : B ≤ w5.heap.size := Nat.le_trans hz b1.size
            clear BW hz
            have BW := BW'
            have hz := hz'
            clear BW' hz' y1 b1 hg
            obtain ⟨e0, e1, e2, e3, e4, e5, e6, e7⟩ := H.out.cells
            have eq0 : _ = some (Value.int .u8 x.q.d) := H.out.q.1.cell 0
            have eq1 : _ = some (Value.bool x.q.due) := H.out.q.1.cell 1
            first | (refine hK.out _ _ ?_ (fun hHeld => ?_)) | (go_wp2_with fail; refine hK.out _ _ ?_ (fun hHeld => ?_))
            · (try dsimp only); exact ⟨e0, e1, e2, e3, e4, e5, e6, e7, eq0, eq1⟩
            clear hK K
            try simp only [Act.put, List.setIfInBounds_toArray, List.set_cons_zero, List.set_cons_succ]
            clear e0 e1 e2 e3 e4 e5 e6 e7 eq0 eq1
            refine rg_next (i := 24) (l := #[true, true, true, true, true, true, true, true, true, true, true, true, true, true, true, true, true, true, true, true, true, true, true, true, true, true, true, true, true, true, true, true, true, true, true, true, true, true, true, true, true, true, true, true, true, true, true, true, true, false, false, false]) (fuel := 3) (by kernel_rfl) rfl (by kernel_rfl) (by kernel_rfl) (fun K hK => ?_)
            go_simp
            have b1 : Below w5.heap.size w5 (w5.alloc (.cells #[.int .u8 x.q.d, .bool x.q.due] 99)) := (Below.refl _ _).alloc (Nat.le_refl _) _
            have Nq : Hid (RQ (w5.alloc (.cells #[.int .u8 x.q.d, .bool x.q.due] 99)) w5.heap.size x.q) := Lib.hid ⟨Blk.new w5 _ _, H.out.q.2⟩
            replace Nt := Lib.hid (And.intro (Nt.out.1.below b1 Nt.out.1.lt) Nt.out.2)
            replace Np := Lib.hid (And.intro (Np.out.1.below b1 Np.out.1.lt) Np.out.2)
            replace Nv := Lib.hid (Nv.out.below b1 Nv.out.lt)
            replace Nc := Lib.hid (Nc.out.below b1 Nc.out.lt)
            replace Nl := Lib.hid (Nl.out.below b1 Nl.out.lt)
            have BW' := Lib.hid (BW.out.trans (b1.mono hz))
            replace H := Lib.hid (H.out.keep b1)
            have hz' : B ≤ (w5.alloc (.cells #[.int .u8 x.q.d, .bool x.q.due] 99)).heap.size := Nat.le_trans hz b1.size
            have zq : B ≤ w5.heap.size := hz
            clear BW hz
            have BW := BW'
            have hz := hz'
            clear BW' hz' b1
            obtain ⟨e0, e1, e2, e3, e4, e5, e6, e7⟩ := H.out.cells
            have eq0 : _ = some (Value.int .u8 x.q.d) := H.out.q.1.cell 0
            have eq1 : _ = some (Value.bool x.q.due) := H.out.q.1.cell 1
            first | (refine hK.out _ _ ?_ (fun hHeld => ?_)) | (go_wp2_with fail; refine hK.out _ _ ?_ (fun hHeld => ?_))
            · (try dsimp only); exact ⟨e0, e1, e2, e3, e4, e5, e6, e7, eq0, eq1⟩
            clear hK K
            try simp only [Act.put, List.setIfInBounds_toArray, List.set_cons_zero, List.set_cons_succ]
            generalize hgq : w5.heap.size = gq at *
            generalize World.alloc w5 _ = w6 at *
            refine rg_take (i := 49) (d := some 52) (l := #[true, true, true, true, true, true, true, true, true, true, true, true, true, true, true, true, true, true, true, true, true, true, true, true, true, true, true, true, true, true, true, true, true, true, true, true, true, true, true, true, true, true, true, true, true, true, true, true, true, true, false, false]) (fuel := 2) (v := ?_) rfl (by kernel_rfl) (by kernel_rfl) (by kernel_rfl) (by kernel_rfl) (by kernel_rfl) (fun _ _ _ h => h) (by kernel_rfl) ?_ (by assumption) ?_
            rotate_left 1
            · (intro wS hSw; (try dsimp only at hSw); go_simp; try with_reducible rfl)
            try simp only [Act.put, List.setIfInBounds_toArray, List.set_cons_zero, List.set_cons_succ]
            refine rg_next (i := 50) (l := #[true, true, true, true, true, true, true, true, true, true, true, true, true, true, true, true, true, true, true, true, true, true, true, true, true, true, true, true, true, true, true, true, true, true, true, true, true, true, true, true, true, true, true, true, true, true, true, true, true, true, true, false]) (fuel := 1) (by kernel_rfl) rfl (by kernel_rfl) (by kernel_rfl) (fun K hK => ?_)
            go_simp
            have b1 : Below w6.heap.size w6 (w6.alloc (.cells #[.int .u8 x.buf, .pointer (some ⟨gt, 0, none⟩), .pointer (some ⟨gq, 0, none⟩), .pointer (some ⟨gp, 0, none⟩), .pointer (some ⟨gv, 0, none⟩), .pointer (some ⟨gc, 0, none⟩), .pointer (some ⟨gl, 0, none⟩), .int .i64 x.now] 51)) := (Below.refl _ _).alloc (Nat.le_refl _) _
            have NP : Hid (RHp (w6.alloc (.cells #[.int .u8 x.buf, .pointer (some ⟨gt, 0, none⟩), .pointer (some ⟨gq, 0, none⟩), .pointer (some ⟨gp, 0, none⟩), .pointer (some ⟨gv, 0, none⟩), .pointer (some ⟨gc, 0, none⟩), .pointer (some ⟨gl, 0, none⟩), .int .i64 x.now] 51)) w6.heap.size d ⟨gt, gq, gp, gv, gc, gl⟩ Z x) := Lib.hid ⟨Blk.new w6 _ _, And.intro (Nt.out.1.below b1 Nt.out.1.lt) Nt.out.2, And.intro (Nq.out.1.below b1 Nq.out.1.lt) Nq.out.2, And.intro (Np.out.1.below b1 Np.out.1.lt) Np.out.2, Nv.out.below b1 Nv.out.lt, Nc.out.below b1 Nc.out.lt, Nl.out.below b1 Nl.out.lt, hvc⟩
            have BX := Lib.hid (BW.out.trans (b1.mono hz))
            replace H := Lib.hid (H.out.keep b1)
            obtain ⟨e0, e1, e2, e3, e4, e5, e6, e7⟩ := H.out.cells
            have eq0 : _ = some (Value.int .u8 x.q.d) := H.out.q.1.cell 0
            have eq1 : _ = some (Value.bool x.q.due) := H.out.q.1.cell 1
            first | (refine hK.out _ _ ?_ (fun hHeld => ?_)) | (go_wp2_with fail; refine hK.out _ _ ?_ (fun hHeld => ?_))
            · (try dsimp only); exact ⟨e0, e1, e2, e3, e4, e5, e6, e7, eq0, eq1⟩
            clear hK K
            try simp only [Act.put, List.setIfInBounds_toArray, List.set_cons_zero, List.set_cons_succ]
            refine rg_take (i := 51) (d := some 2) (l := #[true, true, true, true, true, true, true, true, true, true, true, true, true, true, true, true, true, true, true, true, true, true, true, true, true, true, true, true, true, true, true, true, true, true, true, true, true, true, true, true, true, true, true, true, true, true, true, true, true, true, true, true]) (fuel := 0) (v := ?_) rfl (by kernel_rfl) (by kernel_rfl) (by kernel_rfl) (by kernel_rfl) (by kernel_rfl) (fun _ _ _ h => h) (by kernel_rfl) ?_ (by assumption) ?_
            rotate_left 1
            · (intro wS hSw; (try dsimp only at hSw); go_simp; try with_reducible rfl)
            try simp only [Act.put, List.setIfInBounds_toArray, List.set_cons_zero, List.set_cons_succ]
            refine wpAnyH_done (by kernel_rfl) ?_ _
            clear hHeld
            go_wp2_with fail
            go_ret
            exact ⟨w6.heap.size, ⟨gt, gq, gp, gv, gc, gl⟩, rfl, (by rw [HBB.out]; simp [Rr.all]; omega), NP.out, H.out, by rw [HBB.out]; exact BX.out⟩
          exact AllReadyH.nil
        exact AllReadyH.nil
      exact AllReadyH.nil
    exact AllReadyH.nil
  refine rg_step (i := 24) (l := #[true, true, true, true, true, true, true, true, false, true, true, true, true, true, true, true, true, true, true, true, true, true, true, true, true, true, true, true, true, false, true, true, true, true, false, true, true, true, true, false, true, true, true, true, false, true, true, true, true, false, false, false]) rfl (by kernel_rfl) (by kernel_rfl) ?_ ?_
  · intro K hK
    go_simp
    have b1 : Below w0.heap.size w0 (w0.alloc (.cells #[.int .u8 x.q.d, .bool x.q.due] 99)) := (Below.refl _ _).alloc (Nat.le_refl _) _
    have Nq : Hid (RQ (w0.alloc (.cells #[.int .u8 x.q.d, .bool x.q.due] 99)) w0.heap.size x.q) := Lib.hid ⟨Blk.new w0 _ _, H.out.q.2⟩
    have BW' := Lib.hid (BW.out.trans (b1.mono hz))
    replace H := Lib.hid (H.out.keep b1)
    have hz' : B ≤ (w0.alloc (.cells #[.int .u8 x.q.d, .bool x.q.due] 99)).heap.size := Nat.le_trans hz b1.size
    have zq : B ≤ w0.heap.size := hz
    clear BW hz
    have BW := BW'
    have hz := hz'
    clear BW' hz' b1
    obtain ⟨e0, e1, e2, e3, e4, e5, e6, e7⟩ := H.out.cells
    have eq0 : _ = some (Value.int .u8 x.q.d) := H.out.q.1.cell 0
    have eq1 : _ = some (Value.bool x.q.due) := H.out.q.1.cell 1
    first | (refine hK.out _ _ ?_ (fun hHeld => ?_)) | (go_wp2_with fail; refine hK.out _ _ ?_ (fun hHeld => ?_))
    · (try dsimp only); exact ⟨e0, e1, e2, e3, e4, e5, e6, e7, eq0, eq1⟩
    clear hK K
    try simp only [Act.put, List.setIfInBounds_toArray, List.set_cons_zero, List.set_cons_succ]
    generalize hgq : w0.heap.size = gq at *
    generalize World.alloc w0 _ = w1 at *
    clear e0 e1 e2 e3 e4 e5 e6 e7 eq0 eq1
    refine rg_next (i := 8) (l := #[true, true, true, true, true, true, true, true, true, true, true, true, true, true, true, true, true, true, true, true, true, true, true, true, true, true, true, true, true, false, true, true, true, true, false, true, true, true, true, false, true, true, true, true, false, true, true, true, true, false, false, false]) (fuel := 7) (by kernel_rfl) rfl (by kernel_rfl) (by kernel_rfl) (fun K hK => ?_)
    go_simp
    (go_at_call 43)
    refine (rtcopy_any H.out.tm).mono ?_
    rintro e w2 ⟨rfl, y1, b1⟩
    obtain ⟨gt, hg⟩ : ∃ g, w1.heap.size = g := ⟨_, rfl⟩
    have Nt : Hid (RTM w2 gt x.tm) := Lib.hid (hg ▸ y1)
    simp only [hg]
    have zt : B ≤ gt := by omega
    replace Nq := Lib.hid (And.intro (Nq.out.1.below b1 Nq.out.1.lt) Nq.out.2)
    have BW' := Lib.hid (BW.out.trans (b1.mono hz))
    replace H := Lib.hid (H.out.keep b1)
    have hz' : B ≤ w2.heap.size := Nat.le_trans hz b1.size
    clear BW hz
    have BW := BW'
    have hz := hz'
    clear BW' hz' y1 b1 hg
    obtain ⟨e0, e1, e2, e3, e4, e5, e6, e7⟩ := H.out.cells
    have eq0 : _ = some (Value.int .u8 x.q.d) := H.out.q.1.cell 0
    have eq1 : _ = some (Value.bool x.q.due) := H.out.q.1.cell 1
    first | (refine hK.out _ _ ?_ (fun hHeld => ?_)) | (go_wp2_with fail; refine hK.out _ _ ?_ (fun hHeld => ?_))
    · (try dsimp only); exact ⟨e0, e1, e2, e3, e4, e5, e6, e7, eq0, eq1⟩
    clear hK K
    try simp only [Act.put, List.setIfInBounds_toArray, List.set_cons_zero, List.set_cons_succ]
    clear e0 e1 e2 e3 e4 e5 e6 e7 eq0 eq1
    refine rg_next (i := 29) (l := #[true, true, true, true, true, true, true, true, true, true, true, true, true, true, true, true, true, true, true, true, true, true, true, true, true, true, true, true, true, true, true, true, true, true, false, true, true, true, true, false, true, true, true, true, false, true, true, true, true, false, false, false]) (fuel := 6) (by kernel_rfl) rfl (by kernel_rfl) (by kernel_rfl) (fun K hK => ?_)
    go_simp
    (go_at_call 44)
    refine (rpcopy_any H.out.pt).mono ?_
    rintro e w3 ⟨rfl, y1, b1⟩
    obtain ⟨gp, hg⟩ : ∃ g, w2.heap.size = g := ⟨_, rfl⟩
    have Np : Hid (RP w3 gp Z.A3 d.np Z.c3 x.tp x.pt) := Lib.hid (hg ▸ y1)
    simp only [hg]
    have zp : B ≤ gp := by omega
    replace Nq := Lib.hid (And.intro (Nq.out.1.below b1 Nq.out.1.lt) Nq.out.2)
    replace Nt := Lib.hid (And.intro (Nt.out.1.below b1 Nt.out.1.lt) Nt.out.2)
    have BW' := Lib.hid (BW.out.trans (b1.mono hz))
    replace H := Lib.hid (H.out.keep b1)
    have hz' : B ≤ w3.heap.size := Nat.le_trans hz b1.size
    clear BW hz
    have BW := BW'
    have hz := hz'
    clear BW' hz' y1 b1 hg
    obtain ⟨e0, e1, e2, e3, e4, e5, e6, e7⟩ := H.out.cells
    have eq0 : _ = some (Value.int .u8 x.q.d) := H.out.q.1.cell 0
    have eq1 : _ = some (Value.bool x.q.due) := H.out.q.1.cell 1
    first | (refine hK.out _ _ ?_ (fun hHeld => ?_)) | (go_wp2_with fail; refine hK.out _ _ ?_ (fun hHeld => ?_))
    · (try dsimp only); exact ⟨e0, e1, e2, e3, e4, e5, e6, e7, eq0, eq1⟩
    clear hK K
    try simp only [Act.put, List.setIfInBounds_toArray, List.set_cons_zero, List.set_cons_succ]
    clear e0 e1 e2 e3 e4 e5 e6 e7 eq0 eq1
    refine rg_next (i := 34) (l := #[true, true, true, true, true, true, true, true, true, true, true, true, true, true, true, true, true, true, true, true, true, true, true, true, true, true, true, true, true, true, true, true, true, true, true, true, true, true, true, false, true, true, true, true, false, true, true, true, true, false, false, false]) (fuel := 5) (by kernel_rfl) rfl (by kernel_rfl) (by kernel_rfl) (fun K hK => ?_)
    go_simp
    (go_at_call 45)
    refine (rfcopy_any H.out.v).mono ?_
    rintro e w4 ⟨rfl, y1, b1⟩
    obtain ⟨gv, hg⟩ : ∃ g, w3.heap.size = g := ⟨_, rfl⟩
    have Nv : Hid (Blk w4 gv 102 (rfC Z.A1 d.nv Z.c1 x.tv)) := Lib.hid (hg ▸ y1)
    simp only [hg]
    have zv : B ≤ gv := by omega
    replace Nq := Lib.hid (And.intro (Nq.out.1.below b1 Nq.out.1.lt) Nq.out.2)
    replace Nt := Lib.hid (And.intro (Nt.out.1.below b1 Nt.out.1.lt) Nt.out.2)
    replace Np := Lib.hid (And.intro (Np.out.1.below b1 Np.out.1.lt) Np.out.2)
    have BW' := Lib.hid (BW.out.trans (b1.mono hz))
    replace H := Lib.hid (H.out.keep b1)
    have hz' : B ≤ w4.heap.size := Nat.le_trans hz b1.size
    clear BW hz
    have BW := BW'
    have hz := hz'
    clear BW' hz' y1 b1 hg
    obtain ⟨e0, e1, e2, e3, e4, e5, e6, e7⟩ := H.out.cells
    have eq0 : _ = some (Value.int .u8 x.q.d) := H.out.q.1.cell 0
    have eq1 : _ = some (Value.bool x.q.due) := H.out.q.1.cell 1
    first | (refine hK.out _ _ ?_ (fun hHeld => ?_)) | (go_wp2_with fail; refine hK.out _ _ ?_ (fun hHeld => ?_))
    · (try dsimp only); exact ⟨e0, e1, e2, e3, e4, e5, e6, e7, eq0, eq1⟩
    clear hK K
    try simp only [Act.put, List.setIfInBounds_toArray, List.set_cons_zero, List.set_cons_succ]
    clear e0 e1 e2 e3 e4 e5 e6 e7 eq0 eq1
    refine rg_next (i := 39) (l := #[true, true, true, true, true, true, true, true, true, true, true, true, true, true, true, true, true, true, true, true, true, true, true, true, true, true, true, true, true, true, true, true, true, true, true, true, true, true, true, true, true, true, true, true, false, true, true, true, true, false, false, false]) (fuel := 4) (by kernel_rfl) rfl (by kernel_rfl) (by kernel_rfl) (fun K hK => ?_)
    go_simp
    (go_at_call 45)
    refine (rfcopy_any H.out.c).mono ?_
    rintro e w5 ⟨rfl, y1, b1⟩
    obtain ⟨gc, hg⟩ : ∃ g, w4.heap.size = g := ⟨_, rfl⟩
    have Nc : Hid (Blk w5 gc 102 (rfC Z.A2 d.nc Z.c2 x.tc)) := Lib.hid (hg ▸ y1)
    simp only [hg]
    have zc : B ≤ gc := by omega
    have hvc : gv ≠ gc := (by have := Nv.out.lt; omega)
    replace Nq := Lib.hid (And.intro (Nq.out.1.below b1 Nq.out.1.lt) Nq.out.2)
    replace Nt := Lib.hid (And.intro (Nt.out.1.below b1 Nt.out.1.lt) Nt.out.2)
    replace Np := Lib.hid (And.intro (Np.out.1.below b1 Np.out.1.lt) Np.out.2)
    replace Nv := Lib.hid (Nv.out.below b1 Nv.out.lt)
    have BW' := Lib.hid (BW.out.trans (b1.mono hz))
    replace H := Lib.hid (H.out.keep b1)
    have hz' : B ≤ w5.heap.size := Nat.le_trans hz b1.size
    clear BW hz
    have BW := BW'
    have hz := hz'
    clear BW' hz' y1 b1 hg
    obtain ⟨e0, e1, e2, e3, e4, e5, e6, e7⟩ := H.out.cells
    have eq0 : _ = some (Value.int .u8 x.q.d) := H.out.q.1.cell 0
    have eq1 : _ = some (Value.bool x.q.due) := H.out.q.1.cell 1
    first | (refine hK.out _ _ ?_ (fun hHeld => ?_)) | (go_wp2_with fail; refine hK.out _ _ ?_ (fun hHeld => ?_))
    · (try dsimp only); exact ⟨e0, e1, e2, e3, e4, e5, e6, e7, eq0, eq1⟩
    clear hK K
    try simp only [Act.put, List.setIfInBounds_toArray, List.set_cons_zero, List.set_cons_succ]
    clear e0 e1 e2 e3 e4 e5 e6 e7 eq0 eq1
    refine rg_next (i := 44) (l := #[true, true, true, true, true, true, true, true, true, true, true, true, true, true, true, true, true, true, true, true, true, true, true, true, true, true, true, true, true, true, true, true, true, true, true, true, true, true, true, true, true, true, true, true, true, true, true, true, true, false, false, false]) (fuel := 3) (by kernel_rfl) rfl (by kernel_rfl) (by kernel_rfl) (fun K hK => ?_)
    go_simp
    (go_at_call 46)
    refine (rlcopy_any H.out.l).mono ?_
    rintro e w6 ⟨rfl, y1, b1⟩
    obtain ⟨gl, hg⟩ : ∃ g, w5.heap.size = g := ⟨_, rfl⟩
    have Nl : Hid (Blk w6 gl 104 (rlC Z.A d.n Z.c x.s x.ro)) := Lib.hid (hg ▸ y1)
    simp only [hg]
    have zl : B ≤ gl := by omega
    replace Nq := Lib.hid (And.intro (Nq.out.1.below b1 Nq.out.1.lt) Nq.out.2)
    replace Nt := Lib.hid (And.intro (Nt.out.1.below b1 Nt.out.1.lt) Nt.out.2)
    replace Np := Lib.hid (And.intro (Np.out.1.below b1 Np.out.1.lt) Np.out.2)
    replace Nv := Lib.hid (Nv.out.below b1 Nv.out.lt)
    replace Nc := Lib.hid (Nc.out.below b1 Nc.out.lt)
    have BW' := Lib.hid (BW.out.trans (b1.mono hz))
    replace H := Lib.hid (H.out.keep b1)
    have hz' : B ≤ w6.heap.size := Nat.le_trans hz b1.size
    clear BW hz
    have BW := BW'
    have hz := hz'
    clear BW' hz' y1 b1 hg
    obtain ⟨e0, e1, e2, e3, e4, e5, e6, e7⟩ := H.out.cells
    have eq0 : _ = some (Value.int .u8 x.q.d) := H.out.q.1.cell 0
    have eq1 : _ = some (Value.bool x.q.due) := H.out.q.1.cell 1
    first | (refine hK.out _ _ ?_ (fun hHeld => ?_)) | (go_wp2_with fail; refine hK.out _ _ ?_ (fun hHeld => ?_))
    · (try dsimp only); exact ⟨e0, e1, e2, e3, e4, e5, e6, e7, eq0, eq1⟩
    clear hK K
    try simp only [Act.put, List.setIfInBounds_toArray, List.set_cons_zero, List.set_cons_succ]
    refine rg_take (i := 49) (d := some 52) (l := #[true, true, true, true, true, true, true, true, true, true, true, true, true, true, true, true, true, true, true, true, true, true, true, true, true, true, true, true, true, true, true, true, true, true, true, true, true, true, true, true, true, true, true, true, true, true, true, true, true, true, false, false]) (fuel := 2) (v := ?_) rfl (by kernel_rfl) (by kernel_rfl) (by kernel_rfl) (by kernel_rfl) (by kernel_rfl) (fun _ _ _ h => h) (by kernel_rfl) ?_ (by assumption) ?_
    rotate_left 1
    · (intro wS hSw; (try dsimp only at hSw); go_simp; try with_reducible rfl)
    try simp only [Act.put, List.setIfInBounds_toArray, List.set_cons_zero, List.set_cons_succ]
    refine rg_next (i := 50) (l := #[true, true, true, true, true, true, true, true, true, true, true, true, true, true, true, true, true, true, true, true, true, true, true, true, true, true, true, true, true, true, true, true, true, true, true, true, true, true, true, true, true, true, true, true, true, true, true, true, true, true, true, false]) (fuel := 1) (by kernel_rfl) rfl (by kernel_rfl) (by kernel_rfl) (fun K hK => ?_)
    go_simp
    have b1 : Below w6.heap.size w6 (w6.alloc (.cells #[.int .u8 x.buf, .pointer (some ⟨gt, 0, none⟩), .pointer (some ⟨gq, 0, none⟩), .pointer (some ⟨gp, 0, none⟩), .pointer (some ⟨gv, 0, none⟩), .pointer (some ⟨gc, 0, none⟩), .pointer (some ⟨gl, 0, none⟩), .int .i64 x.now] 51)) := (Below.refl _ _).alloc (Nat.le_refl _) _
    have NP : Hid (RHp (w6.alloc (.cells #[.int .u8 x.buf, .pointer (some ⟨gt, 0, none⟩), .pointer (some ⟨gq, 0, none⟩), .pointer (some ⟨gp, 0, none⟩), .pointer (some ⟨gv, 0, none⟩), .pointer (some ⟨gc, 0, none⟩), .pointer (some ⟨gl, 0, none⟩), .int .i64 x.now] 51)) w6.heap.size d ⟨gt, gq, gp, gv, gc, gl⟩ Z x) := Lib.hid ⟨Blk.new w6 _ _, And.intro (Nt.out.1.below b1 Nt.out.1.lt) Nt.out.2, And.intro (Nq.out.1.below b1 Nq.out.1.lt) Nq.out.2, And.intro (Np.out.1.below b1 Np.out.1.lt) Np.out.2, Nv.out.below b1 Nv.out.lt, Nc.out.below b1 Nc.out.lt, Nl.out.below b1 Nl.out.lt, hvc⟩
    have BX := Lib.hid (BW.out.trans (b1.mono hz))
    replace H := Lib.hid (H.out.keep b1)
    obtain ⟨e0, e1, e2, e3, e4, e5, e6, e7⟩ := H.out.cells
    have eq0 : _ = some (Value.int .u8 x.q.d) := H.out.q.1.cell 0
    have eq1 : _ = some (Value.bool x.q.due) := H.out.q.1.cell 1
    first | (refine hK.out _ _ ?_ (fun hHeld => ?_)) | (go_wp2_with fail; refine hK.out _ _ ?_ (fun hHeld => ?_))
    · (try dsimp only); exact ⟨e0, e1, e2, e3, e4, e5, e6, e7, eq0, eq1⟩
    clear hK K
    try simp only [Act.put, List.setIfInBounds_toArray, List.set_cons_zero, List.set_cons_succ]
    refine rg_take (i := 51) (d := some 2) (l := #[true, true, true, true, true, true, true, true, true, true, true, true, true, true, true, true, true, true, true, true, true, true, true, true, true, true, true, true, true, true, true, true, true, true, true, true, true, true, true, true, true, true, true, true, true, true, true, true, true, true, true, true]) (fuel := 0) (v := ?_) rfl (by kernel_rfl) (by kernel_rfl) (by kernel_rfl) (by kernel_rfl) (by kernel_rfl) (fun _ _ _ h => h) (by kernel_rfl) ?_ (by assumption) ?_
    rotate_left 1
    · (intro wS hSw; (try dsimp only at hSw); go_simp; try with_reducible rfl)
    try simp only [Act.put, List.setIfInBounds_toArray, List.set_cons_zero, List.set_cons_succ]
    refine wpAnyH_done (by kernel_rfl) ?_ _
    clear hHeld
    go_wp2_with fail
    go_ret
    exact ⟨w6.heap.size, ⟨gt, gq, gp, gv, gc, gl⟩, rfl, (by rw [HBB.out]; simp [Rr.all]; omega), NP.out, H.out, by rw [HBB.out]; exact BX.out⟩
  exact AllReadyH.nil
end
end Go.Proofs.YtcnjekballnncaaGreat
