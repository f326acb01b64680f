/-
  Texts of these proofs, one behind the other: Hard7, Hard6.
-/
import Derived.Test.YtcnjekballnncaaGreatKH29
import Derived.Test.YtcnjekballnncaaGreatKH13
namespace Go.Proofs.YtcnjekballnncaaGreat
open Go.RowKit
set_option linter.unusedVariables false
set_option linter.unusedSimpArgs false
set_option maxRecDepth 100000
def HCloneR (g : Nat) (d : Hd) (b : Hb) (x : Hp) (w : World) (e : Ending) (w' : World) : Prop :=
  ∃ g2 b2, e = .returned (.pointer (some ⟨g2, 0, none⟩)) ∧ (w.heap.size ≤ g2 ∧ w.heap.size ≤ b2.v ∧ w.heap.size ≤ b2.c ∧ w.heap.size ≤ b2.p) ∧ HP w' g2 d b2 x ∧ HP w' g d b x ∧ Kp [b.v, b.c, b.p] w w'
section
variable {w : World} {g : Nat} {d : Hd} {b : Hb} {x : Hp}
theorem Blk.kpn {w w' : World} {k : Nat} {t : TypeId} {cs : Array Value} {L : List Nat} (h : Blk w k t cs) (kp : Kp L w w') {B : Nat} (hB : B ≤ k) (hL : ∀ y ∈ L, y < B) : Blk w' k t cs := h.kp kp (fun e => by have := hL _ e; omega)
theorem Box.kpn {w w' : World} {cb n : Nat} {z : Nat → Int} {L : List Nat} (h : Box w cb n z) (kp : Kp L w w') (hT : ∀ x ∈ L, ∃ t cs, Blk w x t cs ∧ 5 ≠ t) {B : Nat} (hB : B ≤ cb) (hL : ∀ y ∈ L, y < B) : Box w' cb n z := h.kp kp hT (fun e => by have := hL _ e; omega)
theorem HP.boxOff (h : HP w g d b x) : (∃ t cs, Blk w b.v t cs ∧ 5 ≠ t ∧ 129 ≠ t) ∧ (∃ t cs, Blk w b.c t cs ∧ 5 ≠ t ∧ 129 ≠ t) ∧ (∃ t cs, Blk w b.p t cs ∧ 5 ≠ t ∧ 129 ≠ t) := by
  obtain ⟨A, c, hb, ho⟩ := h
  obtain ⟨v1, h1, _⟩ := ho.v
  obtain ⟨v2, h2, _⟩ := ho.c
  obtain ⟨v3, h3, _⟩ := ho.p
  exact ⟨⟨_, _, h1, by decide, by decide⟩, ⟨_, _, h2, by decide, by decide⟩, ⟨_, _, h3, by decide, by decide⟩⟩
set_option maxHeartbeats 16000000 in
theorem hclone_page (h : HP w g d b x) (hd : d.np ≤ 140737488355328 ∧ d.nv ≤ 140737488355328 ∧ d.nc ≤ 140737488355328) :
    Calls Tryz.prog 11 #[.pointer (some ⟨g, 0, none⟩)] w (HCloneR g d b x w) := by
  obtain ⟨B, hB⟩ : ∃ B, w.heap.size = B := ⟨_, rfl⟩
  have H := Lib.hid (h.kp0 (Kp.refl _ _).drew)
  have c0 := h.nw.1
  have KK : Hid (Kp [b.v, b.c, b.p] w w.drew) := Lib.hid (Kp.refl _ _).drew
  have hz : B ≤ w.drew.heap.size := by rw [← hB]; exact Nat.le_refl _
  have hl := h.lt
  rw [hB] at hl
  obtain ⟨hlg, hlv, hlc, hlp⟩ := hl
  have HBB := Lib.hid hB
  clear h hB
  go_enter Tryz.func11, Tryz.ntmps11
  go_wp2_with fail
  refine rg_begin (S := fun w' => w'.cell? ⟨g, 22, none⟩ = some (.int .i64 x.now)) 50 #[false, false, false, false, false, false, false, false, false, false, false, false, false, false, false, false, false, false, false, false, false, false, false, false, false, false, false, false, false, false, false, false, false, false, false, false, false, false, false, false, false, false, false, false, false, false, false, false, false, false] (by kernel_rfl) (by kernel_rfl) (by kernel_rfl) ?_ (fun hHeld => ?_)
  · exact c0
  clear c0
  generalize w.drew = w0 at *
  refine rg_take (i := 0) (d := some 5) (l := #[true, false, false, false, false, false, false, false, false, false, false, false, false, false, false, false, false, false, false, false, false, false, false, false, false, false, false, false, false, false, false, false, false, false, false, false, false, false, false, false, false, false, false, false, false, false, false, false, false, false]) (fuel := 49) (v := ?_) rfl (by kernel_rfl) (by kernel_rfl) (by kernel_rfl) (by kernel_rfl) (by kernel_rfl) (fun _ _ _ h => h) (by kernel_rfl) ?_ (by assumption) ?_
  rotate_left 1
  · (intro wS hSw; (try dsimp only at hSw); go_simp; try with_reducible rfl)
  try simp only [Act.put, List.setIfInBounds_toArray, List.set_cons_zero, List.set_cons_succ]
  refine rg_take (i := 1) (d := some 6) (l := #[true, true, false, false, false, false, false, false, false, false, false, false, false, false, false, false, false, false, false, false, false, false, false, false, false, false, false, false, false, false, false, false, false, false, false, false, false, false, false, false, false, false, false, false, false, false, false, false, false, false]) (fuel := 48) (v := ?_) rfl (by kernel_rfl) (by kernel_rfl) (by kernel_rfl) (by kernel_rfl) (by kernel_rfl) (fun _ _ _ h => h) (by kernel_rfl) ?_ (by assumption) ?_
  rotate_left 1
  · (intro wS hSw; (try dsimp only at hSw); go_simp; try with_reducible rfl)
  try simp only [Act.put, List.setIfInBounds_toArray, List.set_cons_zero, List.set_cons_succ]
  refine rg_take (i := 2) (d := some 7) (l := #[true, true, true, false, false, false, false, false, false, false, false, false, false, false, false, false, false, false, false, false, false, false, false, false, false, false, false, false, false, false, false, false, false, false, false, false, false, false, false, false, false, false, false, false, false, false, false, false, false, false]) (fuel := 47) (v := ?_) rfl (by kernel_rfl) (by kernel_rfl) (by kernel_rfl) (by kernel_rfl) (by kernel_rfl) (fun _ _ _ h => h) (by kernel_rfl) ?_ (by assumption) ?_
  rotate_left 1
  · (intro wS hSw; (try dsimp only at hSw); go_simp; try with_reducible rfl)
  try simp only [Act.put, List.setIfInBounds_toArray, List.set_cons_zero, List.set_cons_succ]
  refine rg_take (i := 6) (d := some 11) (l := #[true, true, true, false, false, false, true, false, false, false, false, false, false, false, false, false, false, false, false, false, false, false, false, false, false, false, false, false, false, false, false, false, false, false, false, false, false, false, false, false, false, false, false, false, false, false, false, false, false, false]) (fuel := 46) (v := ?_) rfl (by kernel_rfl) (by kernel_rfl) (by kernel_rfl) (by kernel_rfl) (by kernel_rfl) (fun _ _ _ h => h) (by kernel_rfl) ?_ (by assumption) ?_
  rotate_left 1
  · (intro wS hSw; (try dsimp only at hSw); go_simp; try with_reducible rfl)
  try simp only [Act.put, List.setIfInBounds_toArray, List.set_cons_zero, List.set_cons_succ]
  refine rg_take (i := 7) (d := some 12) (l := #[true, true, true, false, false, false, true, true, false, false, false, false, false, false, false, false, false, false, false, false, false, false, false, false, false, false, false, false, false, false, false, false, false, false, false, false, false, false, false, false, false, false, false, false, false, false, false, false, false, false]) (fuel := 45) (v := ?_) rfl (by kernel_rfl) (by kernel_rfl) (by kernel_rfl) (by kernel_rfl) (by kernel_rfl) (fun _ _ _ h => h) (by kernel_rfl) ?_ (by assumption) ?_
  rotate_left 1
  · (intro wS hSw; (try dsimp only at hSw); go_simp; try with_reducible rfl)
  try simp only [Act.put, List.setIfInBounds_toArray, List.set_cons_zero, List.set_cons_succ]
  refine rg_take (i := 8) (d := some 13) (l := #[true, true, true, false, false, false, true, true, true, false, false, false, false, false, false, false, false, false, false, false, false, false, false, false, false, false, false, false, false, false, false, false, false, false, false, false, false, false, false, false, false, false, false, false, false, false, false, false, false, false]) (fuel := 44) (v := ?_) rfl (by kernel_rfl) (by kernel_rfl) (by kernel_rfl) (by kernel_rfl) (by kernel_rfl) (fun _ _ _ h => h) (by kernel_rfl) ?_ (by assumption) ?_
  rotate_left 1
  · (intro wS hSw; (try dsimp only at hSw); go_simp; try with_reducible rfl)
  try simp only [Act.put, List.setIfInBounds_toArray, List.set_cons_zero, List.set_cons_succ]
  refine rg_take (i := 12) (d := some 17) (l := #[true, true, true, false, false, false, true, true, true, false, false, false, true, false, false, false, false, false, false, false, false, false, false, false, false, false, false, false, false, false, false, false, false, false, false, false, false, false, false, false, false, false, false, false, false, false, false, false, false, false]) (fuel := 43) (v := ?_) rfl (by kernel_rfl) (by kernel_rfl) (by kernel_rfl) (by kernel_rfl) (by kernel_rfl) (fun _ _ _ h => h) (by kernel_rfl) ?_ (by assumption) ?_
  rotate_left 1
  · (intro wS hSw; (try dsimp only at hSw); go_simp; try with_reducible rfl)
  try simp only [Act.put, List.setIfInBounds_toArray, List.set_cons_zero, List.set_cons_succ]
  refine rg_take (i := 13) (d := some 18) (l := #[true, true, true, false, false, false, true, true, true, false, false, false, true, true, false, false, false, false, false, false, false, false, false, false, false, false, false, false, false, false, false, false, false, false, false, false, false, false, false, false, false, false, false, false, false, false, false, false, false, false]) (fuel := 42) (v := ?_) rfl (by kernel_rfl) (by kernel_rfl) (by kernel_rfl) (by kernel_rfl) (by kernel_rfl) (fun _ _ _ h => h) (by kernel_rfl) ?_ (by assumption) ?_
  rotate_left 1
  · (intro wS hSw; (try dsimp only at hSw); go_simp; try with_reducible rfl)
  try simp only [Act.put, List.setIfInBounds_toArray, List.set_cons_zero, List.set_cons_succ]
  refine rg_take (i := 14) (d := some 19) (l := #[true, true, true, false, false, false, true, true, true, false, false, false, true, true, true, false, false, false, false, false, false, false, false, false, false, false, false, false, false, false, false, false, false, false, false, false, false, false, false, false, false, false, false, false, false, false, false, false, false, false]) (fuel := 41) (v := ?_) rfl (by kernel_rfl) (by kernel_rfl) (by kernel_rfl) (by kernel_rfl) (by kernel_rfl) (fun _ _ _ h => h) (by kernel_rfl) ?_ (by assumption) ?_
  rotate_left 1
  · (intro wS hSw; (try dsimp only at hSw); go_simp; try with_reducible rfl)
  try simp only [Act.put, List.setIfInBounds_toArray, List.set_cons_zero, List.set_cons_succ]
  refine rg_take (i := 19) (d := some 24) (l := #[true, true, true, false, false, false, true, true, true, false, false, false, true, true, true, false, false, false, false, true, false, false, false, false, false, false, false, false, false, false, false, false, false, false, false, false, false, false, false, false, false, false, false, false, false, false, false, false, false, false]) (fuel := 40) (v := ?_) rfl (by kernel_rfl) (by kernel_rfl) (by kernel_rfl) (by kernel_rfl) (by kernel_rfl) (fun _ _ _ h => h) (by kernel_rfl) ?_ (by assumption) ?_
  rotate_left 1
  · (intro wS hSw; (try dsimp only at hSw); go_simp; try with_reducible rfl)
  try simp only [Act.put, List.setIfInBounds_toArray, List.set_cons_zero, List.set_cons_succ]
  refine rg_take (i := 20) (d := some 25) (l := #[true, true, true, false, false, false, true, true, true, false, false, false, true, true, true, false, false, false, false, true, true, false, false, false, false, false, false, false, false, false, false, false, false, false, false, false, false, false, false, false, false, false, false, false, false, false, false, false, false, false]) (fuel := 39) (v := ?_) rfl (by kernel_rfl) (by kernel_rfl) (by kernel_rfl) (by kernel_rfl) (by kernel_rfl) (fun _ _ _ h => h) (by kernel_rfl) ?_ (by assumption) ?_
  rotate_left 1
  · (intro wS hSw; (try dsimp only at hSw); go_simp; try with_reducible rfl)
  try simp only [Act.put, List.setIfInBounds_toArray, List.set_cons_zero, List.set_cons_succ]
  refine rg_take (i := 21) (d := some 26) (l := #[true, true, true, false, false, false, true, true, true, false, false, false, true, true, true, false, false, false, false, true, true, true, false, false, false, false, false, false, false, false, false, false, false, false, false, false, false, false, false, false, false, false, false, false, false, false, false, false, false, false]) (fuel := 38) (v := ?_) rfl (by kernel_rfl) (by kernel_rfl) (by kernel_rfl) (by kernel_rfl) (by kernel_rfl) (fun _ _ _ h => h) (by kernel_rfl) ?_ (by assumption) ?_
  rotate_left 1
  · (intro wS hSw; (try dsimp only at hSw); go_simp; try with_reducible rfl)
  try simp only [Act.put, List.setIfInBounds_toArray, List.set_cons_zero, List.set_cons_succ]
  refine rg_take (i := 25) (d := some 30) (l := #[true, true, true, false, false, false, true, true, true, false, false, false, true, true, true, false, false, false, false, true, true, true, false, false, false, true, false, false, false, false, false, false, false, false, false, false, false, false, false, false, false, false, false, false, false, false, false, false, false, false]) (fuel := 37) (v := ?_) rfl (by kernel_rfl) (by kernel_rfl) (by kernel_rfl) (by kernel_rfl) (by kernel_rfl) (fun _ _ _ h => h) (by kernel_rfl) ?_ (by assumption) ?_
  rotate_left 1
  · (intro wS hSw; (try dsimp only at hSw); go_simp; try with_reducible rfl)
  try simp only [Act.put, List.setIfInBounds_toArray, List.set_cons_zero, List.set_cons_succ]
  refine rg_take (i := 26) (d := some 31) (l := #[true, true, true, false, false, false, true, true, true, false, false, false, true, true, true, false, false, false, false, true, true, true, false, false, false, true, true, false, false, false, false, false, false, false, false, false, false, false, false, false, false, false, false, false, false, false, false, false, false, false]) (fuel := 36) (v := ?_) rfl (by kernel_rfl) (by kernel_rfl) (by kernel_rfl) (by kernel_rfl) (by kernel_rfl) (fun _ _ _ h => h) (by kernel_rfl) ?_ (by assumption) ?_
  rotate_left 1
  · (intro wS hSw; (try dsimp only at hSw); go_simp; try with_reducible rfl)
  try simp only [Act.put, List.setIfInBounds_toArray, List.set_cons_zero, List.set_cons_succ]
  refine rg_take (i := 27) (d := some 32) (l := #[true, true, true, false, false, false, true, true, true, false, false, false, true, true, true, false, false, false, false, true, true, true, false, false, false, true, true, true, false, false, false, false, false, false, false, false, false, false, false, false, false, false, false, false, false, false, false, false, false, false]) (fuel := 35) (v := ?_) rfl (by kernel_rfl) (by kernel_rfl) (by kernel_rfl) (by kernel_rfl) (by kernel_rfl) (fun _ _ _ h => h) (by kernel_rfl) ?_ (by assumption) ?_
  rotate_left 1
  · (intro wS hSw; (try dsimp only at hSw); go_simp; try with_reducible rfl)
  try simp only [Act.put, List.setIfInBounds_toArray, List.set_cons_zero, List.set_cons_succ]
  refine rg_take (i := 31) (d := some 36) (l := #[true, true, true, false, false, false, true, true, true, false, false, false, true, true, true, false, false, false, false, true, true, true, false, false, false, true, true, true, false, false, false, true, false, false, false, false, false, false, false, false, false, false, false, false, false, false, false, false, false, false]) (fuel := 34) (v := ?_) rfl (by kernel_rfl) (by kernel_rfl) (by kernel_rfl) (by kernel_rfl) (by kernel_rfl) (fun _ _ _ h => h) (by kernel_rfl) ?_ (by assumption) ?_
  rotate_left 1
  · (intro wS hSw; (try dsimp only at hSw); go_simp; try with_reducible rfl)
  try simp only [Act.put, List.setIfInBounds_toArray, List.set_cons_zero, List.set_cons_succ]
  refine rg_take (i := 32) (d := some 37) (l := #[true, true, true, false, false, false, true, true, true, false, false, false, true, true, true, false, false, false, false, true, true, true, false, false, false, true, true, true, false, false, false, true, true, false, false, false, false, false, false, false, false, false, false, false, false, false, false, false, false, false]) (fuel := 33) (v := ?_) rfl (by kernel_rfl) (by kernel_rfl) (by kernel_rfl) (by kernel_rfl) (by kernel_rfl) (fun _ _ _ h => h) (by kernel_rfl) ?_ (by assumption) ?_
  rotate_left 1
  · (intro wS hSw; (try dsimp only at hSw); go_simp; try with_reducible rfl)
  try simp only [Act.put, List.setIfInBounds_toArray, List.set_cons_zero, List.set_cons_succ]
  refine rg_take (i := 33) (d := some 38) (l := #[true, true, true, false, false, false, true, true, true, false, false, false, true, true, true, false, false, false, false, true, true, true, false, false, false, true, true, true, false, false, false, true, true, true, false, false, false, false, false, false, false, false, false, false, false, false, false, false, false, false]) (fuel := 32) (v := ?_) rfl (by kernel_rfl) (by kernel_rfl) (by kernel_rfl) (by kernel_rfl) (by kernel_rfl) (fun _ _ _ h => h) (by kernel_rfl) ?_ (by assumption) ?_
  rotate_left 1
  · (intro wS hSw; (try dsimp only at hSw); go_simp; try with_reducible rfl)
  try simp only [Act.put, List.setIfInBounds_toArray, List.set_cons_zero, List.set_cons_succ]
  refine rg_take (i := 37) (d := some 42) (l := #[true, true, true, false, false, false, true, true, true, false, false, false, true, true, true, false, false, false, false, true, true, true, false, false, false, true, true, true, false, false, false, true, true, true, false, false, false, true, false, false, false, false, false, false, false, false, false, false, false, false]) (fuel := 31) (v := ?_) rfl (by kernel_rfl) (by kernel_rfl) (by kernel_rfl) (by kernel_rfl) (by kernel_rfl) (fun _ _ _ h => h) (by kernel_rfl) ?_ (by assumption) ?_
  rotate_left 1
  · (intro wS hSw; (try dsimp only at hSw); go_simp; try with_reducible rfl)
  try simp only [Act.put, List.setIfInBounds_toArray, List.set_cons_zero, List.set_cons_succ]
  refine rg_take (i := 38) (d := some 43) (l := #[true, true, true, false, false, false, true, true, true, false, false, false, true, true, true, false, false, false, false, true, true, true, false, false, false, true, true, true, false, false, false, true, true, true, false, false, false, true, true, false, false, false, false, false, false, false, false, false, false, false]) (fuel := 30) (v := ?_) rfl (by kernel_rfl) (by kernel_rfl) (by kernel_rfl) (by kernel_rfl) (by kernel_rfl) (fun _ _ _ h => h) (by kernel_rfl) ?_ (by assumption) ?_
  rotate_left 1
  · (intro wS hSw; (try dsimp only at hSw); go_simp; try with_reducible rfl)
  try simp only [Act.put, List.setIfInBounds_toArray, List.set_cons_zero, List.set_cons_succ]
  refine rg_take (i := 39) (d := some 44) (l := #[true, true, true, false, false, false, true, true, true, false, false, false, true, true, true, false, false, false, false, true, true, true, false, false, false, true, true, true, false, false, false, true, true, true, false, false, false, true, true, true, false, false, false, false, false, false, false, false, false, false]) (fuel := 29) (v := ?_) rfl (by kernel_rfl) (by kernel_rfl) (by kernel_rfl) (by kernel_rfl) (by kernel_rfl) (fun _ _ _ h => h) (by kernel_rfl) ?_ (by assumption) ?_
  rotate_left 1
  · (intro wS hSw; (try dsimp only at hSw); go_simp; try with_reducible rfl)
  try simp only [Act.put, List.setIfInBounds_toArray, List.set_cons_zero, List.set_cons_succ]
  refine rg_take (i := 43) (d := some 48) (l := #[true, true, true, false, false, false, true, true, true, false, false, false, true, true, true, false, false, false, false, true, true, true, false, false, false, true, true, true, false, false, false, true, true, true, false, false, false, true, true, true, false, false, false, true, false, false, false, false, false, false]) (fuel := 28) (v := ?_) rfl (by kernel_rfl) (by kernel_rfl) (by kernel_rfl) (by kernel_rfl) (by kernel_rfl) (fun _ _ _ h => h) (by kernel_rfl) ?_ (by assumption) ?_
  rotate_left 1
  · (intro wS hSw; (try dsimp only at hSw); go_simp; try with_reducible rfl)
  try simp only [Act.put, List.setIfInBounds_toArray, List.set_cons_zero, List.set_cons_succ]
  refine rg_take (i := 44) (d := some 49) (l := #[true, true, true, false, false, false, true, true, true, false, false, false, true, true, true, false, false, false, false, true, true, true, false, false, false, true, true, true, false, false, false, true, true, true, false, false, false, true, true, true, false, false, false, true, true, false, false, false, false, false]) (fuel := 27) (v := ?_) rfl (by kernel_rfl) (by kernel_rfl) (by kernel_rfl) (by kernel_rfl) (by kernel_rfl) (fun _ _ _ h => h) (by kernel_rfl) ?_ (by assumption) ?_
  rotate_left 1
  · (intro wS hSw; (try dsimp only at hSw); go_simp; try with_reducible rfl)
  try simp only [Act.put, List.setIfInBounds_toArray, List.set_cons_zero, List.set_cons_succ]
  refine rg_take (i := 45) (d := some 50) (l := #[true, true, true, false, false, false, true, true, true, false, false, false, true, true, true, false, false, false, false, true, true, true, false, false, false, true, true, true, false, false, false, true, true, true, false, false, false, true, true, true, false, false, false, true, true, true, false, false, false, false]) (fuel := 26) (v := ?_) rfl (by kernel_rfl) (by kernel_rfl) (by kernel_rfl) (by kernel_rfl) (by kernel_rfl) (fun _ _ _ h => h) (by kernel_rfl) ?_ (by assumption) ?_
  rotate_left 1
  · (intro wS hSw; (try dsimp only at hSw); go_simp; try with_reducible rfl)
  try simp only [Act.put, List.setIfInBounds_toArray, List.set_cons_zero, List.set_cons_succ]
  refine rg_take (i := 46) (d := some 51) (l := #[true, true, true, false, false, false, true, true, true, false, false, false, true, true, true, false, false, false, false, true, true, true, false, false, false, true, true, true, false, false, false, true, true, true, false, false, false, true, true, true, false, false, false, true, true, true, true, false, false, false]) (fuel := 25) (v := ?_) rfl (by kernel_rfl) (by kernel_rfl) (by kernel_rfl) (by kernel_rfl) (by kernel_rfl) (fun _ _ _ h => h) (by kernel_rfl) ?_ (by assumption) ?_
  rotate_left 1
  · (intro wS hSw; (try dsimp only at hSw); go_simp; try with_reducible rfl)
  try simp only [Act.put, List.setIfInBounds_toArray, List.set_cons_zero, List.set_cons_succ]
  refine rg_next (i := 3) (l := #[true, true, true, true, false, false, true, true, true, false, false, false, true, true, true, false, false, false, false, true, true, true, false, false, false, true, true, true, false, false, false, true, true, true, false, false, false, true, true, true, false, false, false, true, true, true, true, false, false, false]) (fuel := 24) (by kernel_rfl) rfl (by kernel_rfl) (by kernel_rfl) (fun K hK => ?_)
  go_simp
  (go_at_call 37)
  obtain ⟨cs, q1, q2⟩ := H.out.tmr
  refine (tclone_any q1).mono ?_
  rintro e w1 ⟨rfl, y1, b1⟩
  obtain ⟨gt, hgt⟩ : ∃ gt, w0.heap.size = gt := ⟨_, rfl⟩
  have N1 : Hid (Blk w1 gt 71 #[.int .i64 x.tm.gone, .int .u8 x.tm.c, .int .u8 x.tm.r, .bool x.tm.on]) := Lib.hid (hgt ▸ y1.1)
  simp only [hgt]
  have z1 : B ≤ gt := by omega
  have hz1 : gt < w1.heap.size := N1.out.lt
  replace KK := Lib.hid (KK.out.trans (Kp.of_below (L := []) b1) (by simp))
  replace H := Lib.hid (H.out.keep b1)
  clear q1 q2 cs y1 b1 hgt hz
  first | (refine hK.out _ _ ?_ (fun hHeld => ?_)) | (go_wp2_with fail; refine hK.out _ _ ?_ (fun hHeld => ?_))
  · (try dsimp only); exact H.out.nw.1
  clear hK K
  try simp only [Act.put, List.setIfInBounds_toArray, List.set_cons_zero, List.set_cons_succ]
  refine rg_take (i := 4) (d := some 9) (l := #[true, true, true, true, true, false, true, true, true, false, false, false, true, true, true, false, false, false, false, true, true, true, false, false, false, true, true, true, false, false, false, true, true, true, false, false, false, true, true, true, false, false, false, true, true, true, true, false, false, false]) (fuel := 23) (v := ?_) rfl (by kernel_rfl) (by kernel_rfl) (by kernel_rfl) (by kernel_rfl) (by kernel_rfl) (fun _ _ _ h => h) (by kernel_rfl) ?_ (by assumption) ?_
  rotate_left 1
  · (intro wS hSw; (try dsimp only at hSw); go_simp; try with_reducible rfl)
  try simp only [Act.put, List.setIfInBounds_toArray, List.set_cons_zero, List.set_cons_succ]
  refine rg_more (S' := fun w' => Blk w' gt 71 #[.int .i64 x.tm.gone, .int .u8 x.tm.c, .int .u8 x.tm.r, .bool x.tm.on] ∧ w'.cell? ⟨g, 22, none⟩ = some (.int .i64 x.now)) (fun w h => h.2) _ _ _ _ ?_
  clear hHeld
  have hHeld : (fun w' : World => Blk w' gt 71 #[.int .i64 x.tm.gone, .int .u8 x.tm.c, .int .u8 x.tm.r, .bool x.tm.on] ∧ w'.cell? ⟨g, 22, none⟩ = some (.int .i64 x.now)) _ := ⟨N1.out, H.out.nw.1⟩
  refine rg_take (i := 5) (d := some 10) (l := #[true, true, true, true, true, true, true, true, true, false, false, false, true, true, true, false, false, false, false, true, true, true, false, false, false, true, true, true, false, false, false, true, true, true, false, false, false, true, true, true, false, false, false, true, true, true, true, false, false, false]) (fuel := 22) (v := .agg #[.int .i64 x.tm.gone, .int .u8 x.tm.c, .int .u8 x.tm.r, .bool x.tm.on]) rfl (by kernel_rfl) (by kernel_rfl) (by kernel_rfl) (by kernel_rfl) (by kernel_rfl) (fun _ _ _ h => h) (by kernel_rfl) ?_ (by assumption) ?_
  · (intro wS hSw; (try dsimp only at hSw); exact exec_load_row 71 (.tmp 9) rfl gt rfl 71 #[.int .i64 x.tm.gone, .int .u8 x.tm.c, .int .u8 x.tm.r, .bool x.tm.on] (0, 0) _ hSw.1 Tryz.underlying71 rfl (by kernel_rfl))
  try simp only [Act.put, List.setIfInBounds_toArray, List.set_cons_zero, List.set_cons_succ]
  refine rg_next (i := 9) (l := #[true, true, true, true, true, true, true, true, true, true, false, false, true, true, true, false, false, false, false, true, true, true, false, false, false, true, true, true, false, false, false, true, true, true, false, false, false, true, true, true, false, false, false, true, true, true, true, false, false, false]) (fuel := 21) (by kernel_rfl) rfl (by kernel_rfl) (by kernel_rfl) (fun K hK => ?_)
  go_simp
  (go_at_call 38)
  refine (hclone_any H.out.lns.1).mono ?_
  rintro e w2 ⟨rfl, ⟨_, A, c, y1, y2⟩, b2⟩
  obtain ⟨gl, hgl⟩ : ∃ gl, w1.heap.size = gl := ⟨_, rfl⟩
  have N2 : Hid (Blk w2 gl 76 #[.slice A d.n c, .int .i64 x.s, .bool (upTo d.es x.s (0 : Nat)), .bool (upTo d.es x.s (1 : Nat)), .bool (upTo d.es x.s (2 : Nat)), .bool (upTo d.es x.s (3 : Nat)), .bool x.ro]) := Lib.hid (hgl ▸ y1)
  have E2 := Lib.hid y2
  simp only [hgl]
  have z2 : B ≤ gl := by omega
  have hz2 : gl < w2.heap.size := N2.out.lt
  replace N1 := Lib.hid (N1.out.kpn (Kp.of_below (L := []) b2) (B := B) (by omega) (by simp))
  replace KK := Lib.hid (KK.out.trans (Kp.of_below (L := []) b2) (by simp))
  replace H := Lib.hid (H.out.keep b2)
  clear y1 y2 b2 hgl hz1
  first | (refine hK.out _ _ ?_ (fun hHeld => ?_)) | (go_wp2_with fail; refine hK.out _ _ ?_ (fun hHeld => ?_))
  · (try dsimp only); exact ⟨N1.out, H.out.nw.1⟩
  clear hK K
  try simp only [Act.put, List.setIfInBounds_toArray, List.set_cons_zero, List.set_cons_succ]
  refine rg_take (i := 10) (d := some 15) (l := #[true, true, true, true, true, true, true, true, true, true, true, false, true, true, true, false, false, false, false, true, true, true, false, false, false, true, true, true, false, false, false, true, true, true, false, false, false, true, true, true, false, false, false, true, true, true, true, false, false, false]) (fuel := 20) (v := ?_) rfl (by kernel_rfl) (by kernel_rfl) (by kernel_rfl) (by kernel_rfl) (by kernel_rfl) (fun _ _ _ h => h) (by kernel_rfl) ?_ (by assumption) ?_
  rotate_left 1
  · (intro wS hSw; (try dsimp only at hSw); go_simp; try with_reducible rfl)
  try simp only [Act.put, List.setIfInBounds_toArray, List.set_cons_zero, List.set_cons_succ]
  refine rg_more (S' := fun w' => Blk w' gl 76 #[.slice A d.n c, .int .i64 x.s, .bool (upTo d.es x.s (0 : Nat)), .bool (upTo d.es x.s (1 : Nat)), .bool (upTo d.es x.s (2 : Nat)), .bool (upTo d.es x.s (3 : Nat)), .bool x.ro] ∧ Blk w' gt 71 #[.int .i64 x.tm.gone, .int .u8 x.tm.c, .int .u8 x.tm.r, .bool x.tm.on] ∧ w'.cell? ⟨g, 22, none⟩ = some (.int .i64 x.now)) (fun w h => h.2) _ _ _ _ ?_
  clear hHeld
  have hHeld : (fun w' : World => Blk w' gl 76 #[.slice A d.n c, .int .i64 x.s, .bool (upTo d.es x.s (0 : Nat)), .bool (upTo d.es x.s (1 : Nat)), .bool (upTo d.es x.s (2 : Nat)), .bool (upTo d.es x.s (3 : Nat)), .bool x.ro] ∧ Blk w' gt 71 #[.int .i64 x.tm.gone, .int .u8 x.tm.c, .int .u8 x.tm.r, .bool x.tm.on] ∧ w'.cell? ⟨g, 22, none⟩ = some (.int .i64 x.now)) _ := ⟨N2.out, N1.out, H.out.nw.1⟩
  refine rg_take (i := 11) (d := some 16) (l := #[true, true, true, true, true, true, true, true, true, true, true, true, true, true, true, false, false, false, false, true, true, true, false, false, false, true, true, true, false, false, false, true, true, true, false, false, false, true, true, true, false, false, false, true, true, true, true, false, false, false]) (fuel := 19) (v := .agg #[.slice A d.n c, .int .i64 x.s, .bool (upTo d.es x.s (0 : Nat)), .bool (upTo d.es x.s (1 : Nat)), .bool (upTo d.es x.s (2 : Nat)), .bool (upTo d.es x.s (3 : Nat)), .bool x.ro]) rfl (by kernel_rfl) (by kernel_rfl) (by kernel_rfl) (by kernel_rfl) (by kernel_rfl) (fun _ _ _ h => h) (by kernel_rfl) ?_ (by assumption) ?_
  · (intro wS hSw; (try dsimp only at hSw); exact exec_load_row 76 (.tmp 15) rfl gl rfl 76 #[.slice A d.n c, .int .i64 x.s, .bool (upTo d.es x.s (0 : Nat)), .bool (upTo d.es x.s (1 : Nat)), .bool (upTo d.es x.s (2 : Nat)), .bool (upTo d.es x.s (3 : Nat)), .bool x.ro] (0, 0) _ hSw.1 Tryz.underlying76 rfl (by kernel_rfl))
  try simp only [Act.put, List.setIfInBounds_toArray, List.set_cons_zero, List.set_cons_succ]
  refine rg_next (i := 15) (l := #[true, true, true, true, true, true, true, true, true, true, true, true, true, true, true, true, false, false, false, true, true, true, false, false, false, true, true, true, false, false, false, true, true, true, false, false, false, true, true, true, false, false, false, true, true, true, true, false, false, false]) (fuel := 18) (by kernel_rfl) rfl (by kernel_rfl) (by kernel_rfl) (fun K hK => ?_)
  go_simp
  (go_at_call 39)
  refine (pvalue_any H.out.lat.1).mono ?_
  rintro e w' ⟨rfl, rfl⟩
  first | (refine hK.out _ _ ?_ (fun hHeld => ?_)) | (go_wp2_with fail; refine hK.out _ _ ?_ (fun hHeld => ?_))
  · (try dsimp only); exact ⟨N2.out, N1.out, H.out.nw.1⟩
  clear hK K
  try simp only [Act.put, List.setIfInBounds_toArray, List.set_cons_zero, List.set_cons_succ]
  refine rg_next (i := 16) (l := #[true, true, true, true, true, true, true, true, true, true, true, true, true, true, true, true, true, false, false, true, true, true, false, false, false, true, true, true, false, false, false, true, true, true, false, false, false, true, true, true, false, false, false, true, true, true, true, false, false, false]) (fuel := 17) (by kernel_rfl) rfl (by kernel_rfl) (by kernel_rfl) (fun K hK => ?_)
  go_simp
  (go_at_call 25)
  refine (lnew_any x.buf w2).mono ?_
  rintro e w3 ⟨rfl, y1⟩
  have b3 : Below w2.heap.size w2 w3 := y1 ▸ (Below.refl _ _).alloc (Nat.le_refl _) _
  obtain ⟨gb, hgb⟩ : ∃ gb, w2.heap.size = gb := ⟨_, rfl⟩
  have N3 : Hid (Blk w3 gb 78 #[.int .u8 x.buf]) := Lib.hid (by rw [y1]; exact Blk.new_ hgb.symm)
  clear y1
  simp only [hgb]
  have z3 : B ≤ gb := by omega
  have hz3 : gb < w3.heap.size := N3.out.lt
  replace N1 := Lib.hid (N1.out.kpn (Kp.of_below (L := []) b3) (B := B) (by omega) (by simp))
  replace N2 := Lib.hid (N2.out.kpn (Kp.of_below (L := []) b3) (B := B) (by omega) (by simp))
  replace E2 := Lib.hid (E2.out.kp (Kp.of_below (L := []) b3) (fun y hy => by cases hy))
  replace KK := Lib.hid (KK.out.trans (Kp.of_below (L := []) b3) (by simp))
  replace H := Lib.hid (H.out.keep b3)
  clear b3 hgb hz2
  first | (refine hK.out _ _ ?_ (fun hHeld => ?_)) | (go_wp2_with fail; refine hK.out _ _ ?_ (fun hHeld => ?_))
  · (try dsimp only); exact ⟨N2.out, N1.out, H.out.nw.1⟩
  clear hK K
  try simp only [Act.put, List.setIfInBounds_toArray, List.set_cons_zero, List.set_cons_succ]
  refine rg_take (i := 17) (d := some 22) (l := #[true, true, true, true, true, true, true, true, true, true, true, true, true, true, true, true, true, true, false, true, true, true, false, false, false, true, true, true, false, false, false, true, true, true, false, false, false, true, true, true, false, false, false, true, true, true, true, false, false, false]) (fuel := 16) (v := ?_) rfl (by kernel_rfl) (by kernel_rfl) (by kernel_rfl) (by kernel_rfl) (by kernel_rfl) (fun _ _ _ h => h) (by kernel_rfl) ?_ (by assumption) ?_
  rotate_left 1
  · (intro wS hSw; (try dsimp only at hSw); go_simp; try with_reducible rfl)
  try simp only [Act.put, List.setIfInBounds_toArray, List.set_cons_zero, List.set_cons_succ]
  refine rg_more (S' := fun w' => Blk w' gb 78 #[.int .u8 x.buf] ∧ Blk w' gl 76 #[.slice A d.n c, .int .i64 x.s, .bool (upTo d.es x.s (0 : Nat)), .bool (upTo d.es x.s (1 : Nat)), .bool (upTo d.es x.s (2 : Nat)), .bool (upTo d.es x.s (3 : Nat)), .bool x.ro] ∧ Blk w' gt 71 #[.int .i64 x.tm.gone, .int .u8 x.tm.c, .int .u8 x.tm.r, .bool x.tm.on] ∧ w'.cell? ⟨g, 22, none⟩ = some (.int .i64 x.now)) (fun w h => h.2) _ _ _ _ ?_
  clear hHeld
  have hHeld : (fun w' : World => Blk w' gb 78 #[.int .u8 x.buf] ∧ Blk w' gl 76 #[.slice A d.n c, .int .i64 x.s, .bool (upTo d.es x.s (0 : Nat)), .bool (upTo d.es x.s (1 : Nat)), .bool (upTo d.es x.s (2 : Nat)), .bool (upTo d.es x.s (3 : Nat)), .bool x.ro] ∧ Blk w' gt 71 #[.int .i64 x.tm.gone, .int .u8 x.tm.c, .int .u8 x.tm.r, .bool x.tm.on] ∧ w'.cell? ⟨g, 22, none⟩ = some (.int .i64 x.now)) _ := ⟨N3.out, N2.out, N1.out, H.out.nw.1⟩
  refine rg_take (i := 18) (d := some 23) (l := #[true, true, true, true, true, true, true, true, true, true, true, true, true, true, true, true, true, true, true, true, true, true, false, false, false, true, true, true, false, false, false, true, true, true, false, false, false, true, true, true, false, false, false, true, true, true, true, false, false, false]) (fuel := 15) (v := .agg #[.int .u8 x.buf]) rfl (by kernel_rfl) (by kernel_rfl) (by kernel_rfl) (by kernel_rfl) (by kernel_rfl) (fun _ _ _ h => h) (by kernel_rfl) ?_ (by assumption) ?_
  · (intro wS hSw; (try dsimp only at hSw); exact exec_load_row 78 (.tmp 22) rfl gb rfl 78 #[.int .u8 x.buf] (0, 0) _ hSw.1 Tryz.underlying78 rfl (by kernel_rfl))
  try simp only [Act.put, List.setIfInBounds_toArray, List.set_cons_zero, List.set_cons_succ]
  refine rg_next (i := 22) (l := #[true, true, true, true, true, true, true, true, true, true, true, true, true, true, true, true, true, true, true, true, true, true, true, false, false, true, true, true, false, false, false, true, true, true, false, false, false, true, true, true, false, false, false, true, true, true, true, false, false, false]) (fuel := 14) (by kernel_rfl) rfl (by kernel_rfl) (by kernel_rfl) (fun K hK => ?_)
  go_simp
  (go_at_call 40)
  obtain ⟨cs, q1, q2⟩ := H.out.irq
  refine (qclone_any q1).mono ?_
  rintro e w4 ⟨rfl, y1, b4⟩
  obtain ⟨gi, hgi⟩ : ∃ gi, w3.heap.size = gi := ⟨_, rfl⟩
  have N4 : Hid (Blk w4 gi 82 #[.int .u8 x.q.d, .bool x.q.due]) := Lib.hid (hgi ▸ y1.1)
  simp only [hgi]
  have z4 : B ≤ gi := by omega
  have hz4 : gi < w4.heap.size := N4.out.lt
  replace N1 := Lib.hid (N1.out.kpn (Kp.of_below (L := []) b4) (B := B) (by omega) (by simp))
  replace N2 := Lib.hid (N2.out.kpn (Kp.of_below (L := []) b4) (B := B) (by omega) (by simp))
  replace N3 := Lib.hid (N3.out.kpn (Kp.of_below (L := []) b4) (B := B) (by omega) (by simp))
  replace E2 := Lib.hid (E2.out.kp (Kp.of_below (L := []) b4) (fun y hy => by cases hy))
  replace KK := Lib.hid (KK.out.trans (Kp.of_below (L := []) b4) (by simp))
  replace H := Lib.hid (H.out.keep b4)
  clear q1 q2 cs y1 b4 hgi hz3
  first | (refine hK.out _ _ ?_ (fun hHeld => ?_)) | (go_wp2_with fail; refine hK.out _ _ ?_ (fun hHeld => ?_))
  · (try dsimp only); exact ⟨N3.out, N2.out, N1.out, H.out.nw.1⟩
  clear hK K
  try simp only [Act.put, List.setIfInBounds_toArray, List.set_cons_zero, List.set_cons_succ]
  refine rg_take (i := 23) (d := some 28) (l := #[true, true, true, true, true, true, true, true, true, true, true, true, true, true, true, true, true, true, true, true, true, true, true, true, false, true, true, true, false, false, false, true, true, true, false, false, false, true, true, true, false, false, false, true, true, true, true, false, false, false]) (fuel := 13) (v := ?_) rfl (by kernel_rfl) (by kernel_rfl) (by kernel_rfl) (by kernel_rfl) (by kernel_rfl) (fun _ _ _ h => h) (by kernel_rfl) ?_ (by assumption) ?_
  rotate_left 1
  · (intro wS hSw; (try dsimp only at hSw); go_simp; try with_reducible rfl)
  try simp only [Act.put, List.setIfInBounds_toArray, List.set_cons_zero, List.set_cons_succ]
  refine rg_more (S' := fun w' => Blk w' gi 82 #[.int .u8 x.q.d, .bool x.q.due] ∧ Blk w' gb 78 #[.int .u8 x.buf] ∧ Blk w' gl 76 #[.slice A d.n c, .int .i64 x.s, .bool (upTo d.es x.s (0 : Nat)), .bool (upTo d.es x.s (1 : Nat)), .bool (upTo d.es x.s (2 : Nat)), .bool (upTo d.es x.s (3 : Nat)), .bool x.ro] ∧ Blk w' gt 71 #[.int .i64 x.tm.gone, .int .u8 x.tm.c, .int .u8 x.tm.r, .bool x.tm.on] ∧ w'.cell? ⟨g, 22, none⟩ = some (.int .i64 x.now)) (fun w h => h.2) _ _ _ _ ?_
  clear hHeld
  have hHeld : (fun w' : World => Blk w' gi 82 #[.int .u8 x.q.d, .bool x.q.due] ∧ Blk w' gb 78 #[.int .u8 x.buf] ∧ Blk w' gl 76 #[.slice A d.n c, .int .i64 x.s, .bool (upTo d.es x.s (0 : Nat)), .bool (upTo d.es x.s (1 : Nat)), .bool (upTo d.es x.s (2 : Nat)), .bool (upTo d.es x.s (3 : Nat)), .bool x.ro] ∧ Blk w' gt 71 #[.int .i64 x.tm.gone, .int .u8 x.tm.c, .int .u8 x.tm.r, .bool x.tm.on] ∧ w'.cell? ⟨g, 22, none⟩ = some (.int .i64 x.now)) _ := ⟨N4.out, N3.out, N2.out, N1.out, H.out.nw.1⟩
  refine rg_take (i := 24) (d := some 29) (l := #[true, true, true, true, true, true, true, true, true, true, true, true, true, true, true, true, true, true, true, true, true, true, true, true, true, true, true, true, false, false, false, true, true, true, false, false, false, true, true, true, false, false, false, true, true, true, true, false, false, false]) (fuel := 12) (v := .agg #[.int .u8 x.q.d, .bool x.q.due]) rfl (by kernel_rfl) (by kernel_rfl) (by kernel_rfl) (by kernel_rfl) (by kernel_rfl) (fun _ _ _ h => h) (by kernel_rfl) ?_ (by assumption) ?_
  · (intro wS hSw; (try dsimp only at hSw); exact exec_load_row 82 (.tmp 28) rfl gi rfl 82 #[.int .u8 x.q.d, .bool x.q.due] (0, 0) _ hSw.1 Tryz.underlying82 rfl (by kernel_rfl))
  try simp only [Act.put, List.setIfInBounds_toArray, List.set_cons_zero, List.set_cons_succ]
  refine rg_next (i := 28) (l := #[true, true, true, true, true, true, true, true, true, true, true, true, true, true, true, true, true, true, true, true, true, true, true, true, true, true, true, true, true, false, false, true, true, true, false, false, false, true, true, true, false, false, false, true, true, true, true, false, false, false]) (fuel := 11) (by kernel_rfl) rfl (by kernel_rfl) (by kernel_rfl) (fun K hK => ?_)
  go_simp
  (go_at_call 41)
  obtain ⟨cs, q1, q2⟩ := H.out.prt
  refine (pclone_any q1 hd.1).mono ?_
  rintro e w5 ⟨gp, bp, rfl, r1, r2, y1, y2, k5⟩
  have N5 : Hid (Blk w5 gp 89 #[giveV bp, .int .i64 x.tp, .int .u8 x.pt.l, .int .i64 x.pt.p]) := Lib.hid y1.1.1
  have M5 : Hid (Box w5 bp (d.np - x.tp) (fun i => d.zp (x.tp + i))) := Lib.hid y1.1.2.2
  have z5 : B ≤ gp ∧ B ≤ bp := by omega
  have hz5 : bp < w5.heap.size ∧ w4.heap.size ≤ w5.heap.size := ⟨PT.ltc y1, k5.size⟩
  have off := H.out.boxOff.2.2
  replace N1 := Lib.hid (N1.out.kpn k5 (B := B) (by omega) (by simp; omega))
  replace N2 := Lib.hid (N2.out.kpn k5 (B := B) (by omega) (by simp; omega))
  replace N3 := Lib.hid (N3.out.kpn k5 (B := B) (by omega) (by simp; omega))
  replace N4 := Lib.hid (N4.out.kpn k5 (B := B) (by omega) (by simp; omega))
  replace E2 := Lib.hid (E2.out.kp k5 (fun y hy => by obtain rfl := List.mem_singleton.1 hy; obtain ⟨t, cs, o1, _, o2⟩ := off; exact ⟨t, cs, o1, o2⟩))
  replace KK := Lib.hid (KK.out.trans k5 (by simp))
  replace H := Lib.hid (q2 _ _ _ _ y2 k5 (by simp))
  clear q1 q2 cs y1 y2 k5 off r1 r2
  first | (refine hK.out _ _ ?_ (fun hHeld => ?_)) | (go_wp2_with fail; refine hK.out _ _ ?_ (fun hHeld => ?_))
  · (try dsimp only); exact ⟨N4.out, N3.out, N2.out, N1.out, H.out.nw.1⟩
  clear hK K
  try simp only [Act.put, List.setIfInBounds_toArray, List.set_cons_zero, List.set_cons_succ]
  refine rg_take (i := 29) (d := some 34) (l := #[true, true, true, true, true, true, true, true, true, true, true, true, true, true, true, true, true, true, true, true, true, true, true, true, true, true, true, true, true, true, false, true, true, true, false, false, false, true, true, true, false, false, false, true, true, true, true, false, false, false]) (fuel := 10) (v := ?_) rfl (by kernel_rfl) (by kernel_rfl) (by kernel_rfl) (by kernel_rfl) (by kernel_rfl) (fun _ _ _ h => h) (by kernel_rfl) ?_ (by assumption) ?_
  rotate_left 1
  · (intro wS hSw; (try dsimp only at hSw); go_simp; try with_reducible rfl)
  try simp only [Act.put, List.setIfInBounds_toArray, List.set_cons_zero, List.set_cons_succ]
  refine rg_more (S' := fun w' => Blk w' gp 89 #[giveV bp, .int .i64 x.tp, .int .u8 x.pt.l, .int .i64 x.pt.p] ∧ Blk w' gi 82 #[.int .u8 x.q.d, .bool x.q.due] ∧ Blk w' gb 78 #[.int .u8 x.buf] ∧ Blk w' gl 76 #[.slice A d.n c, .int .i64 x.s, .bool (upTo d.es x.s (0 : Nat)), .bool (upTo d.es x.s (1 : Nat)), .bool (upTo d.es x.s (2 : Nat)), .bool (upTo d.es x.s (3 : Nat)), .bool x.ro] ∧ Blk w' gt 71 #[.int .i64 x.tm.gone, .int .u8 x.tm.c, .int .u8 x.tm.r, .bool x.tm.on] ∧ w'.cell? ⟨g, 22, none⟩ = some (.int .i64 x.now)) (fun w h => h.2) _ _ _ _ ?_
  clear hHeld
  have hHeld : (fun w' : World => Blk w' gp 89 #[giveV bp, .int .i64 x.tp, .int .u8 x.pt.l, .int .i64 x.pt.p] ∧ Blk w' gi 82 #[.int .u8 x.q.d, .bool x.q.due] ∧ Blk w' gb 78 #[.int .u8 x.buf] ∧ Blk w' gl 76 #[.slice A d.n c, .int .i64 x.s, .bool (upTo d.es x.s (0 : Nat)), .bool (upTo d.es x.s (1 : Nat)), .bool (upTo d.es x.s (2 : Nat)), .bool (upTo d.es x.s (3 : Nat)), .bool x.ro] ∧ Blk w' gt 71 #[.int .i64 x.tm.gone, .int .u8 x.tm.c, .int .u8 x.tm.r, .bool x.tm.on] ∧ w'.cell? ⟨g, 22, none⟩ = some (.int .i64 x.now)) _ := ⟨N5.out, N4.out, N3.out, N2.out, N1.out, H.out.nw.1⟩
  refine rg_take (i := 30) (d := some 35) (l := #[true, true, true, true, true, true, true, true, true, true, true, true, true, true, true, true, true, true, true, true, true, true, true, true, true, true, true, true, true, true, true, true, true, true, false, false, false, true, true, true, false, false, false, true, true, true, true, false, false, false]) (fuel := 9) (v := .agg #[giveV bp, .int .i64 x.tp, .int .u8 x.pt.l, .int .i64 x.pt.p]) rfl (by kernel_rfl) (by kernel_rfl) (by kernel_rfl) (by kernel_rfl) (by kernel_rfl) (fun _ _ _ h => h) (by kernel_rfl) ?_ (by assumption) ?_
  · (intro wS hSw; (try dsimp only at hSw); exact exec_load_row 89 (.tmp 34) rfl gp rfl 89 #[giveV bp, .int .i64 x.tp, .int .u8 x.pt.l, .int .i64 x.pt.p] (0, 0) _ hSw.1 Tryz.underlying89 rfl (by kernel_rfl))
  try simp only [Act.put, List.setIfInBounds_toArray, List.set_cons_zero, List.set_cons_succ]
  refine rg_next (i := 34) (l := #[true, true, true, true, true, true, true, true, true, true, true, true, true, true, true, true, true, true, true, true, true, true, true, true, true, true, true, true, true, true, true, true, true, true, true, false, false, true, true, true, false, false, false, true, true, true, true, false, false, false]) (fuel := 8) (by kernel_rfl) rfl (by kernel_rfl) (by kernel_rfl) (fun K hK => ?_)
  go_simp
  (go_at_call 42)
  obtain ⟨cs, q1, q2⟩ := H.out.fdv
  refine (fpclone_any q1 (by omega)).mono ?_
  rintro e w6 ⟨gv, bv, rfl, r1, r2, y1, y2, k6⟩
  have N6 : Hid (Blk w6 gv 87 #[giveV bv, .int .i64 x.tv]) := Lib.hid y1.1
  have M6 : Hid (Box w6 bv (d.nv - x.tv) (fun i => d.zv (x.tv + i))) := Lib.hid y1.2.2
  have z6 : B ≤ gv ∧ B ≤ bv ∧ bp < bv := by omega
  have hz6 : bv < w6.heap.size ∧ w5.heap.size ≤ w6.heap.size := ⟨FP.ltc y1, k6.size⟩
  have off := H.out.boxOff.1
  replace N1 := Lib.hid (N1.out.kpn k6 (B := B) (by omega) (by simp; omega))
  replace N2 := Lib.hid (N2.out.kpn k6 (B := B) (by omega) (by simp; omega))
  replace N3 := Lib.hid (N3.out.kpn k6 (B := B) (by omega) (by simp; omega))
  replace N4 := Lib.hid (N4.out.kpn k6 (B := B) (by omega) (by simp; omega))
  replace N5 := Lib.hid (N5.out.kpn k6 (B := B) (by omega) (by simp; omega))
  replace M5 := Lib.hid (M5.out.kpn k6 (fun y hy => by obtain rfl := List.mem_singleton.1 hy; obtain ⟨t, cs, o1, o2, _⟩ := off; exact ⟨t, cs, o1, o2⟩) (B := B) (by omega) (by simp; omega))
  replace E2 := Lib.hid (E2.out.kp k6 (fun y hy => by obtain rfl := List.mem_singleton.1 hy; obtain ⟨t, cs, o1, _, o2⟩ := off; exact ⟨t, cs, o1, o2⟩))
  replace KK := Lib.hid (KK.out.trans k6 (by simp))
  replace H := Lib.hid (q2 _ _ _ y2 k6 (by simp))
  clear q1 q2 cs y1 y2 k6 off r1 r2
  first | (refine hK.out _ _ ?_ (fun hHeld => ?_)) | (go_wp2_with fail; refine hK.out _ _ ?_ (fun hHeld => ?_))
  · (try dsimp only); exact ⟨N5.out, N4.out, N3.out, N2.out, N1.out, H.out.nw.1⟩
  clear hK K
  try simp only [Act.put, List.setIfInBounds_toArray, List.set_cons_zero, List.set_cons_succ]
  refine rg_take (i := 35) (d := some 40) (l := #[true, true, true, true, true, true, true, true, true, true, true, true, true, true, true, true, true, true, true, true, true, true, true, true, true, true, true, true, true, true, true, true, true, true, true, true, false, true, true, true, false, false, false, true, true, true, true, false, false, false]) (fuel := 7) (v := ?_) rfl (by kernel_rfl) (by kernel_rfl) (by kernel_rfl) (by kernel_rfl) (by kernel_rfl) (fun _ _ _ h => h) (by kernel_rfl) ?_ (by assumption) ?_
  rotate_left 1
  · (intro wS hSw; (try dsimp only at hSw); go_simp; try with_reducible rfl)
  try simp only [Act.put, List.setIfInBounds_toArray, List.set_cons_zero, List.set_cons_succ]
  refine rg_more (S' := fun w' => Blk w' gv 87 #[giveV bv, .int .i64 x.tv] ∧ Blk w' gp 89 #[giveV bp, .int .i64 x.tp, .int .u8 x.pt.l, .int .i64 x.pt.p] ∧ Blk w' gi 82 #[.int .u8 x.q.d, .bool x.q.due] ∧ Blk w' gb 78 #[.int .u8 x.buf] ∧ Blk w' gl 76 #[.slice A d.n c, .int .i64 x.s, .bool (upTo d.es x.s (0 : Nat)), .bool (upTo d.es x.s (1 : Nat)), .bool (upTo d.es x.s (2 : Nat)), .bool (upTo d.es x.s (3 : Nat)), .bool x.ro] ∧ Blk w' gt 71 #[.int .i64 x.tm.gone, .int .u8 x.tm.c, .int .u8 x.tm.r, .bool x.tm.on] ∧ w'.cell? ⟨g, 22, none⟩ = some (.int .i64 x.now)) (fun w h => h.2) _ _ _ _ ?_
  clear hHeld
  have hHeld : (fun w' : World => Blk w' gv 87 #[giveV bv, .int .i64 x.tv] ∧ Blk w' gp 89 #[giveV bp, .int .i64 x.tp, .int .u8 x.pt.l, .int .i64 x.pt.p] ∧ Blk w' gi 82 #[.int .u8 x.q.d, .bool x.q.due] ∧ Blk w' gb 78 #[.int .u8 x.buf] ∧ Blk w' gl 76 #[.slice A d.n c, .int .i64 x.s, .bool (upTo d.es x.s (0 : Nat)), .bool (upTo d.es x.s (1 : Nat)), .bool (upTo d.es x.s (2 : Nat)), .bool (upTo d.es x.s (3 : Nat)), .bool x.ro] ∧ Blk w' gt 71 #[.int .i64 x.tm.gone, .int .u8 x.tm.c, .int .u8 x.tm.r, .bool x.tm.on] ∧ w'.cell? ⟨g, 22, none⟩ = some (.int .i64 x.now)) _ := ⟨N6.out, N5.out, N4.out, N3.out, N2.out, N1.out, H.out.nw.1⟩
  refine rg_take (i := 36) (d := some 41) (l := #[true, true, true, true, true, true, true, true, true, true, true, true, true, true, true, true, true, true, true, true, true, true, true, true, true, true, true, true, true, true, true, true, true, true, true, true, true, true, true, true, false, false, false, true, true, true, true, false, false, false]) (fuel := 6) (v := .agg #[giveV bv, .int .i64 x.tv]) rfl (by kernel_rfl) (by kernel_rfl) (by kernel_rfl) (by kernel_rfl) (by kernel_rfl) (fun _ _ _ h => h) (by kernel_rfl) ?_ (by assumption) ?_
  · (intro wS hSw; (try dsimp only at hSw); exact exec_load_row 87 (.tmp 40) rfl gv rfl 87 #[giveV bv, .int .i64 x.tv] (0, 0) _ hSw.1 Tryz.underlying87 rfl (by kernel_rfl))
  try simp only [Act.put, List.setIfInBounds_toArray, List.set_cons_zero, List.set_cons_succ]
  refine rg_next (i := 40) (l := #[true, true, true, true, true, true, true, true, true, true, true, true, true, true, true, true, true, true, true, true, true, true, true, true, true, true, true, true, true, true, true, true, true, true, true, true, true, true, true, true, true, false, false, true, true, true, true, false, false, false]) (fuel := 5) (by kernel_rfl) rfl (by kernel_rfl) (by kernel_rfl) (fun K hK => ?_)
  go_simp
  (go_at_call 42)
  obtain ⟨cs, q1, q2⟩ := H.out.fdc
  refine (fpclone_any q1 (by omega)).mono ?_
  rintro e w7 ⟨gc, bc, rfl, r1, r2, y1, y2, k7⟩
  have N7 : Hid (Blk w7 gc 87 #[giveV bc, .int .i64 x.tc]) := Lib.hid y1.1
  have M7 : Hid (Box w7 bc (d.nc - x.tc) (fun i => d.zc (x.tc + i))) := Lib.hid y1.2.2
  have z7 : B ≤ gc ∧ B ≤ bc ∧ bv < bc ∧ bp < bc := by omega
  have off := H.out.boxOff.2.1
  replace N1 := Lib.hid (N1.out.kpn k7 (B := B) (by omega) (by simp; omega))
  replace N2 := Lib.hid (N2.out.kpn k7 (B := B) (by omega) (by simp; omega))
  replace N3 := Lib.hid (N3.out.kpn k7 (B := B) (by omega) (by simp; omega))
  replace N4 := Lib.hid (N4.out.kpn k7 (B := B) (by omega) (by simp; omega))
  replace N5 := Lib.hid (N5.out.kpn k7 (B := B) (by omega) (by simp; omega))
  replace N6 := Lib.hid (N6.out.kpn k7 (B := B) (by omega) (by simp; omega))
  replace M5 := Lib.hid (M5.out.kpn k7 (fun y hy => by obtain rfl := List.mem_singleton.1 hy; obtain ⟨t, cs, o1, o2, _⟩ := off; exact ⟨t, cs, o1, o2⟩) (B := B) (by omega) (by simp; omega))
  replace M6 := Lib.hid (M6.out.kpn k7 (fun y hy => by obtain rfl := List.mem_singleton.1 hy; obtain ⟨t, cs, o1, o2, _⟩ := off; exact ⟨t, cs, o1, o2⟩) (B := B) (by omega) (by simp; omega))
  replace E2 := Lib.hid (E2.out.kp k7 (fun y hy => by obtain rfl := List.mem_singleton.1 hy; obtain ⟨t, cs, o1, _, o2⟩ := off; exact ⟨t, cs, o1, o2⟩))
  replace KK := Lib.hid (KK.out.trans k7 (by simp))
  replace H := Lib.hid (q2 _ _ _ y2 k7 (by simp))
  clear q1 q2 cs y1 y2 k7 off r1 r2
  first | (refine hK.out _ _ ?_ (fun hHeld => ?_)) | (go_wp2_with fail; refine hK.out _ _ ?_ (fun hHeld => ?_))
  · (try dsimp only); exact ⟨N6.out, N5.out, N4.out, N3.out, N2.out, N1.out, H.out.nw.1⟩
  clear hK K
  try simp only [Act.put, List.setIfInBounds_toArray, List.set_cons_zero, List.set_cons_succ]
  refine rg_take (i := 41) (d := some 46) (l := #[true, true, true, true, true, true, true, true, true, true, true, true, true, true, true, true, true, true, true, true, true, true, true, true, true, true, true, true, true, true, true, true, true, true, true, true, true, true, true, true, true, true, false, true, true, true, true, false, false, false]) (fuel := 4) (v := ?_) rfl (by kernel_rfl) (by kernel_rfl) (by kernel_rfl) (by kernel_rfl) (by kernel_rfl) (fun _ _ _ h => h) (by kernel_rfl) ?_ (by assumption) ?_
  rotate_left 1
  · (intro wS hSw; (try dsimp only at hSw); go_simp; try with_reducible rfl)
  try simp only [Act.put, List.setIfInBounds_toArray, List.set_cons_zero, List.set_cons_succ]
  refine rg_more (S' := fun w' => Blk w' gc 87 #[giveV bc, .int .i64 x.tc] ∧ Blk w' gv 87 #[giveV bv, .int .i64 x.tv] ∧ Blk w' gp 89 #[giveV bp, .int .i64 x.tp, .int .u8 x.pt.l, .int .i64 x.pt.p] ∧ Blk w' gi 82 #[.int .u8 x.q.d, .bool x.q.due] ∧ Blk w' gb 78 #[.int .u8 x.buf] ∧ Blk w' gl 76 #[.slice A d.n c, .int .i64 x.s, .bool (upTo d.es x.s (0 : Nat)), .bool (upTo d.es x.s (1 : Nat)), .bool (upTo d.es x.s (2 : Nat)), .bool (upTo d.es x.s (3 : Nat)), .bool x.ro] ∧ Blk w' gt 71 #[.int .i64 x.tm.gone, .int .u8 x.tm.c, .int .u8 x.tm.r, .bool x.tm.on] ∧ w'.cell? ⟨g, 22, none⟩ = some (.int .i64 x.now)) (fun w h => h.2) _ _ _ _ ?_
  clear hHeld
  have hHeld : (fun w' : World => Blk w' gc 87 #[giveV bc, .int .i64 x.tc] ∧ Blk w' gv 87 #[giveV bv, .int .i64 x.tv] ∧ Blk w' gp 89 #[giveV bp, .int .i64 x.tp, .int .u8 x.pt.l, .int .i64 x.pt.p] ∧ Blk w' gi 82 #[.int .u8 x.q.d, .bool x.q.due] ∧ Blk w' gb 78 #[.int .u8 x.buf] ∧ Blk w' gl 76 #[.slice A d.n c, .int .i64 x.s, .bool (upTo d.es x.s (0 : Nat)), .bool (upTo d.es x.s (1 : Nat)), .bool (upTo d.es x.s (2 : Nat)), .bool (upTo d.es x.s (3 : Nat)), .bool x.ro] ∧ Blk w' gt 71 #[.int .i64 x.tm.gone, .int .u8 x.tm.c, .int .u8 x.tm.r, .bool x.tm.on] ∧ w'.cell? ⟨g, 22, none⟩ = some (.int .i64 x.now)) _ := ⟨N7.out, N6.out, N5.out, N4.out, N3.out, N2.out, N1.out, H.out.nw.1⟩
  refine rg_take (i := 42) (d := some 47) (l := #[true, true, true, true, true, true, true, true, true, true, true, true, true, true, true, true, true, true, true, true, true, true, true, true, true, true, true, true, true, true, true, true, true, true, true, true, true, true, true, true, true, true, true, true, true, true, true, false, false, false]) (fuel := 3) (v := .agg #[giveV bc, .int .i64 x.tc]) rfl (by kernel_rfl) (by kernel_rfl) (by kernel_rfl) (by kernel_rfl) (by kernel_rfl) (fun _ _ _ h => h) (by kernel_rfl) ?_ (by assumption) ?_
  · (intro wS hSw; (try dsimp only at hSw); exact exec_load_row 87 (.tmp 46) rfl gc rfl 87 #[giveV bc, .int .i64 x.tc] (0, 0) _ hSw.1 Tryz.underlying87 rfl (by kernel_rfl))
  try simp only [Act.put, List.setIfInBounds_toArray, List.set_cons_zero, List.set_cons_succ]
  refine rg_take (i := 47) (d := some 52) (l := #[true, true, true, true, true, true, true, true, true, true, true, true, true, true, true, true, true, true, true, true, true, true, true, true, true, true, true, true, true, true, true, true, true, true, true, true, true, true, true, true, true, true, true, true, true, true, true, true, false, false]) (fuel := 2) (v := ?_) rfl (by kernel_rfl) (by kernel_rfl) (by kernel_rfl) (by kernel_rfl) (by kernel_rfl) (fun _ _ _ h => h) (by kernel_rfl) ?_ (by assumption) ?_
  rotate_left 1
  · (intro wS hSw; (try dsimp only at hSw); go_simp; try with_reducible rfl)
  try simp only [Act.put, List.setIfInBounds_toArray, List.set_cons_zero, List.set_cons_succ]
  unfold giveV
  refine rg_next (i := 48) (l := #[true, true, true, true, true, true, true, true, true, true, true, true, true, true, true, true, true, true, true, true, true, true, true, true, true, true, true, true, true, true, true, true, true, true, true, true, true, true, true, true, true, true, true, true, true, true, true, true, true, false]) (fuel := 1) (by kernel_rfl) rfl (by kernel_rfl) (by kernel_rfl) (fun K hK => ?_)
  go_simp
  have b8 : Below w7.heap.size w7 (w7.alloc (.cells (hpC d ⟨bv, bc, bp⟩ A c x) 95)) := (Below.refl _ _).alloc (Nat.le_refl _) _
  have N8 := Lib.hid (Blk.new w7 95 (hpC d ⟨bv, bc, bp⟩ A c x))
  have O8 : Hid (HPo (w7.alloc (.cells (hpC d ⟨bv, bc, bp⟩ A c x) 95)) d ⟨bv, bc, bp⟩ A c x) := Lib.hid ⟨E2.out.keep b8, M6.out.kp (Kp.of_below (L := []) b8) (fun y hy => by cases hy) (by simp), M7.out.kp (Kp.of_below (L := []) b8) (fun y hy => by cases hy) (by simp), M5.out.kp (Kp.of_below (L := []) b8) (fun y hy => by cases hy) (by simp), ⟨(by dsimp only; omega), (by dsimp only; omega), (by dsimp only; omega)⟩, H.out.ok, H.out.gd⟩
  have H8 := Lib.hid (H.out.keep b8)
  have K8 := Lib.hid (KK.out.trans (Kp.of_below (L := []) b8) (by simp))
  have z8 : B ≤ w7.heap.size := (by have := N7.out.lt; omega)
  first | (refine hK.out _ _ ?_ (fun hHeld => ?_)) | (go_wp2_with fail; refine hK.out _ _ ?_ (fun hHeld => ?_))
  · (try dsimp only); exact ⟨N7.out.below b8 N7.out.lt, N6.out.below b8 N6.out.lt, N5.out.below b8 N5.out.lt, N4.out.below b8 N4.out.lt, N3.out.below b8 N3.out.lt, N2.out.below b8 N2.out.lt, N1.out.below b8 N1.out.lt, H8.out.nw.1⟩
  clear hK K
  try simp only [Act.put, List.setIfInBounds_toArray, List.set_cons_zero, List.set_cons_succ]
  refine rg_take (i := 49) (d := some 2) (l := #[true, true, true, true, true, true, true, true, true, true, true, true, true, true, true, true, true, true, true, true, true, true, true, true, true, true, true, true, true, true, true, true, true, true, true, true, true, true, true, true, true, true, true, true, true, true, true, true, true, true]) (fuel := 0) (v := ?_) rfl (by kernel_rfl) (by kernel_rfl) (by kernel_rfl) (by kernel_rfl) (by kernel_rfl) (fun _ _ _ h => h) (by kernel_rfl) ?_ (by assumption) ?_
  rotate_left 1
  · (intro wS hSw; (try dsimp only at hSw); go_simp; try with_reducible rfl)
  try simp only [Act.put, List.setIfInBounds_toArray, List.set_cons_zero, List.set_cons_succ]
  refine wpAnyH_done (by kernel_rfl) ?_ _
  go_wp2_with fail
  go_ret
  exact ⟨w7.heap.size, ⟨bv, bc, bp⟩, rfl, by rw [HBB.out]; exact ⟨by omega, by dsimp only; omega, by dsimp only; omega, by dsimp only; omega⟩, ⟨A, c, N8.out, O8.out⟩, H8.out, K8.out⟩
end
end Go.Proofs.YtcnjekballnncaaGreat
namespace Go.Proofs.YtcnjekballnncaaGreat
open Go.RowKit
set_option linter.unusedVariables false
set_option linter.unusedSimpArgs false
set_option maxRecDepth 100000
/-- All registers. -/
def stC (x : Hp) : Array Value := #[.int .u8 x.buf, .int .u8 x.tm.r, .int .u8 x.tm.c, .int .u8 x.q.d, .int .u8 x.pt.l, .int .i64 (3072 - (x.tm.gone : Int)), .bool x.tm.on, .bool x.q.due, .bool x.ro, .int .i64 x.tv, .int .i64 x.tc, .int .i64 x.tp]
section
variable {w : World} {g : Nat} {d : Hd} {b : Hb} {x : Hp}
set_option maxHeartbeats 8000000 in
theorem hstatus_any (h : HP w g d b x) :
    Calls Tryz.prog 13 #[.pointer (some ⟨g, 0, none⟩)] w fun e w' => e = .returned (.agg (stC x)) ∧ Below w.heap.size w w' := by
  have hb0 : Below w.heap.size w (w.alloc (.cells #[.int .u8 0, .int .u8 0, .int .u8 0, .int .u8 0, .int .u8 0, .int .i64 0, .bool false, .bool false, .bool false, .int .i64 0, .int .i64 0, .int .i64 0] 42)) := (Below.refl _ _).alloc (Nat.le_refl _) _
  have H := Lib.hid ((h.keep hb0).kp0 (Kp.refl _ _).drew)
  have HB := Lib.hid hb0
  have hbl := Blk.new w 42 #[.int .u8 0, .int .u8 0, .int .u8 0, .int .u8 0, .int .u8 0, .int .i64 0, .bool false, .bool false, .bool false, .int .i64 0, .int .i64 0, .int .i64 0]
  have HL := Lib.hid hbl
  obtain ⟨left, hleft⟩ : ∃ l, 3072 - (x.tm.gone : Int) = l := ⟨_, rfl⟩
  have HLEFT := Lib.hid hleft
  clear h hb0 hbl hleft
  go_enter Tryz.func13, Tryz.ntmps13
  go_wp2_with fail
  generalize World.alloc _ _ = w0 at *
  refine rg_begin (S := fun w' => True) 50 #[false, false, false, false, false, false, false, false, false, false, false, false, false, false, false, false, false, false, false, false, false, false, false, false, false, false, false, false, false, false, false, false, false, false, false, false, false, false, false, false, false, false, false, false, false, false, false, false, false, false] (by kernel_rfl) (by kernel_rfl) (by kernel_rfl) ?_ (fun hHeld => ?_)
  · exact trivial
  refine rg_take (i := 0) (d := some 6) (l := #[true, false, false, false, false, false, false, false, false, false, false, false, false, false, false, false, false, false, false, false, false, false, false, false, false, false, false, false, false, false, false, false, false, false, false, false, false, false, false, false, false, false, false, false, false, false, false, false, false, false]) (fuel := 49) (v := ?_) rfl (by kernel_rfl) (by kernel_rfl) (by kernel_rfl) (by kernel_rfl) (by kernel_rfl) (fun _ _ _ h => h) (by kernel_rfl) ?_ (by assumption) ?_
  rotate_left 1
  · (intro wS hSw; (try dsimp only at hSw); go_simp; try with_reducible rfl)
  try simp only [Act.put, List.setIfInBounds_toArray, List.set_cons_zero, List.set_cons_succ]
  refine rg_take (i := 1) (d := some 7) (l := #[true, true, false, false, false, false, false, false, false, false, false, false, false, false, false, false, false, false, false, false, false, false, false, false, false, false, false, false, false, false, false, false, false, false, false, false, false, false, false, false, false, false, false, false, false, false, false, false, false, false]) (fuel := 48) (v := ?_) rfl (by kernel_rfl) (by kernel_rfl) (by kernel_rfl) (by kernel_rfl) (by kernel_rfl) (fun _ _ _ h => h) (by kernel_rfl) ?_ (by assumption) ?_
  rotate_left 1
  · (intro wS hSw; (try dsimp only at hSw); go_simp; try with_reducible rfl)
  try simp only [Act.put, List.setIfInBounds_toArray, List.set_cons_zero, List.set_cons_succ]
  refine rg_take (i := 2) (d := some 8) (l := #[true, true, true, false, false, false, false, false, false, false, false, false, false, false, false, false, false, false, false, false, false, false, false, false, false, false, false, false, false, false, false, false, false, false, false, false, false, false, false, false, false, false, false, false, false, false, false, false, false, false]) (fuel := 47) (v := ?_) rfl (by kernel_rfl) (by kernel_rfl) (by kernel_rfl) (by kernel_rfl) (by kernel_rfl) (fun _ _ _ h => h) (by kernel_rfl) ?_ (by assumption) ?_
  rotate_left 1
  · (intro wS hSw; (try dsimp only at hSw); go_simp; try with_reducible rfl)
  try simp only [Act.put, List.setIfInBounds_toArray, List.set_cons_zero, List.set_cons_succ]
  refine rg_take (i := 4) (d := some 10) (l := #[true, true, true, false, true, false, false, false, false, false, false, false, false, false, false, false, false, false, false, false, false, false, false, false, false, false, false, false, false, false, false, false, false, false, false, false, false, false, false, false, false, false, false, false, false, false, false, false, false, false]) (fuel := 46) (v := ?_) rfl (by kernel_rfl) (by kernel_rfl) (by kernel_rfl) (by kernel_rfl) (by kernel_rfl) (fun _ _ _ h => h) (by kernel_rfl) ?_ (by assumption) ?_
  rotate_left 1
  · (intro wS hSw; (try dsimp only at hSw); go_simp; try with_reducible rfl)
  try simp only [Act.put, List.setIfInBounds_toArray, List.set_cons_zero, List.set_cons_succ]
  refine rg_take (i := 5) (d := some 11) (l := #[true, true, true, false, true, true, false, false, false, false, false, false, false, false, false, false, false, false, false, false, false, false, false, false, false, false, false, false, false, false, false, false, false, false, false, false, false, false, false, false, false, false, false, false, false, false, false, false, false, false]) (fuel := 45) (v := ?_) rfl (by kernel_rfl) (by kernel_rfl) (by kernel_rfl) (by kernel_rfl) (by kernel_rfl) (fun _ _ _ h => h) (by kernel_rfl) ?_ (by assumption) ?_
  rotate_left 1
  · (intro wS hSw; (try dsimp only at hSw); go_simp; try with_reducible rfl)
  try simp only [Act.put, List.setIfInBounds_toArray, List.set_cons_zero, List.set_cons_succ]
  refine rg_take (i := 6) (d := some 12) (l := #[true, true, true, false, true, true, true, false, false, false, false, false, false, false, false, false, false, false, false, false, false, false, false, false, false, false, false, false, false, false, false, false, false, false, false, false, false, false, false, false, false, false, false, false, false, false, false, false, false, false]) (fuel := 44) (v := ?_) rfl (by kernel_rfl) (by kernel_rfl) (by kernel_rfl) (by kernel_rfl) (by kernel_rfl) (fun _ _ _ h => h) (by kernel_rfl) ?_ (by assumption) ?_
  rotate_left 1
  · (intro wS hSw; (try dsimp only at hSw); go_simp; try with_reducible rfl)
  try simp only [Act.put, List.setIfInBounds_toArray, List.set_cons_zero, List.set_cons_succ]
  refine rg_take (i := 8) (d := some 14) (l := #[true, true, true, false, true, true, true, false, true, false, false, false, false, false, false, false, false, false, false, false, false, false, false, false, false, false, false, false, false, false, false, false, false, false, false, false, false, false, false, false, false, false, false, false, false, false, false, false, false, false]) (fuel := 43) (v := ?_) rfl (by kernel_rfl) (by kernel_rfl) (by kernel_rfl) (by kernel_rfl) (by kernel_rfl) (fun _ _ _ h => h) (by kernel_rfl) ?_ (by assumption) ?_
  rotate_left 1
  · (intro wS hSw; (try dsimp only at hSw); go_simp; try with_reducible rfl)
  try simp only [Act.put, List.setIfInBounds_toArray, List.set_cons_zero, List.set_cons_succ]
  refine rg_take (i := 9) (d := some 15) (l := #[true, true, true, false, true, true, true, false, true, true, false, false, false, false, false, false, false, false, false, false, false, false, false, false, false, false, false, false, false, false, false, false, false, false, false, false, false, false, false, false, false, false, false, false, false, false, false, false, false, false]) (fuel := 42) (v := ?_) rfl (by kernel_rfl) (by kernel_rfl) (by kernel_rfl) (by kernel_rfl) (by kernel_rfl) (fun _ _ _ h => h) (by kernel_rfl) ?_ (by assumption) ?_
  rotate_left 1
  · (intro wS hSw; (try dsimp only at hSw); go_simp; try with_reducible rfl)
  try simp only [Act.put, List.setIfInBounds_toArray, List.set_cons_zero, List.set_cons_succ]
  refine rg_take (i := 10) (d := some 16) (l := #[true, true, true, false, true, true, true, false, true, true, true, false, false, false, false, false, false, false, false, false, false, false, false, false, false, false, false, false, false, false, false, false, false, false, false, false, false, false, false, false, false, false, false, false, false, false, false, false, false, false]) (fuel := 41) (v := ?_) rfl (by kernel_rfl) (by kernel_rfl) (by kernel_rfl) (by kernel_rfl) (by kernel_rfl) (fun _ _ _ h => h) (by kernel_rfl) ?_ (by assumption) ?_
  rotate_left 1
  · (intro wS hSw; (try dsimp only at hSw); go_simp; try with_reducible rfl)
  try simp only [Act.put, List.setIfInBounds_toArray, List.set_cons_zero, List.set_cons_succ]
  refine rg_take (i := 12) (d := some 18) (l := #[true, true, true, false, true, true, true, false, true, true, true, false, true, false, false, false, false, false, false, false, false, false, false, false, false, false, false, false, false, false, false, false, false, false, false, false, false, false, false, false, false, false, false, false, false, false, false, false, false, false]) (fuel := 40) (v := ?_) rfl (by kernel_rfl) (by kernel_rfl) (by kernel_rfl) (by kernel_rfl) (by kernel_rfl) (fun _ _ _ h => h) (by kernel_rfl) ?_ (by assumption) ?_
  rotate_left 1
  · (intro wS hSw; (try dsimp only at hSw); go_simp; try with_reducible rfl)
  try simp only [Act.put, List.setIfInBounds_toArray, List.set_cons_zero, List.set_cons_succ]
  refine rg_take (i := 13) (d := some 19) (l := #[true, true, true, false, true, true, true, false, true, true, true, false, true, true, false, false, false, false, false, false, false, false, false, false, false, false, false, false, false, false, false, false, false, false, false, false, false, false, false, false, false, false, false, false, false, false, false, false, false, false]) (fuel := 39) (v := ?_) rfl (by kernel_rfl) (by kernel_rfl) (by kernel_rfl) (by kernel_rfl) (by kernel_rfl) (fun _ _ _ h => h) (by kernel_rfl) ?_ (by assumption) ?_
  rotate_left 1
  · (intro wS hSw; (try dsimp only at hSw); go_simp; try with_reducible rfl)
  try simp only [Act.put, List.setIfInBounds_toArray, List.set_cons_zero, List.set_cons_succ]
  refine rg_take (i := 14) (d := some 20) (l := #[true, true, true, false, true, true, true, false, true, true, true, false, true, true, true, false, false, false, false, false, false, false, false, false, false, false, false, false, false, false, false, false, false, false, false, false, false, false, false, false, false, false, false, false, false, false, false, false, false, false]) (fuel := 38) (v := ?_) rfl (by kernel_rfl) (by kernel_rfl) (by kernel_rfl) (by kernel_rfl) (by kernel_rfl) (fun _ _ _ h => h) (by kernel_rfl) ?_ (by assumption) ?_
  rotate_left 1
  · (intro wS hSw; (try dsimp only at hSw); go_simp; try with_reducible rfl)
  try simp only [Act.put, List.setIfInBounds_toArray, List.set_cons_zero, List.set_cons_succ]
  refine rg_take (i := 16) (d := some 22) (l := #[true, true, true, false, true, true, true, false, true, true, true, false, true, true, true, false, true, false, false, false, false, false, false, false, false, false, false, false, false, false, false, false, false, false, false, false, false, false, false, false, false, false, false, false, false, false, false, false, false, false]) (fuel := 37) (v := ?_) rfl (by kernel_rfl) (by kernel_rfl) (by kernel_rfl) (by kernel_rfl) (by kernel_rfl) (fun _ _ _ h => h) (by kernel_rfl) ?_ (by assumption) ?_
  rotate_left 1
  · (intro wS hSw; (try dsimp only at hSw); go_simp; try with_reducible rfl)
  try simp only [Act.put, List.setIfInBounds_toArray, List.set_cons_zero, List.set_cons_succ]
  refine rg_take (i := 17) (d := some 23) (l := #[true, true, true, false, true, true, true, false, true, true, true, false, true, true, true, false, true, true, false, false, false, false, false, false, false, false, false, false, false, false, false, false, false, false, false, false, false, false, false, false, false, false, false, false, false, false, false, false, false, false]) (fuel := 36) (v := ?_) rfl (by kernel_rfl) (by kernel_rfl) (by kernel_rfl) (by kernel_rfl) (by kernel_rfl) (fun _ _ _ h => h) (by kernel_rfl) ?_ (by assumption) ?_
  rotate_left 1
  · (intro wS hSw; (try dsimp only at hSw); go_simp; try with_reducible rfl)
  try simp only [Act.put, List.setIfInBounds_toArray, List.set_cons_zero, List.set_cons_succ]
  refine rg_take (i := 18) (d := some 24) (l := #[true, true, true, false, true, true, true, false, true, true, true, false, true, true, true, false, true, true, true, false, false, false, false, false, false, false, false, false, false, false, false, false, false, false, false, false, false, false, false, false, false, false, false, false, false, false, false, false, false, false]) (fuel := 35) (v := ?_) rfl (by kernel_rfl) (by kernel_rfl) (by kernel_rfl) (by kernel_rfl) (by kernel_rfl) (fun _ _ _ h => h) (by kernel_rfl) ?_ (by assumption) ?_
  rotate_left 1
  · (intro wS hSw; (try dsimp only at hSw); go_simp; try with_reducible rfl)
  try simp only [Act.put, List.setIfInBounds_toArray, List.set_cons_zero, List.set_cons_succ]
  refine rg_take (i := 20) (d := some 26) (l := #[true, true, true, false, true, true, true, false, true, true, true, false, true, true, true, false, true, true, true, false, true, false, false, false, false, false, false, false, false, false, false, false, false, false, false, false, false, false, false, false, false, false, false, false, false, false, false, false, false, false]) (fuel := 34) (v := ?_) rfl (by kernel_rfl) (by kernel_rfl) (by kernel_rfl) (by kernel_rfl) (by kernel_rfl) (fun _ _ _ h => h) (by kernel_rfl) ?_ (by assumption) ?_
  rotate_left 1
  · (intro wS hSw; (try dsimp only at hSw); go_simp; try with_reducible rfl)
  try simp only [Act.put, List.setIfInBounds_toArray, List.set_cons_zero, List.set_cons_succ]
  refine rg_take (i := 21) (d := some 27) (l := #[true, true, true, false, true, true, true, false, true, true, true, false, true, true, true, false, true, true, true, false, true, true, false, false, false, false, false, false, false, false, false, false, false, false, false, false, false, false, false, false, false, false, false, false, false, false, false, false, false, false]) (fuel := 33) (v := ?_) rfl (by kernel_rfl) (by kernel_rfl) (by kernel_rfl) (by kernel_rfl) (by kernel_rfl) (fun _ _ _ h => h) (by kernel_rfl) ?_ (by assumption) ?_
  rotate_left 1
  · (intro wS hSw; (try dsimp only at hSw); go_simp; try with_reducible rfl)
  try simp only [Act.put, List.setIfInBounds_toArray, List.set_cons_zero, List.set_cons_succ]
  refine rg_take (i := 22) (d := some 28) (l := #[true, true, true, false, true, true, true, false, true, true, true, false, true, true, true, false, true, true, true, false, true, true, true, false, false, false, false, false, false, false, false, false, false, false, false, false, false, false, false, false, false, false, false, false, false, false, false, false, false, false]) (fuel := 32) (v := ?_) rfl (by kernel_rfl) (by kernel_rfl) (by kernel_rfl) (by kernel_rfl) (by kernel_rfl) (fun _ _ _ h => h) (by kernel_rfl) ?_ (by assumption) ?_
  rotate_left 1
  · (intro wS hSw; (try dsimp only at hSw); go_simp; try with_reducible rfl)
  try simp only [Act.put, List.setIfInBounds_toArray, List.set_cons_zero, List.set_cons_succ]
  refine rg_take (i := 24) (d := some 30) (l := #[true, true, true, false, true, true, true, false, true, true, true, false, true, true, true, false, true, true, true, false, true, true, true, false, true, false, false, false, false, false, false, false, false, false, false, false, false, false, false, false, false, false, false, false, false, false, false, false, false, false]) (fuel := 31) (v := ?_) rfl (by kernel_rfl) (by kernel_rfl) (by kernel_rfl) (by kernel_rfl) (by kernel_rfl) (fun _ _ _ h => h) (by kernel_rfl) ?_ (by assumption) ?_
  rotate_left 1
  · (intro wS hSw; (try dsimp only at hSw); go_simp; try with_reducible rfl)
  try simp only [Act.put, List.setIfInBounds_toArray, List.set_cons_zero, List.set_cons_succ]
  refine rg_take (i := 25) (d := some 31) (l := #[true, true, true, false, true, true, true, false, true, true, true, false, true, true, true, false, true, true, true, false, true, true, true, false, true, true, false, false, false, false, false, false, false, false, false, false, false, false, false, false, false, false, false, false, false, false, false, false, false, false]) (fuel := 30) (v := ?_) rfl (by kernel_rfl) (by kernel_rfl) (by kernel_rfl) (by kernel_rfl) (by kernel_rfl) (fun _ _ _ h => h) (by kernel_rfl) ?_ (by assumption) ?_
  rotate_left 1
  · (intro wS hSw; (try dsimp only at hSw); go_simp; try with_reducible rfl)
  try simp only [Act.put, List.setIfInBounds_toArray, List.set_cons_zero, List.set_cons_succ]
  refine rg_take (i := 26) (d := some 32) (l := #[true, true, true, false, true, true, true, false, true, true, true, false, true, true, true, false, true, true, true, false, true, true, true, false, true, true, true, false, false, false, false, false, false, false, false, false, false, false, false, false, false, false, false, false, false, false, false, false, false, false]) (fuel := 29) (v := ?_) rfl (by kernel_rfl) (by kernel_rfl) (by kernel_rfl) (by kernel_rfl) (by kernel_rfl) (fun _ _ _ h => h) (by kernel_rfl) ?_ (by assumption) ?_
  rotate_left 1
  · (intro wS hSw; (try dsimp only at hSw); go_simp; try with_reducible rfl)
  try simp only [Act.put, List.setIfInBounds_toArray, List.set_cons_zero, List.set_cons_succ]
  refine rg_take (i := 28) (d := some 34) (l := #[true, true, true, false, true, true, true, false, true, true, true, false, true, true, true, false, true, true, true, false, true, true, true, false, true, true, true, false, true, false, false, false, false, false, false, false, false, false, false, false, false, false, false, false, false, false, false, false, false, false]) (fuel := 28) (v := ?_) rfl (by kernel_rfl) (by kernel_rfl) (by kernel_rfl) (by kernel_rfl) (by kernel_rfl) (fun _ _ _ h => h) (by kernel_rfl) ?_ (by assumption) ?_
  rotate_left 1
  · (intro wS hSw; (try dsimp only at hSw); go_simp; try with_reducible rfl)
  try simp only [Act.put, List.setIfInBounds_toArray, List.set_cons_zero, List.set_cons_succ]
  refine rg_take (i := 29) (d := some 35) (l := #[true, true, true, false, true, true, true, false, true, true, true, false, true, true, true, false, true, true, true, false, true, true, true, false, true, true, true, false, true, true, false, false, false, false, false, false, false, false, false, false, false, false, false, false, false, false, false, false, false, false]) (fuel := 27) (v := ?_) rfl (by kernel_rfl) (by kernel_rfl) (by kernel_rfl) (by kernel_rfl) (by kernel_rfl) (fun _ _ _ h => h) (by kernel_rfl) ?_ (by assumption) ?_
  rotate_left 1
  · (intro wS hSw; (try dsimp only at hSw); go_simp; try with_reducible rfl)
  try simp only [Act.put, List.setIfInBounds_toArray, List.set_cons_zero, List.set_cons_succ]
  refine rg_take (i := 30) (d := some 36) (l := #[true, true, true, false, true, true, true, false, true, true, true, false, true, true, true, false, true, true, true, false, true, true, true, false, true, true, true, false, true, true, true, false, false, false, false, false, false, false, false, false, false, false, false, false, false, false, false, false, false, false]) (fuel := 26) (v := ?_) rfl (by kernel_rfl) (by kernel_rfl) (by kernel_rfl) (by kernel_rfl) (by kernel_rfl) (fun _ _ _ h => h) (by kernel_rfl) ?_ (by assumption) ?_
  rotate_left 1
  · (intro wS hSw; (try dsimp only at hSw); go_simp; try with_reducible rfl)
  try simp only [Act.put, List.setIfInBounds_toArray, List.set_cons_zero, List.set_cons_succ]
  refine rg_take (i := 32) (d := some 38) (l := #[true, true, true, false, true, true, true, false, true, true, true, false, true, true, true, false, true, true, true, false, true, true, true, false, true, true, true, false, true, true, true, false, true, false, false, false, false, false, false, false, false, false, false, false, false, false, false, false, false, false]) (fuel := 25) (v := ?_) rfl (by kernel_rfl) (by kernel_rfl) (by kernel_rfl) (by kernel_rfl) (by kernel_rfl) (fun _ _ _ h => h) (by kernel_rfl) ?_ (by assumption) ?_
  rotate_left 1
  · (intro wS hSw; (try dsimp only at hSw); go_simp; try with_reducible rfl)
  try simp only [Act.put, List.setIfInBounds_toArray, List.set_cons_zero, List.set_cons_succ]
  refine rg_take (i := 33) (d := some 39) (l := #[true, true, true, false, true, true, true, false, true, true, true, false, true, true, true, false, true, true, true, false, true, true, true, false, true, true, true, false, true, true, true, false, true, true, false, false, false, false, false, false, false, false, false, false, false, false, false, false, false, false]) (fuel := 24) (v := ?_) rfl (by kernel_rfl) (by kernel_rfl) (by kernel_rfl) (by kernel_rfl) (by kernel_rfl) (fun _ _ _ h => h) (by kernel_rfl) ?_ (by assumption) ?_
  rotate_left 1
  · (intro wS hSw; (try dsimp only at hSw); go_simp; try with_reducible rfl)
  try simp only [Act.put, List.setIfInBounds_toArray, List.set_cons_zero, List.set_cons_succ]
  refine rg_take (i := 34) (d := some 40) (l := #[true, true, true, false, true, true, true, false, true, true, true, false, true, true, true, false, true, true, true, false, true, true, true, false, true, true, true, false, true, true, true, false, true, true, true, false, false, false, false, false, false, false, false, false, false, false, false, false, false, false]) (fuel := 23) (v := ?_) rfl (by kernel_rfl) (by kernel_rfl) (by kernel_rfl) (by kernel_rfl) (by kernel_rfl) (fun _ _ _ h => h) (by kernel_rfl) ?_ (by assumption) ?_
  rotate_left 1
  · (intro wS hSw; (try dsimp only at hSw); go_simp; try with_reducible rfl)
  try simp only [Act.put, List.setIfInBounds_toArray, List.set_cons_zero, List.set_cons_succ]
  refine rg_take (i := 36) (d := some 42) (l := #[true, true, true, false, true, true, true, false, true, true, true, false, true, true, true, false, true, true, true, false, true, true, true, false, true, true, true, false, true, true, true, false, true, true, true, false, true, false, false, false, false, false, false, false, false, false, false, false, false, false]) (fuel := 22) (v := ?_) rfl (by kernel_rfl) (by kernel_rfl) (by kernel_rfl) (by kernel_rfl) (by kernel_rfl) (fun _ _ _ h => h) (by kernel_rfl) ?_ (by assumption) ?_
  rotate_left 1
  · (intro wS hSw; (try dsimp only at hSw); go_simp; try with_reducible rfl)
  try simp only [Act.put, List.setIfInBounds_toArray, List.set_cons_zero, List.set_cons_succ]
  refine rg_take (i := 37) (d := some 43) (l := #[true, true, true, false, true, true, true, false, true, true, true, false, true, true, true, false, true, true, true, false, true, true, true, false, true, true, true, false, true, true, true, false, true, true, true, false, true, true, false, false, false, false, false, false, false, false, false, false, false, false]) (fuel := 21) (v := ?_) rfl (by kernel_rfl) (by kernel_rfl) (by kernel_rfl) (by kernel_rfl) (by kernel_rfl) (fun _ _ _ h => h) (by kernel_rfl) ?_ (by assumption) ?_
  rotate_left 1
  · (intro wS hSw; (try dsimp only at hSw); go_simp; try with_reducible rfl)
  try simp only [Act.put, List.setIfInBounds_toArray, List.set_cons_zero, List.set_cons_succ]
  refine rg_take (i := 38) (d := some 44) (l := #[true, true, true, false, true, true, true, false, true, true, true, false, true, true, true, false, true, true, true, false, true, true, true, false, true, true, true, false, true, true, true, false, true, true, true, false, true, true, true, false, false, false, false, false, false, false, false, false, false, false]) (fuel := 20) (v := ?_) rfl (by kernel_rfl) (by kernel_rfl) (by kernel_rfl) (by kernel_rfl) (by kernel_rfl) (fun _ _ _ h => h) (by kernel_rfl) ?_ (by assumption) ?_
  rotate_left 1
  · (intro wS hSw; (try dsimp only at hSw); go_simp; try with_reducible rfl)
  try simp only [Act.put, List.setIfInBounds_toArray, List.set_cons_zero, List.set_cons_succ]
  refine rg_take (i := 40) (d := some 46) (l := #[true, true, true, false, true, true, true, false, true, true, true, false, true, true, true, false, true, true, true, false, true, true, true, false, true, true, true, false, true, true, true, false, true, true, true, false, true, true, true, false, true, false, false, false, false, false, false, false, false, false]) (fuel := 19) (v := ?_) rfl (by kernel_rfl) (by kernel_rfl) (by kernel_rfl) (by kernel_rfl) (by kernel_rfl) (fun _ _ _ h => h) (by kernel_rfl) ?_ (by assumption) ?_
  rotate_left 1
  · (intro wS hSw; (try dsimp only at hSw); go_simp; try with_reducible rfl)
  try simp only [Act.put, List.setIfInBounds_toArray, List.set_cons_zero, List.set_cons_succ]
  refine rg_take (i := 41) (d := some 47) (l := #[true, true, true, false, true, true, true, false, true, true, true, false, true, true, true, false, true, true, true, false, true, true, true, false, true, true, true, false, true, true, true, false, true, true, true, false, true, true, true, false, true, true, false, false, false, false, false, false, false, false]) (fuel := 18) (v := ?_) rfl (by kernel_rfl) (by kernel_rfl) (by kernel_rfl) (by kernel_rfl) (by kernel_rfl) (fun _ _ _ h => h) (by kernel_rfl) ?_ (by assumption) ?_
  rotate_left 1
  · (intro wS hSw; (try dsimp only at hSw); go_simp; try with_reducible rfl)
  try simp only [Act.put, List.setIfInBounds_toArray, List.set_cons_zero, List.set_cons_succ]
  refine rg_take (i := 42) (d := some 48) (l := #[true, true, true, false, true, true, true, false, true, true, true, false, true, true, true, false, true, true, true, false, true, true, true, false, true, true, true, false, true, true, true, false, true, true, true, false, true, true, true, false, true, true, true, false, false, false, false, false, false, false]) (fuel := 17) (v := ?_) rfl (by kernel_rfl) (by kernel_rfl) (by kernel_rfl) (by kernel_rfl) (by kernel_rfl) (fun _ _ _ h => h) (by kernel_rfl) ?_ (by assumption) ?_
  rotate_left 1
  · (intro wS hSw; (try dsimp only at hSw); go_simp; try with_reducible rfl)
  try simp only [Act.put, List.setIfInBounds_toArray, List.set_cons_zero, List.set_cons_succ]
  refine rg_take (i := 44) (d := some 50) (l := #[true, true, true, false, true, true, true, false, true, true, true, false, true, true, true, false, true, true, true, false, true, true, true, false, true, true, true, false, true, true, true, false, true, true, true, false, true, true, true, false, true, true, true, false, true, false, false, false, false, false]) (fuel := 16) (v := ?_) rfl (by kernel_rfl) (by kernel_rfl) (by kernel_rfl) (by kernel_rfl) (by kernel_rfl) (fun _ _ _ h => h) (by kernel_rfl) ?_ (by assumption) ?_
  rotate_left 1
  · (intro wS hSw; (try dsimp only at hSw); go_simp; try with_reducible rfl)
  try simp only [Act.put, List.setIfInBounds_toArray, List.set_cons_zero, List.set_cons_succ]
  refine rg_take (i := 45) (d := some 51) (l := #[true, true, true, false, true, true, true, false, true, true, true, false, true, true, true, false, true, true, true, false, true, true, true, false, true, true, true, false, true, true, true, false, true, true, true, false, true, true, true, false, true, true, true, false, true, true, false, false, false, false]) (fuel := 15) (v := ?_) rfl (by kernel_rfl) (by kernel_rfl) (by kernel_rfl) (by kernel_rfl) (by kernel_rfl) (fun _ _ _ h => h) (by kernel_rfl) ?_ (by assumption) ?_
  rotate_left 1
  · (intro wS hSw; (try dsimp only at hSw); go_simp; try with_reducible rfl)
  try simp only [Act.put, List.setIfInBounds_toArray, List.set_cons_zero, List.set_cons_succ]
  refine rg_take (i := 46) (d := some 52) (l := #[true, true, true, false, true, true, true, false, true, true, true, false, true, true, true, false, true, true, true, false, true, true, true, false, true, true, true, false, true, true, true, false, true, true, true, false, true, true, true, false, true, true, true, false, true, true, true, false, false, false]) (fuel := 14) (v := ?_) rfl (by kernel_rfl) (by kernel_rfl) (by kernel_rfl) (by kernel_rfl) (by kernel_rfl) (fun _ _ _ h => h) (by kernel_rfl) ?_ (by assumption) ?_
  rotate_left 1
  · (intro wS hSw; (try dsimp only at hSw); go_simp; try with_reducible rfl)
  try simp only [Act.put, List.setIfInBounds_toArray, List.set_cons_zero, List.set_cons_succ]
  refine rg_next (i := 3) (l := #[true, true, true, true, true, true, true, false, true, true, true, false, true, true, true, false, true, true, true, false, true, true, true, false, true, true, true, false, true, true, true, false, true, true, true, false, true, true, true, false, true, true, true, false, true, true, true, false, false, false]) (fuel := 13) (by kernel_rfl) rfl (by kernel_rfl) (by kernel_rfl) (fun K hK => ?_)
  go_simp
  (go_at_call 39)
  refine (pvalue_any H.out.lat.1).mono ?_
  rintro e w' ⟨rfl, rfl⟩
  first | (refine hK.out _ _ ?_ (fun hHeld => ?_)) | (go_wp2_with fail; refine hK.out _ _ ?_ (fun hHeld => ?_))
  · (try dsimp only); try exact trivial
  clear hK K
  try simp only [Act.put, List.setIfInBounds_toArray, List.set_cons_zero, List.set_cons_succ]
  refine rg_next (i := 7) (l := #[true, true, true, true, true, true, true, true, true, true, true, false, true, true, true, false, true, true, true, false, true, true, true, false, true, true, true, false, true, true, true, false, true, true, true, false, true, true, true, false, true, true, true, false, true, true, true, false, false, false]) (fuel := 12) (by kernel_rfl) rfl (by kernel_rfl) (by kernel_rfl) (fun K hK => ?_)
  go_simp
  (go_at_call 47)
  obtain ⟨cs, q1, q2⟩ := H.out.tmr
  refine (treload_any q1).mono ?_
  rintro e w' ⟨rfl, rfl⟩
  clear q1 q2 cs
  first | (refine hK.out _ _ ?_ (fun hHeld => ?_)) | (go_wp2_with fail; refine hK.out _ _ ?_ (fun hHeld => ?_))
  · (try dsimp only); try exact trivial
  clear hK K
  try simp only [Act.put, List.setIfInBounds_toArray, List.set_cons_zero, List.set_cons_succ]
  refine rg_next (i := 11) (l := #[true, true, true, true, true, true, true, true, true, true, true, true, true, true, true, false, true, true, true, false, true, true, true, false, true, true, true, false, true, true, true, false, true, true, true, false, true, true, true, false, true, true, true, false, true, true, true, false, false, false]) (fuel := 11) (by kernel_rfl) rfl (by kernel_rfl) (by kernel_rfl) (fun K hK => ?_)
  go_simp
  (go_at_call 48)
  obtain ⟨cs, q1, q2⟩ := H.out.tmr
  refine (tcounter_any q1).mono ?_
  rintro e w' ⟨rfl, rfl⟩
  clear q1 q2 cs
  first | (refine hK.out _ _ ?_ (fun hHeld => ?_)) | (go_wp2_with fail; refine hK.out _ _ ?_ (fun hHeld => ?_))
  · (try dsimp only); try exact trivial
  clear hK K
  try simp only [Act.put, List.setIfInBounds_toArray, List.set_cons_zero, List.set_cons_succ]
  refine rg_next (i := 15) (l := #[true, true, true, true, true, true, true, true, true, true, true, true, true, true, true, true, true, true, true, false, true, true, true, false, true, true, true, false, true, true, true, false, true, true, true, false, true, true, true, false, true, true, true, false, true, true, true, false, false, false]) (fuel := 10) (by kernel_rfl) rfl (by kernel_rfl) (by kernel_rfl) (fun K hK => ?_)
  go_simp
  (go_at_call 49)
  obtain ⟨cs, q1, q2⟩ := H.out.irq
  refine (qdisable_any q1).mono ?_
  rintro e w' ⟨rfl, rfl⟩
  clear q1 q2 cs
  first | (refine hK.out _ _ ?_ (fun hHeld => ?_)) | (go_wp2_with fail; refine hK.out _ _ ?_ (fun hHeld => ?_))
  · (try dsimp only); try exact trivial
  clear hK K
  try simp only [Act.put, List.setIfInBounds_toArray, List.set_cons_zero, List.set_cons_succ]
  refine rg_next (i := 19) (l := #[true, true, true, true, true, true, true, true, true, true, true, true, true, true, true, true, true, true, true, true, true, true, true, false, true, true, true, false, true, true, true, false, true, true, true, false, true, true, true, false, true, true, true, false, true, true, true, false, false, false]) (fuel := 9) (by kernel_rfl) rfl (by kernel_rfl) (by kernel_rfl) (fun K hK => ?_)
  go_simp
  (go_at_call 50)
  obtain ⟨cs, q1, q2⟩ := H.out.prt
  refine (pselect_any q1).mono ?_
  rintro e w' ⟨rfl, rfl⟩
  clear q1 q2 cs
  first | (refine hK.out _ _ ?_ (fun hHeld => ?_)) | (go_wp2_with fail; refine hK.out _ _ ?_ (fun hHeld => ?_))
  · (try dsimp only); try exact trivial
  clear hK K
  try simp only [Act.put, List.setIfInBounds_toArray, List.set_cons_zero, List.set_cons_succ]
  refine rg_next (i := 23) (l := #[true, true, true, true, true, true, true, true, true, true, true, true, true, true, true, true, true, true, true, true, true, true, true, true, true, true, true, false, true, true, true, false, true, true, true, false, true, true, true, false, true, true, true, false, true, true, true, false, false, false]) (fuel := 8) (by kernel_rfl) rfl (by kernel_rfl) (by kernel_rfl) (fun K hK => ?_)
  go_simp
  (go_at_call 51)
  obtain ⟨cs, q1, q2⟩ := H.out.tmr
  refine (tleft_any q1).mono ?_
  rw [HLEFT.out]
  rintro e w' ⟨rfl, rfl⟩
  clear q1 q2 cs
  first | (refine hK.out _ _ ?_ (fun hHeld => ?_)) | (go_wp2_with fail; refine hK.out _ _ ?_ (fun hHeld => ?_))
  · (try dsimp only); try exact trivial
  clear hK K
  try simp only [Act.put, List.setIfInBounds_toArray, List.set_cons_zero, List.set_cons_succ]
  refine rg_next (i := 27) (l := #[true, true, true, true, true, true, true, true, true, true, true, true, true, true, true, true, true, true, true, true, true, true, true, true, true, true, true, true, true, true, true, false, true, true, true, false, true, true, true, false, true, true, true, false, true, true, true, false, false, false]) (fuel := 7) (by kernel_rfl) rfl (by kernel_rfl) (by kernel_rfl) (fun K hK => ?_)
  go_simp
  (go_at_call 52)
  obtain ⟨cs, q1, q2⟩ := H.out.tmr
  refine (ton_any q1).mono ?_
  rintro e w' ⟨rfl, rfl⟩
  clear q1 q2 cs
  first | (refine hK.out _ _ ?_ (fun hHeld => ?_)) | (go_wp2_with fail; refine hK.out _ _ ?_ (fun hHeld => ?_))
  · (try dsimp only); try exact trivial
  clear hK K
  try simp only [Act.put, List.setIfInBounds_toArray, List.set_cons_zero, List.set_cons_succ]
  refine rg_next (i := 31) (l := #[true, true, true, true, true, true, true, true, true, true, true, true, true, true, true, true, true, true, true, true, true, true, true, true, true, true, true, true, true, true, true, true, true, true, true, false, true, true, true, false, true, true, true, false, true, true, true, false, false, false]) (fuel := 6) (by kernel_rfl) rfl (by kernel_rfl) (by kernel_rfl) (fun K hK => ?_)
  go_simp
  (go_at_call 53)
  obtain ⟨cs, q1, q2⟩ := H.out.irq
  refine (qdue_any q1).mono ?_
  rintro e w' ⟨rfl, rfl⟩
  clear q1 q2 cs
  first | (refine hK.out _ _ ?_ (fun hHeld => ?_)) | (go_wp2_with fail; refine hK.out _ _ ?_ (fun hHeld => ?_))
  · (try dsimp only); try exact trivial
  clear hK K
  try simp only [Act.put, List.setIfInBounds_toArray, List.set_cons_zero, List.set_cons_succ]
  refine rg_next (i := 35) (l := #[true, true, true, true, true, true, true, true, true, true, true, true, true, true, true, true, true, true, true, true, true, true, true, true, true, true, true, true, true, true, true, true, true, true, true, true, true, true, true, false, true, true, true, false, true, true, true, false, false, false]) (fuel := 5) (by kernel_rfl) rfl (by kernel_rfl) (by kernel_rfl) (fun K hK => ?_)
  go_simp
  (go_at_call 54)
  refine (hrose_any H.out.lns.1).mono ?_
  rintro e w' ⟨rfl, rfl⟩
  first | (refine hK.out _ _ ?_ (fun hHeld => ?_)) | (go_wp2_with fail; refine hK.out _ _ ?_ (fun hHeld => ?_))
  · (try dsimp only); try exact trivial
  clear hK K
  try simp only [Act.put, List.setIfInBounds_toArray, List.set_cons_zero, List.set_cons_succ]
  refine rg_next (i := 39) (l := #[true, true, true, true, true, true, true, true, true, true, true, true, true, true, true, true, true, true, true, true, true, true, true, true, true, true, true, true, true, true, true, true, true, true, true, true, true, true, true, true, true, true, true, false, true, true, true, false, false, false]) (fuel := 4) (by kernel_rfl) rfl (by kernel_rfl) (by kernel_rfl) (fun K hK => ?_)
  go_simp
  (go_at_call 55)
  obtain ⟨cs, q1, q2⟩ := H.out.fdv
  refine (fptaken_any q1).mono ?_
  rintro e w' ⟨rfl, rfl⟩
  clear q1 q2 cs
  first | (refine hK.out _ _ ?_ (fun hHeld => ?_)) | (go_wp2_with fail; refine hK.out _ _ ?_ (fun hHeld => ?_))
  · (try dsimp only); try exact trivial
  clear hK K
  try simp only [Act.put, List.setIfInBounds_toArray, List.set_cons_zero, List.set_cons_succ]
  refine rg_next (i := 43) (l := #[true, true, true, true, true, true, true, true, true, true, true, true, true, true, true, true, true, true, true, true, true, true, true, true, true, true, true, true, true, true, true, true, true, true, true, true, true, true, true, true, true, true, true, true, true, true, true, false, false, false]) (fuel := 3) (by kernel_rfl) rfl (by kernel_rfl) (by kernel_rfl) (fun K hK => ?_)
  go_simp
  (go_at_call 55)
  obtain ⟨cs, q1, q2⟩ := H.out.fdc
  refine (fptaken_any q1).mono ?_
  rintro e w' ⟨rfl, rfl⟩
  clear q1 q2 cs
  first | (refine hK.out _ _ ?_ (fun hHeld => ?_)) | (go_wp2_with fail; refine hK.out _ _ ?_ (fun hHeld => ?_))
  · (try dsimp only); try exact trivial
  clear hK K
  try simp only [Act.put, List.setIfInBounds_toArray, List.set_cons_zero, List.set_cons_succ]
  refine rg_next (i := 47) (l := #[true, true, true, true, true, true, true, true, true, true, true, true, true, true, true, true, true, true, true, true, true, true, true, true, true, true, true, true, true, true, true, true, true, true, true, true, true, true, true, true, true, true, true, true, true, true, true, true, false, false]) (fuel := 2) (by kernel_rfl) rfl (by kernel_rfl) (by kernel_rfl) (fun K hK => ?_)
  go_simp
  (go_at_call 56)
  obtain ⟨cs, q1, q2⟩ := H.out.prt
  refine (ptaken_any q1).mono ?_
  rintro e w' ⟨rfl, rfl⟩
  clear q1 q2 cs
  first | (refine hK.out _ _ ?_ (fun hHeld => ?_)) | (go_wp2_with fail; refine hK.out _ _ ?_ (fun hHeld => ?_))
  · (try dsimp only); try exact trivial
  clear hK K
  try simp only [Act.put, List.setIfInBounds_toArray, List.set_cons_zero, List.set_cons_succ]
  refine rg_take (i := 48) (d := some 54) (l := #[true, true, true, true, true, true, true, true, true, true, true, true, true, true, true, true, true, true, true, true, true, true, true, true, true, true, true, true, true, true, true, true, true, true, true, true, true, true, true, true, true, true, true, true, true, true, true, true, true, false]) (fuel := 1) (v := ?_) rfl (by kernel_rfl) (by kernel_rfl) (by kernel_rfl) (by kernel_rfl) (by kernel_rfl) (fun _ _ _ h => h) (by kernel_rfl) ?_ (by assumption) ?_
  rotate_left 1
  · (intro wS hSw; (try dsimp only at hSw); go_simp; try with_reducible rfl)
  try simp only [Act.put, List.setIfInBounds_toArray, List.set_cons_zero, List.set_cons_succ]
  obtain ⟨r, hr⟩ : ∃ r, w.heap.size = r := ⟨_, rfl⟩
  have HW : Hid (r = w.heap.size) := Lib.hid hr.symm
  rw [hr] at HL
  simp only [hr]
  clear hr
  have f0 := HL.out.frozen 0
  have f1 := HL.out.frozen 1
  have f2 := HL.out.frozen 2
  have f3 := HL.out.frozen 3
  have f4 := HL.out.frozen 4
  have f5 := HL.out.frozen 5
  have f6 := HL.out.frozen 6
  have f7 := HL.out.frozen 7
  have f8 := HL.out.frozen 8
  have f9 := HL.out.frozen 9
  have f10 := HL.out.frozen 10
  have f11 := HL.out.frozen 11
  have e0 : w0.cell? ⟨r, 0, none⟩ = some (.int .u8 0) := HL.out.cell 0
  have e1 : w0.cell? ⟨r, 1, none⟩ = some (.int .u8 0) := HL.out.cell 1
  have e2 : w0.cell? ⟨r, 2, none⟩ = some (.int .u8 0) := HL.out.cell 2
  have e3 : w0.cell? ⟨r, 3, none⟩ = some (.int .u8 0) := HL.out.cell 3
  have e4 : w0.cell? ⟨r, 4, none⟩ = some (.int .u8 0) := HL.out.cell 4
  have e5 : w0.cell? ⟨r, 5, none⟩ = some (.int .i64 0) := HL.out.cell 5
  have e6 : w0.cell? ⟨r, 6, none⟩ = some (.bool false) := HL.out.cell 6
  have e7 : w0.cell? ⟨r, 7, none⟩ = some (.bool false) := HL.out.cell 7
  have e8 : w0.cell? ⟨r, 8, none⟩ = some (.bool false) := HL.out.cell 8
  have e9 : w0.cell? ⟨r, 9, none⟩ = some (.int .i64 0) := HL.out.cell 9
  have e10 : w0.cell? ⟨r, 10, none⟩ = some (.int .i64 0) := HL.out.cell 10
  have e11 : w0.cell? ⟨r, 11, none⟩ = some (.int .i64 0) := HL.out.cell 11
  refine rg_next (i := 49) (l := #[true, true, true, true, true, true, true, true, true, true, true, true, true, true, true, true, true, true, true, true, true, true, true, true, true, true, true, true, true, true, true, true, true, true, true, true, true, true, true, true, true, true, true, true, true, true, true, true, true, true]) (fuel := 0) (by kernel_rfl) rfl (by kernel_rfl) (by kernel_rfl) (fun K hK => ?_)
  go_simp
  skip
  first | (refine hK.out _ _ ?_ (fun hHeld => ?_)) | (go_wp2_with fail; refine hK.out _ _ ?_ (fun hHeld => ?_))
  · (try dsimp only); try exact trivial
  clear hK K
  try simp only [Act.put, List.setIfInBounds_toArray, List.set_cons_zero, List.set_cons_succ]
  refine wpAnyH_done (by kernel_rfl) ?_ _
  clear f0 f1 f2 f3 f4 f5 f6 f7 f8 f9 f10 f11 e0 e1 e2 e3 e4 e5 e6 e7 e8 e9 e10 e11 hHeld
  have NB := ((((((((((((HL.out.set_ 0 (.int .u8 x.buf)).set_ 1 (.int .u8 x.tm.r)).set_ 2 (.int .u8 x.tm.c)).set_ 3 (.int .u8 x.q.d)).set_ 4 (.int .u8 x.pt.l)).set_ 5 (.int .i64 left)).set_ 6 (.bool x.tm.on)).set_ 7 (.bool x.q.due)).set_ 8 (.bool x.ro)).set_ 9 (.int .i64 x.tv)).set_ 10 (.int .i64 x.tc)).set_ 11 (.int .i64 x.tp))
  have KB := (((((((((((((Kp.refl [r] w0).setCell (p := ⟨r, 0, none⟩) (.inl (by simp)) (.int .u8 x.buf)).setCell (p := ⟨r, 1, none⟩) (.inl (by simp)) (.int .u8 x.tm.r)).setCell (p := ⟨r, 2, none⟩) (.inl (by simp)) (.int .u8 x.tm.c)).setCell (p := ⟨r, 3, none⟩) (.inl (by simp)) (.int .u8 x.q.d)).setCell (p := ⟨r, 4, none⟩) (.inl (by simp)) (.int .u8 x.pt.l)).setCell (p := ⟨r, 5, none⟩) (.inl (by simp)) (.int .i64 left)).setCell (p := ⟨r, 6, none⟩) (.inl (by simp)) (.bool x.tm.on)).setCell (p := ⟨r, 7, none⟩) (.inl (by simp)) (.bool x.q.due)).setCell (p := ⟨r, 8, none⟩) (.inl (by simp)) (.bool x.ro)).setCell (p := ⟨r, 9, none⟩) (.inl (by simp)) (.int .i64 x.tv)).setCell (p := ⟨r, 10, none⟩) (.inl (by simp)) (.int .i64 x.tc)).setCell (p := ⟨r, 11, none⟩) (.inl (by simp)) (.int .i64 x.tp))
  simp only [List.setIfInBounds_toArray, List.set_cons_zero, List.set_cons_succ] at NB
  generalize World.setCell (World.setCell _ _ _) _ _ = wz at *
  have NZ := Lib.hid NB
  have KZ := Lib.hid KB
  have z0 : wz.cell? ⟨r, 0, none⟩ = some (.int .u8 x.buf) := NB.cell 0
  have z1 : wz.cell? ⟨r, 1, none⟩ = some (.int .u8 x.tm.r) := NB.cell 1
  have z2 : wz.cell? ⟨r, 2, none⟩ = some (.int .u8 x.tm.c) := NB.cell 2
  have z3 : wz.cell? ⟨r, 3, none⟩ = some (.int .u8 x.q.d) := NB.cell 3
  have z4 : wz.cell? ⟨r, 4, none⟩ = some (.int .u8 x.pt.l) := NB.cell 4
  have z5 : wz.cell? ⟨r, 5, none⟩ = some (.int .i64 left) := NB.cell 5
  have z6 : wz.cell? ⟨r, 6, none⟩ = some (.bool x.tm.on) := NB.cell 6
  have z7 : wz.cell? ⟨r, 7, none⟩ = some (.bool x.q.due) := NB.cell 7
  have z8 : wz.cell? ⟨r, 8, none⟩ = some (.bool x.ro) := NB.cell 8
  have z9 : wz.cell? ⟨r, 9, none⟩ = some (.int .i64 x.tv) := NB.cell 9
  have z10 : wz.cell? ⟨r, 10, none⟩ = some (.int .i64 x.tc) := NB.cell 10
  have z11 : wz.cell? ⟨r, 11, none⟩ = some (.int .i64 x.tp) := NB.cell 11
  clear NB KB
  go_wp2_with fail
  have e0 : (.agg (stC x) : Value) = .agg #[.int .u8 x.buf, .int .u8 x.tm.r, .int .u8 x.tm.c, .int .u8 x.q.d, .int .u8 x.pt.l, .int .i64 left, .bool x.tm.on, .bool x.q.due, .bool x.ro, .int .i64 x.tv, .int .i64 x.tc, .int .i64 x.tp] := by unfold stC; rw [HLEFT.out]
  refine bodyPost_ret (v := .agg (stC x)) (by rw [e0]; simp [results, Tryz.results13, go_sem, z0, z1, z2, z3, z4, z5, z6, z7, z8, z9, z10, z11]) rfl ?_
  have hr : w.heap.size ≤ r := by rw [HW.out]; exact Nat.le_refl _
  exact ⟨rfl, (KZ.out.onto HB.out HB.out.size (by simpa using hr)).drew⟩
end
end Go.Proofs.YtcnjekballnncaaGreat
