/-
  Texts of these proofs, one behind the other: Hard6, Phys2, Hard4.
-/
import Derived.Test.YtccimkmlbcgekaaGreatKA26
import Derived.Test.YtccimkmlbcgekaaGreatKA08
namespace Go.Proofs.YtccimkmlbcgekaaGreat
open Go.RowKit
set_option linter.unusedVariables false
set_option linter.unusedSimpArgs false
set_option maxRecDepth 100000
/-- All registers. -/
def stC (x : Hp) : Array Value := #[.int .u8 x.buf, .int .u8 x.tm.r, .int .u8 x.tm.c, .int .u8 x.q.d, .int .u8 x.pt.l, .int .i64 (3072 - (x.tm.gone : Int)), .bool x.tm.on, .bool x.q.due, .bool x.ro, .int .i64 x.tv, .int .i64 x.tc, .int .i64 x.tp]
section
variable {w : World} {g : Nat} {d : Hd} {b : Hb} {x : Hp}
set_option maxHeartbeats 8000000 in
theorem hstatus_any (h : HP w g d b x) :
    Calls Tryz.prog 94 #[.pointer (some ⟨g, 0, none⟩)] w fun e w' => e = .returned (.agg (stC x)) ∧ Below w.heap.size w w' := by
  have hb0 : Below w.heap.size w (w.alloc (.cells #[.int .u8 0, .int .u8 0, .int .u8 0, .int .u8 0, .int .u8 0, .int .i64 0, .bool false, .bool false, .bool false, .int .i64 0, .int .i64 0, .int .i64 0] 81)) := (Below.refl _ _).alloc (Nat.le_refl _) _
  have H := Lib.hid ((h.keep hb0).kp0 (Kp.refl _ _).drew)
  have HB := Lib.hid hb0
  have hbl := Blk.new w 81 #[.int .u8 0, .int .u8 0, .int .u8 0, .int .u8 0, .int .u8 0, .int .i64 0, .bool false, .bool false, .bool false, .int .i64 0, .int .i64 0, .int .i64 0]
  have HL := Lib.hid hbl
  obtain ⟨left, hleft⟩ : ∃ l, 3072 - (x.tm.gone : Int) = l := ⟨_, rfl⟩
  have HLEFT := Lib.hid hleft
  clear h hb0 hbl hleft
  go_enter Tryz.func94, Tryz.ntmps94
  go_wp2_with fail
  generalize World.alloc _ _ = w0 at *
  refine rg_begin (S := fun w' => True) 50 #[false, false, false, false, false, false, false, false, false, false, false, false, false, false, false, false, false, false, false, false, false, false, false, false, false, false, false, false, false, false, false, false, false, false, false, false, false, false, false, false, false, false, false, false, false, false, false, false, false, false] (by kernel_rfl) (by kernel_rfl) (by kernel_rfl) ?_ (fun hHeld => ?_)
  · exact trivial
  refine rg_take (i := 0) (d := some 6) (l := #[true, false, false, false, false, false, false, false, false, false, false, false, false, false, false, false, false, false, false, false, false, false, false, false, false, false, false, false, false, false, false, false, false, false, false, false, false, false, false, false, false, false, false, false, false, false, false, false, false, false]) (fuel := 49) (v := ?_) rfl (by kernel_rfl) (by kernel_rfl) (by kernel_rfl) (by kernel_rfl) (by kernel_rfl) (fun _ _ _ h => h) (by kernel_rfl) ?_ (by assumption) ?_
  rotate_left 1
  · (intro wS hSw; (try dsimp only at hSw); go_simp; try with_reducible rfl)
  try simp only [Act.put, List.setIfInBounds_toArray, List.set_cons_zero, List.set_cons_succ]
  refine rg_take (i := 1) (d := some 7) (l := #[true, true, false, false, false, false, false, false, false, false, false, false, false, false, false, false, false, false, false, false, false, false, false, false, false, false, false, false, false, false, false, false, false, false, false, false, false, false, false, false, false, false, false, false, false, false, false, false, false, false]) (fuel := 48) (v := ?_) rfl (by kernel_rfl) (by kernel_rfl) (by kernel_rfl) (by kernel_rfl) (by kernel_rfl) (fun _ _ _ h => h) (by kernel_rfl) ?_ (by assumption) ?_
  rotate_left 1
  · (intro wS hSw; (try dsimp only at hSw); go_simp; try with_reducible rfl)
  try simp only [Act.put, List.setIfInBounds_toArray, List.set_cons_zero, List.set_cons_succ]
  refine rg_take (i := 2) (d := some 8) (l := #[true, true, true, false, false, false, false, false, false, false, false, false, false, false, false, false, false, false, false, false, false, false, false, false, false, false, false, false, false, false, false, false, false, false, false, false, false, false, false, false, false, false, false, false, false, false, false, false, false, false]) (fuel := 47) (v := ?_) rfl (by kernel_rfl) (by kernel_rfl) (by kernel_rfl) (by kernel_rfl) (by kernel_rfl) (fun _ _ _ h => h) (by kernel_rfl) ?_ (by assumption) ?_
  rotate_left 1
  · (intro wS hSw; (try dsimp only at hSw); go_simp; try with_reducible rfl)
  try simp only [Act.put, List.setIfInBounds_toArray, List.set_cons_zero, List.set_cons_succ]
  refine rg_take (i := 4) (d := some 10) (l := #[true, true, true, false, true, false, false, false, false, false, false, false, false, false, false, false, false, false, false, false, false, false, false, false, false, false, false, false, false, false, false, false, false, false, false, false, false, false, false, false, false, false, false, false, false, false, false, false, false, false]) (fuel := 46) (v := ?_) rfl (by kernel_rfl) (by kernel_rfl) (by kernel_rfl) (by kernel_rfl) (by kernel_rfl) (fun _ _ _ h => h) (by kernel_rfl) ?_ (by assumption) ?_
  rotate_left 1
  · (intro wS hSw; (try dsimp only at hSw); go_simp; try with_reducible rfl)
  try simp only [Act.put, List.setIfInBounds_toArray, List.set_cons_zero, List.set_cons_succ]
  refine rg_take (i := 5) (d := some 11) (l := #[true, true, true, false, true, true, false, false, false, false, false, false, false, false, false, false, false, false, false, false, false, false, false, false, false, false, false, false, false, false, false, false, false, false, false, false, false, false, false, false, false, false, false, false, false, false, false, false, false, false]) (fuel := 45) (v := ?_) rfl (by kernel_rfl) (by kernel_rfl) (by kernel_rfl) (by kernel_rfl) (by kernel_rfl) (fun _ _ _ h => h) (by kernel_rfl) ?_ (by assumption) ?_
  rotate_left 1
  · (intro wS hSw; (try dsimp only at hSw); go_simp; try with_reducible rfl)
  try simp only [Act.put, List.setIfInBounds_toArray, List.set_cons_zero, List.set_cons_succ]
  refine rg_take (i := 6) (d := some 12) (l := #[true, true, true, false, true, true, true, false, false, false, false, false, false, false, false, false, false, false, false, false, false, false, false, false, false, false, false, false, false, false, false, false, false, false, false, false, false, false, false, false, false, false, false, false, false, false, false, false, false, false]) (fuel := 44) (v := ?_) rfl (by kernel_rfl) (by kernel_rfl) (by kernel_rfl) (by kernel_rfl) (by kernel_rfl) (fun _ _ _ h => h) (by kernel_rfl) ?_ (by assumption) ?_
  rotate_left 1
  · (intro wS hSw; (try dsimp only at hSw); go_simp; try with_reducible rfl)
  try simp only [Act.put, List.setIfInBounds_toArray, List.set_cons_zero, List.set_cons_succ]
  refine rg_take (i := 8) (d := some 14) (l := #[true, true, true, false, true, true, true, false, true, false, false, false, false, false, false, false, false, false, false, false, false, false, false, false, false, false, false, false, false, false, false, false, false, false, false, false, false, false, false, false, false, false, false, false, false, false, false, false, false, false]) (fuel := 43) (v := ?_) rfl (by kernel_rfl) (by kernel_rfl) (by kernel_rfl) (by kernel_rfl) (by kernel_rfl) (fun _ _ _ h => h) (by kernel_rfl) ?_ (by assumption) ?_
  rotate_left 1
  · (intro wS hSw; (try dsimp only at hSw); go_simp; try with_reducible rfl)
  try simp only [Act.put, List.setIfInBounds_toArray, List.set_cons_zero, List.set_cons_succ]
  refine rg_take (i := 9) (d := some 15) (l := #[true, true, true, false, true, true, true, false, true, true, false, false, false, false, false, false, false, false, false, false, false, false, false, false, false, false, false, false, false, false, false, false, false, false, false, false, false, false, false, false, false, false, false, false, false, false, false, false, false, false]) (fuel := 42) (v := ?_) rfl (by kernel_rfl) (by kernel_rfl) (by kernel_rfl) (by kernel_rfl) (by kernel_rfl) (fun _ _ _ h => h) (by kernel_rfl) ?_ (by assumption) ?_
  rotate_left 1
  · (intro wS hSw; (try dsimp only at hSw); go_simp; try with_reducible rfl)
  try simp only [Act.put, List.setIfInBounds_toArray, List.set_cons_zero, List.set_cons_succ]
  refine rg_take (i := 10) (d := some 16) (l := #[true, true, true, false, true, true, true, false, true, true, true, false, false, false, false, false, false, false, false, false, false, false, false, false, false, false, false, false, false, false, false, false, false, false, false, false, false, false, false, false, false, false, false, false, false, false, false, false, false, false]) (fuel := 41) (v := ?_) rfl (by kernel_rfl) (by kernel_rfl) (by kernel_rfl) (by kernel_rfl) (by kernel_rfl) (fun _ _ _ h => h) (by kernel_rfl) ?_ (by assumption) ?_
  rotate_left 1
  · (intro wS hSw; (try dsimp only at hSw); go_simp; try with_reducible rfl)
  try simp only [Act.put, List.setIfInBounds_toArray, List.set_cons_zero, List.set_cons_succ]
  refine rg_take (i := 12) (d := some 18) (l := #[true, true, true, false, true, true, true, false, true, true, true, false, true, false, false, false, false, false, false, false, false, false, false, false, false, false, false, false, false, false, false, false, false, false, false, false, false, false, false, false, false, false, false, false, false, false, false, false, false, false]) (fuel := 40) (v := ?_) rfl (by kernel_rfl) (by kernel_rfl) (by kernel_rfl) (by kernel_rfl) (by kernel_rfl) (fun _ _ _ h => h) (by kernel_rfl) ?_ (by assumption) ?_
  rotate_left 1
  · (intro wS hSw; (try dsimp only at hSw); go_simp; try with_reducible rfl)
  try simp only [Act.put, List.setIfInBounds_toArray, List.set_cons_zero, List.set_cons_succ]
  refine rg_take (i := 13) (d := some 19) (l := #[true, true, true, false, true, true, true, false, true, true, true, false, true, true, false, false, false, false, false, false, false, false, false, false, false, false, false, false, false, false, false, false, false, false, false, false, false, false, false, false, false, false, false, false, false, false, false, false, false, false]) (fuel := 39) (v := ?_) rfl (by kernel_rfl) (by kernel_rfl) (by kernel_rfl) (by kernel_rfl) (by kernel_rfl) (fun _ _ _ h => h) (by kernel_rfl) ?_ (by assumption) ?_
  rotate_left 1
  · (intro wS hSw; (try dsimp only at hSw); go_simp; try with_reducible rfl)
  try simp only [Act.put, List.setIfInBounds_toArray, List.set_cons_zero, List.set_cons_succ]
  refine rg_take (i := 14) (d := some 20) (l := #[true, true, true, false, true, true, true, false, true, true, true, false, true, true, true, false, false, false, false, false, false, false, false, false, false, false, false, false, false, false, false, false, false, false, false, false, false, false, false, false, false, false, false, false, false, false, false, false, false, false]) (fuel := 38) (v := ?_) rfl (by kernel_rfl) (by kernel_rfl) (by kernel_rfl) (by kernel_rfl) (by kernel_rfl) (fun _ _ _ h => h) (by kernel_rfl) ?_ (by assumption) ?_
  rotate_left 1
  · (intro wS hSw; (try dsimp only at hSw); go_simp; try with_reducible rfl)
  try simp only [Act.put, List.setIfInBounds_toArray, List.set_cons_zero, List.set_cons_succ]
  refine rg_take (i := 16) (d := some 22) (l := #[true, true, true, false, true, true, true, false, true, true, true, false, true, true, true, false, true, false, false, false, false, false, false, false, false, false, false, false, false, false, false, false, false, false, false, false, false, false, false, false, false, false, false, false, false, false, false, false, false, false]) (fuel := 37) (v := ?_) rfl (by kernel_rfl) (by kernel_rfl) (by kernel_rfl) (by kernel_rfl) (by kernel_rfl) (fun _ _ _ h => h) (by kernel_rfl) ?_ (by assumption) ?_
  rotate_left 1
  · (intro wS hSw; (try dsimp only at hSw); go_simp; try with_reducible rfl)
  try simp only [Act.put, List.setIfInBounds_toArray, List.set_cons_zero, List.set_cons_succ]
  refine rg_take (i := 17) (d := some 23) (l := #[true, true, true, false, true, true, true, false, true, true, true, false, true, true, true, false, true, true, false, false, false, false, false, false, false, false, false, false, false, false, false, false, false, false, false, false, false, false, false, false, false, false, false, false, false, false, false, false, false, false]) (fuel := 36) (v := ?_) rfl (by kernel_rfl) (by kernel_rfl) (by kernel_rfl) (by kernel_rfl) (by kernel_rfl) (fun _ _ _ h => h) (by kernel_rfl) ?_ (by assumption) ?_
  rotate_left 1
  · (intro wS hSw; (try dsimp only at hSw); go_simp; try with_reducible rfl)
  try simp only [Act.put, List.setIfInBounds_toArray, List.set_cons_zero, List.set_cons_succ]
  refine rg_take (i := 18) (d := some 24) (l := #[true, true, true, false, true, true, true, false, true, true, true, false, true, true, true, false, true, true, true, false, false, false, false, false, false, false, false, false, false, false, false, false, false, false, false, false, false, false, false, false, false, false, false, false, false, false, false, false, false, false]) (fuel := 35) (v := ?_) rfl (by kernel_rfl) (by kernel_rfl) (by kernel_rfl) (by kernel_rfl) (by kernel_rfl) (fun _ _ _ h => h) (by kernel_rfl) ?_ (by assumption) ?_
  rotate_left 1
  · (intro wS hSw; (try dsimp only at hSw); go_simp; try with_reducible rfl)
  try simp only [Act.put, List.setIfInBounds_toArray, List.set_cons_zero, List.set_cons_succ]
  refine rg_take (i := 20) (d := some 26) (l := #[true, true, true, false, true, true, true, false, true, true, true, false, true, true, true, false, true, true, true, false, true, false, false, false, false, false, false, false, false, false, false, false, false, false, false, false, false, false, false, false, false, false, false, false, false, false, false, false, false, false]) (fuel := 34) (v := ?_) rfl (by kernel_rfl) (by kernel_rfl) (by kernel_rfl) (by kernel_rfl) (by kernel_rfl) (fun _ _ _ h => h) (by kernel_rfl) ?_ (by assumption) ?_
  rotate_left 1
  · (intro wS hSw; (try dsimp only at hSw); go_simp; try with_reducible rfl)
  try simp only [Act.put, List.setIfInBounds_toArray, List.set_cons_zero, List.set_cons_succ]
  refine rg_take (i := 21) (d := some 27) (l := #[true, true, true, false, true, true, true, false, true, true, true, false, true, true, true, false, true, true, true, false, true, true, false, false, false, false, false, false, false, false, false, false, false, false, false, false, false, false, false, false, false, false, false, false, false, false, false, false, false, false]) (fuel := 33) (v := ?_) rfl (by kernel_rfl) (by kernel_rfl) (by kernel_rfl) (by kernel_rfl) (by kernel_rfl) (fun _ _ _ h => h) (by kernel_rfl) ?_ (by assumption) ?_
  rotate_left 1
  · (intro wS hSw; (try dsimp only at hSw); go_simp; try with_reducible rfl)
  try simp only [Act.put, List.setIfInBounds_toArray, List.set_cons_zero, List.set_cons_succ]
  refine rg_take (i := 22) (d := some 28) (l := #[true, true, true, false, true, true, true, false, true, true, true, false, true, true, true, false, true, true, true, false, true, true, true, false, false, false, false, false, false, false, false, false, false, false, false, false, false, false, false, false, false, false, false, false, false, false, false, false, false, false]) (fuel := 32) (v := ?_) rfl (by kernel_rfl) (by kernel_rfl) (by kernel_rfl) (by kernel_rfl) (by kernel_rfl) (fun _ _ _ h => h) (by kernel_rfl) ?_ (by assumption) ?_
  rotate_left 1
  · (intro wS hSw; (try dsimp only at hSw); go_simp; try with_reducible rfl)
  try simp only [Act.put, List.setIfInBounds_toArray, List.set_cons_zero, List.set_cons_succ]
  refine rg_take (i := 24) (d := some 30) (l := #[true, true, true, false, true, true, true, false, true, true, true, false, true, true, true, false, true, true, true, false, true, true, true, false, true, false, false, false, false, false, false, false, false, false, false, false, false, false, false, false, false, false, false, false, false, false, false, false, false, false]) (fuel := 31) (v := ?_) rfl (by kernel_rfl) (by kernel_rfl) (by kernel_rfl) (by kernel_rfl) (by kernel_rfl) (fun _ _ _ h => h) (by kernel_rfl) ?_ (by assumption) ?_
  rotate_left 1
  · (intro wS hSw; (try dsimp only at hSw); go_simp; try with_reducible rfl)
  try simp only [Act.put, List.setIfInBounds_toArray, List.set_cons_zero, List.set_cons_succ]
  refine rg_take (i := 25) (d := some 31) (l := #[true, true, true, false, true, true, true, false, true, true, true, false, true, true, true, false, true, true, true, false, true, true, true, false, true, true, false, false, false, false, false, false, false, false, false, false, false, false, false, false, false, false, false, false, false, false, false, false, false, false]) (fuel := 30) (v := ?_) rfl (by kernel_rfl) (by kernel_rfl) (by kernel_rfl) (by kernel_rfl) (by kernel_rfl) (fun _ _ _ h => h) (by kernel_rfl) ?_ (by assumption) ?_
  rotate_left 1
  · (intro wS hSw; (try dsimp only at hSw); go_simp; try with_reducible rfl)
  try simp only [Act.put, List.setIfInBounds_toArray, List.set_cons_zero, List.set_cons_succ]
  refine rg_take (i := 26) (d := some 32) (l := #[true, true, true, false, true, true, true, false, true, true, true, false, true, true, true, false, true, true, true, false, true, true, true, false, true, true, true, false, false, false, false, false, false, false, false, false, false, false, false, false, false, false, false, false, false, false, false, false, false, false]) (fuel := 29) (v := ?_) rfl (by kernel_rfl) (by kernel_rfl) (by kernel_rfl) (by kernel_rfl) (by kernel_rfl) (fun _ _ _ h => h) (by kernel_rfl) ?_ (by assumption) ?_
  rotate_left 1
  · (intro wS hSw; (try dsimp only at hSw); go_simp; try with_reducible rfl)
  try simp only [Act.put, List.setIfInBounds_toArray, List.set_cons_zero, List.set_cons_succ]
  refine rg_take (i := 28) (d := some 34) (l := #[true, true, true, false, true, true, true, false, true, true, true, false, true, true, true, false, true, true, true, false, true, true, true, false, true, true, true, false, true, false, false, false, false, false, false, false, false, false, false, false, false, false, false, false, false, false, false, false, false, false]) (fuel := 28) (v := ?_) rfl (by kernel_rfl) (by kernel_rfl) (by kernel_rfl) (by kernel_rfl) (by kernel_rfl) (fun _ _ _ h => h) (by kernel_rfl) ?_ (by assumption) ?_
  rotate_left 1
  · (intro wS hSw; (try dsimp only at hSw); go_simp; try with_reducible rfl)
  try simp only [Act.put, List.setIfInBounds_toArray, List.set_cons_zero, List.set_cons_succ]
  refine rg_take (i := 29) (d := some 35) (l := #[true, true, true, false, true, true, true, false, true, true, true, false, true, true, true, false, true, true, true, false, true, true, true, false, true, true, true, false, true, true, false, false, false, false, false, false, false, false, false, false, false, false, false, false, false, false, false, false, false, false]) (fuel := 27) (v := ?_) rfl (by kernel_rfl) (by kernel_rfl) (by kernel_rfl) (by kernel_rfl) (by kernel_rfl) (fun _ _ _ h => h) (by kernel_rfl) ?_ (by assumption) ?_
  rotate_left 1
  · (intro wS hSw; (try dsimp only at hSw); go_simp; try with_reducible rfl)
  try simp only [Act.put, List.setIfInBounds_toArray, List.set_cons_zero, List.set_cons_succ]
  refine rg_take (i := 30) (d := some 36) (l := #[true, true, true, false, true, true, true, false, true, true, true, false, true, true, true, false, true, true, true, false, true, true, true, false, true, true, true, false, true, true, true, false, false, false, false, false, false, false, false, false, false, false, false, false, false, false, false, false, false, false]) (fuel := 26) (v := ?_) rfl (by kernel_rfl) (by kernel_rfl) (by kernel_rfl) (by kernel_rfl) (by kernel_rfl) (fun _ _ _ h => h) (by kernel_rfl) ?_ (by assumption) ?_
  rotate_left 1
  · (intro wS hSw; (try dsimp only at hSw); go_simp; try with_reducible rfl)
  try simp only [Act.put, List.setIfInBounds_toArray, List.set_cons_zero, List.set_cons_succ]
  refine rg_take (i := 32) (d := some 38) (l := #[true, true, true, false, true, true, true, false, true, true, true, false, true, true, true, false, true, true, true, false, true, true, true, false, true, true, true, false, true, true, true, false, true, false, false, false, false, false, false, false, false, false, false, false, false, false, false, false, false, false]) (fuel := 25) (v := ?_) rfl (by kernel_rfl) (by kernel_rfl) (by kernel_rfl) (by kernel_rfl) (by kernel_rfl) (fun _ _ _ h => h) (by kernel_rfl) ?_ (by assumption) ?_
  rotate_left 1
  · (intro wS hSw; (try dsimp only at hSw); go_simp; try with_reducible rfl)
  try simp only [Act.put, List.setIfInBounds_toArray, List.set_cons_zero, List.set_cons_succ]
  refine rg_take (i := 33) (d := some 39) (l := #[true, true, true, false, true, true, true, false, true, true, true, false, true, true, true, false, true, true, true, false, true, true, true, false, true, true, true, false, true, true, true, false, true, true, false, false, false, false, false, false, false, false, false, false, false, false, false, false, false, false]) (fuel := 24) (v := ?_) rfl (by kernel_rfl) (by kernel_rfl) (by kernel_rfl) (by kernel_rfl) (by kernel_rfl) (fun _ _ _ h => h) (by kernel_rfl) ?_ (by assumption) ?_
  rotate_left 1
  · (intro wS hSw; (try dsimp only at hSw); go_simp; try with_reducible rfl)
  try simp only [Act.put, List.setIfInBounds_toArray, List.set_cons_zero, List.set_cons_succ]
  refine rg_take (i := 34) (d := some 40) (l := #[true, true, true, false, true, true, true, false, true, true, true, false, true, true, true, false, true, true, true, false, true, true, true, false, true, true, true, false, true, true, true, false, true, true, true, false, false, false, false, false, false, false, false, false, false, false, false, false, false, false]) (fuel := 23) (v := ?_) rfl (by kernel_rfl) (by kernel_rfl) (by kernel_rfl) (by kernel_rfl) (by kernel_rfl) (fun _ _ _ h => h) (by kernel_rfl) ?_ (by assumption) ?_
  rotate_left 1
  · (intro wS hSw; (try dsimp only at hSw); go_simp; try with_reducible rfl)
  try simp only [Act.put, List.setIfInBounds_toArray, List.set_cons_zero, List.set_cons_succ]
  refine rg_take (i := 36) (d := some 42) (l := #[true, true, true, false, true, true, true, false, true, true, true, false, true, true, true, false, true, true, true, false, true, true, true, false, true, true, true, false, true, true, true, false, true, true, true, false, true, false, false, false, false, false, false, false, false, false, false, false, false, false]) (fuel := 22) (v := ?_) rfl (by kernel_rfl) (by kernel_rfl) (by kernel_rfl) (by kernel_rfl) (by kernel_rfl) (fun _ _ _ h => h) (by kernel_rfl) ?_ (by assumption) ?_
  rotate_left 1
  · (intro wS hSw; (try dsimp only at hSw); go_simp; try with_reducible rfl)
  try simp only [Act.put, List.setIfInBounds_toArray, List.set_cons_zero, List.set_cons_succ]
  refine rg_take (i := 37) (d := some 43) (l := #[true, true, true, false, true, true, true, false, true, true, true, false, true, true, true, false, true, true, true, false, true, true, true, false, true, true, true, false, true, true, true, false, true, true, true, false, true, true, false, false, false, false, false, false, false, false, false, false, false, false]) (fuel := 21) (v := ?_) rfl (by kernel_rfl) (by kernel_rfl) (by kernel_rfl) (by kernel_rfl) (by kernel_rfl) (fun _ _ _ h => h) (by kernel_rfl) ?_ (by assumption) ?_
  rotate_left 1
  · (intro wS hSw; (try dsimp only at hSw); go_simp; try with_reducible rfl)
  try simp only [Act.put, List.setIfInBounds_toArray, List.set_cons_zero, List.set_cons_succ]
  refine rg_take (i := 38) (d := some 44) (l := #[true, true, true, false, true, true, true, false, true, true, true, false, true, true, true, false, true, true, true, false, true, true, true, false, true, true, true, false, true, true, true, false, true, true, true, false, true, true, true, false, false, false, false, false, false, false, false, false, false, false]) (fuel := 20) (v := ?_) rfl (by kernel_rfl) (by kernel_rfl) (by kernel_rfl) (by kernel_rfl) (by kernel_rfl) (fun _ _ _ h => h) (by kernel_rfl) ?_ (by assumption) ?_
  rotate_left 1
  · (intro wS hSw; (try dsimp only at hSw); go_simp; try with_reducible rfl)
  try simp only [Act.put, List.setIfInBounds_toArray, List.set_cons_zero, List.set_cons_succ]
  refine rg_take (i := 40) (d := some 46) (l := #[true, true, true, false, true, true, true, false, true, true, true, false, true, true, true, false, true, true, true, false, true, true, true, false, true, true, true, false, true, true, true, false, true, true, true, false, true, true, true, false, true, false, false, false, false, false, false, false, false, false]) (fuel := 19) (v := ?_) rfl (by kernel_rfl) (by kernel_rfl) (by kernel_rfl) (by kernel_rfl) (by kernel_rfl) (fun _ _ _ h => h) (by kernel_rfl) ?_ (by assumption) ?_
  rotate_left 1
  · (intro wS hSw; (try dsimp only at hSw); go_simp; try with_reducible rfl)
  try simp only [Act.put, List.setIfInBounds_toArray, List.set_cons_zero, List.set_cons_succ]
  refine rg_take (i := 41) (d := some 47) (l := #[true, true, true, false, true, true, true, false, true, true, true, false, true, true, true, false, true, true, true, false, true, true, true, false, true, true, true, false, true, true, true, false, true, true, true, false, true, true, true, false, true, true, false, false, false, false, false, false, false, false]) (fuel := 18) (v := ?_) rfl (by kernel_rfl) (by kernel_rfl) (by kernel_rfl) (by kernel_rfl) (by kernel_rfl) (fun _ _ _ h => h) (by kernel_rfl) ?_ (by assumption) ?_
  rotate_left 1
  · (intro wS hSw; (try dsimp only at hSw); go_simp; try with_reducible rfl)
  try simp only [Act.put, List.setIfInBounds_toArray, List.set_cons_zero, List.set_cons_succ]
  refine rg_take (i := 42) (d := some 48) (l := #[true, true, true, false, true, true, true, false, true, true, true, false, true, true, true, false, true, true, true, false, true, true, true, false, true, true, true, false, true, true, true, false, true, true, true, false, true, true, true, false, true, true, true, false, false, false, false, false, false, false]) (fuel := 17) (v := ?_) rfl (by kernel_rfl) (by kernel_rfl) (by kernel_rfl) (by kernel_rfl) (by kernel_rfl) (fun _ _ _ h => h) (by kernel_rfl) ?_ (by assumption) ?_
  rotate_left 1
  · (intro wS hSw; (try dsimp only at hSw); go_simp; try with_reducible rfl)
  try simp only [Act.put, List.setIfInBounds_toArray, List.set_cons_zero, List.set_cons_succ]
  refine rg_take (i := 44) (d := some 50) (l := #[true, true, true, false, true, true, true, false, true, true, true, false, true, true, true, false, true, true, true, false, true, true, true, false, true, true, true, false, true, true, true, false, true, true, true, false, true, true, true, false, true, true, true, false, true, false, false, false, false, false]) (fuel := 16) (v := ?_) rfl (by kernel_rfl) (by kernel_rfl) (by kernel_rfl) (by kernel_rfl) (by kernel_rfl) (fun _ _ _ h => h) (by kernel_rfl) ?_ (by assumption) ?_
  rotate_left 1
  · (intro wS hSw; (try dsimp only at hSw); go_simp; try with_reducible rfl)
  try simp only [Act.put, List.setIfInBounds_toArray, List.set_cons_zero, List.set_cons_succ]
  refine rg_take (i := 45) (d := some 51) (l := #[true, true, true, false, true, true, true, false, true, true, true, false, true, true, true, false, true, true, true, false, true, true, true, false, true, true, true, false, true, true, true, false, true, true, true, false, true, true, true, false, true, true, true, false, true, true, false, false, false, false]) (fuel := 15) (v := ?_) rfl (by kernel_rfl) (by kernel_rfl) (by kernel_rfl) (by kernel_rfl) (by kernel_rfl) (fun _ _ _ h => h) (by kernel_rfl) ?_ (by assumption) ?_
  rotate_left 1
  · (intro wS hSw; (try dsimp only at hSw); go_simp; try with_reducible rfl)
  try simp only [Act.put, List.setIfInBounds_toArray, List.set_cons_zero, List.set_cons_succ]
  refine rg_take (i := 46) (d := some 52) (l := #[true, true, true, false, true, true, true, false, true, true, true, false, true, true, true, false, true, true, true, false, true, true, true, false, true, true, true, false, true, true, true, false, true, true, true, false, true, true, true, false, true, true, true, false, true, true, true, false, false, false]) (fuel := 14) (v := ?_) rfl (by kernel_rfl) (by kernel_rfl) (by kernel_rfl) (by kernel_rfl) (by kernel_rfl) (fun _ _ _ h => h) (by kernel_rfl) ?_ (by assumption) ?_
  rotate_left 1
  · (intro wS hSw; (try dsimp only at hSw); go_simp; try with_reducible rfl)
  try simp only [Act.put, List.setIfInBounds_toArray, List.set_cons_zero, List.set_cons_succ]
  refine rg_next (i := 3) (l := #[true, true, true, true, true, true, true, false, true, true, true, false, true, true, true, false, true, true, true, false, true, true, true, false, true, true, true, false, true, true, true, false, true, true, true, false, true, true, true, false, true, true, true, false, true, true, true, false, false, false]) (fuel := 13) (by kernel_rfl) rfl (by kernel_rfl) (by kernel_rfl) (fun K hK => ?_)
  go_simp
  (go_at_call 113)
  refine (pvalue_any H.out.lat.1).mono ?_
  rintro e w' ⟨rfl, rfl⟩
  first | (refine hK.out _ _ ?_ (fun hHeld => ?_)) | (go_wp2_with fail; refine hK.out _ _ ?_ (fun hHeld => ?_))
  · (try dsimp only); try exact trivial
  clear hK K
  try simp only [Act.put, List.setIfInBounds_toArray, List.set_cons_zero, List.set_cons_succ]
  refine rg_next (i := 7) (l := #[true, true, true, true, true, true, true, true, true, true, true, false, true, true, true, false, true, true, true, false, true, true, true, false, true, true, true, false, true, true, true, false, true, true, true, false, true, true, true, false, true, true, true, false, true, true, true, false, false, false]) (fuel := 12) (by kernel_rfl) rfl (by kernel_rfl) (by kernel_rfl) (fun K hK => ?_)
  go_simp
  (go_at_call 136)
  obtain ⟨cs, q1, q2⟩ := H.out.tmr
  refine (treload_any q1).mono ?_
  rintro e w' ⟨rfl, rfl⟩
  clear q1 q2 cs
  first | (refine hK.out _ _ ?_ (fun hHeld => ?_)) | (go_wp2_with fail; refine hK.out _ _ ?_ (fun hHeld => ?_))
  · (try dsimp only); try exact trivial
  clear hK K
  try simp only [Act.put, List.setIfInBounds_toArray, List.set_cons_zero, List.set_cons_succ]
  refine rg_next (i := 11) (l := #[true, true, true, true, true, true, true, true, true, true, true, true, true, true, true, false, true, true, true, false, true, true, true, false, true, true, true, false, true, true, true, false, true, true, true, false, true, true, true, false, true, true, true, false, true, true, true, false, false, false]) (fuel := 11) (by kernel_rfl) rfl (by kernel_rfl) (by kernel_rfl) (fun K hK => ?_)
  go_simp
  (go_at_call 137)
  obtain ⟨cs, q1, q2⟩ := H.out.tmr
  refine (tcounter_any q1).mono ?_
  rintro e w' ⟨rfl, rfl⟩
  clear q1 q2 cs
  first | (refine hK.out _ _ ?_ (fun hHeld => ?_)) | (go_wp2_with fail; refine hK.out _ _ ?_ (fun hHeld => ?_))
  · (try dsimp only); try exact trivial
  clear hK K
  try simp only [Act.put, List.setIfInBounds_toArray, List.set_cons_zero, List.set_cons_succ]
  refine rg_next (i := 15) (l := #[true, true, true, true, true, true, true, true, true, true, true, true, true, true, true, true, true, true, true, false, true, true, true, false, true, true, true, false, true, true, true, false, true, true, true, false, true, true, true, false, true, true, true, false, true, true, true, false, false, false]) (fuel := 10) (by kernel_rfl) rfl (by kernel_rfl) (by kernel_rfl) (fun K hK => ?_)
  go_simp
  (go_at_call 138)
  obtain ⟨cs, q1, q2⟩ := H.out.irq
  refine (qdisable_any q1).mono ?_
  rintro e w' ⟨rfl, rfl⟩
  clear q1 q2 cs
  first | (refine hK.out _ _ ?_ (fun hHeld => ?_)) | (go_wp2_with fail; refine hK.out _ _ ?_ (fun hHeld => ?_))
  · (try dsimp only); try exact trivial
  clear hK K
  try simp only [Act.put, List.setIfInBounds_toArray, List.set_cons_zero, List.set_cons_succ]
  refine rg_next (i := 19) (l := #[true, true, true, true, true, true, true, true, true, true, true, true, true, true, true, true, true, true, true, true, true, true, true, false, true, true, true, false, true, true, true, false, true, true, true, false, true, true, true, false, true, true, true, false, true, true, true, false, false, false]) (fuel := 9) (by kernel_rfl) rfl (by kernel_rfl) (by kernel_rfl) (fun K hK => ?_)
  go_simp
  (go_at_call 139)
  obtain ⟨cs, q1, q2⟩ := H.out.prt
  refine (pselect_any q1).mono ?_
  rintro e w' ⟨rfl, rfl⟩
  clear q1 q2 cs
  first | (refine hK.out _ _ ?_ (fun hHeld => ?_)) | (go_wp2_with fail; refine hK.out _ _ ?_ (fun hHeld => ?_))
  · (try dsimp only); try exact trivial
  clear hK K
  try simp only [Act.put, List.setIfInBounds_toArray, List.set_cons_zero, List.set_cons_succ]
  refine rg_next (i := 23) (l := #[true, true, true, true, true, true, true, true, true, true, true, true, true, true, true, true, true, true, true, true, true, true, true, true, true, true, true, false, true, true, true, false, true, true, true, false, true, true, true, false, true, true, true, false, true, true, true, false, false, false]) (fuel := 8) (by kernel_rfl) rfl (by kernel_rfl) (by kernel_rfl) (fun K hK => ?_)
  go_simp
  (go_at_call 140)
  obtain ⟨cs, q1, q2⟩ := H.out.tmr
  refine (tleft_any q1).mono ?_
  rw [HLEFT.out]
  rintro e w' ⟨rfl, rfl⟩
  clear q1 q2 cs
  first | (refine hK.out _ _ ?_ (fun hHeld => ?_)) | (go_wp2_with fail; refine hK.out _ _ ?_ (fun hHeld => ?_))
  · (try dsimp only); try exact trivial
  clear hK K
  try simp only [Act.put, List.setIfInBounds_toArray, List.set_cons_zero, List.set_cons_succ]
  refine rg_next (i := 27) (l := #[true, true, true, true, true, true, true, true, true, true, true, true, true, true, true, true, true, true, true, true, true, true, true, true, true, true, true, true, true, true, true, false, true, true, true, false, true, true, true, false, true, true, true, false, true, true, true, false, false, false]) (fuel := 7) (by kernel_rfl) rfl (by kernel_rfl) (by kernel_rfl) (fun K hK => ?_)
  go_simp
  (go_at_call 141)
  obtain ⟨cs, q1, q2⟩ := H.out.tmr
  refine (ton_any q1).mono ?_
  rintro e w' ⟨rfl, rfl⟩
  clear q1 q2 cs
  first | (refine hK.out _ _ ?_ (fun hHeld => ?_)) | (go_wp2_with fail; refine hK.out _ _ ?_ (fun hHeld => ?_))
  · (try dsimp only); try exact trivial
  clear hK K
  try simp only [Act.put, List.setIfInBounds_toArray, List.set_cons_zero, List.set_cons_succ]
  refine rg_next (i := 31) (l := #[true, true, true, true, true, true, true, true, true, true, true, true, true, true, true, true, true, true, true, true, true, true, true, true, true, true, true, true, true, true, true, true, true, true, true, false, true, true, true, false, true, true, true, false, true, true, true, false, false, false]) (fuel := 6) (by kernel_rfl) rfl (by kernel_rfl) (by kernel_rfl) (fun K hK => ?_)
  go_simp
  (go_at_call 142)
  obtain ⟨cs, q1, q2⟩ := H.out.irq
  refine (qdue_any q1).mono ?_
  rintro e w' ⟨rfl, rfl⟩
  clear q1 q2 cs
  first | (refine hK.out _ _ ?_ (fun hHeld => ?_)) | (go_wp2_with fail; refine hK.out _ _ ?_ (fun hHeld => ?_))
  · (try dsimp only); try exact trivial
  clear hK K
  try simp only [Act.put, List.setIfInBounds_toArray, List.set_cons_zero, List.set_cons_succ]
  refine rg_next (i := 35) (l := #[true, true, true, true, true, true, true, true, true, true, true, true, true, true, true, true, true, true, true, true, true, true, true, true, true, true, true, true, true, true, true, true, true, true, true, true, true, true, true, false, true, true, true, false, true, true, true, false, false, false]) (fuel := 5) (by kernel_rfl) rfl (by kernel_rfl) (by kernel_rfl) (fun K hK => ?_)
  go_simp
  (go_at_call 135)
  refine (hrose_any H.out.lns.1).mono ?_
  rintro e w' ⟨rfl, rfl⟩
  first | (refine hK.out _ _ ?_ (fun hHeld => ?_)) | (go_wp2_with fail; refine hK.out _ _ ?_ (fun hHeld => ?_))
  · (try dsimp only); try exact trivial
  clear hK K
  try simp only [Act.put, List.setIfInBounds_toArray, List.set_cons_zero, List.set_cons_succ]
  refine rg_next (i := 39) (l := #[true, true, true, true, true, true, true, true, true, true, true, true, true, true, true, true, true, true, true, true, true, true, true, true, true, true, true, true, true, true, true, true, true, true, true, true, true, true, true, true, true, true, true, false, true, true, true, false, false, false]) (fuel := 4) (by kernel_rfl) rfl (by kernel_rfl) (by kernel_rfl) (fun K hK => ?_)
  go_simp
  (go_at_call 143)
  obtain ⟨cs, q1, q2⟩ := H.out.fdv
  refine (fptaken_any q1).mono ?_
  rintro e w' ⟨rfl, rfl⟩
  clear q1 q2 cs
  first | (refine hK.out _ _ ?_ (fun hHeld => ?_)) | (go_wp2_with fail; refine hK.out _ _ ?_ (fun hHeld => ?_))
  · (try dsimp only); try exact trivial
  clear hK K
  try simp only [Act.put, List.setIfInBounds_toArray, List.set_cons_zero, List.set_cons_succ]
  refine rg_next (i := 43) (l := #[true, true, true, true, true, true, true, true, true, true, true, true, true, true, true, true, true, true, true, true, true, true, true, true, true, true, true, true, true, true, true, true, true, true, true, true, true, true, true, true, true, true, true, true, true, true, true, false, false, false]) (fuel := 3) (by kernel_rfl) rfl (by kernel_rfl) (by kernel_rfl) (fun K hK => ?_)
  go_simp
  (go_at_call 143)
  obtain ⟨cs, q1, q2⟩ := H.out.fdc
  refine (fptaken_any q1).mono ?_
  rintro e w' ⟨rfl, rfl⟩
  clear q1 q2 cs
  first | (refine hK.out _ _ ?_ (fun hHeld => ?_)) | (go_wp2_with fail; refine hK.out _ _ ?_ (fun hHeld => ?_))
  · (try dsimp only); try exact trivial
  clear hK K
  try simp only [Act.put, List.setIfInBounds_toArray, List.set_cons_zero, List.set_cons_succ]
  refine rg_next (i := 47) (l := #[true, true, true, true, true, true, true, true, true, true, true, true, true, true, true, true, true, true, true, true, true, true, true, true, true, true, true, true, true, true, true, true, true, true, true, true, true, true, true, true, true, true, true, true, true, true, true, true, false, false]) (fuel := 2) (by kernel_rfl) rfl (by kernel_rfl) (by kernel_rfl) (fun K hK => ?_)
  go_simp
  (go_at_call 144)
  obtain ⟨cs, q1, q2⟩ := H.out.prt
  refine (ptaken_any q1).mono ?_
  rintro e w' ⟨rfl, rfl⟩
  clear q1 q2 cs
  first | (refine hK.out _ _ ?_ (fun hHeld => ?_)) | (go_wp2_with fail; refine hK.out _ _ ?_ (fun hHeld => ?_))
  · (try dsimp only); try exact trivial
  clear hK K
  try simp only [Act.put, List.setIfInBounds_toArray, List.set_cons_zero, List.set_cons_succ]
  refine rg_take (i := 48) (d := some 54) (l := #[true, true, true, true, true, true, true, true, true, true, true, true, true, true, true, true, true, true, true, true, true, true, true, true, true, true, true, true, true, true, true, true, true, true, true, true, true, true, true, true, true, true, true, true, true, true, true, true, true, false]) (fuel := 1) (v := ?_) rfl (by kernel_rfl) (by kernel_rfl) (by kernel_rfl) (by kernel_rfl) (by kernel_rfl) (fun _ _ _ h => h) (by kernel_rfl) ?_ (by assumption) ?_
  rotate_left 1
  · (intro wS hSw; (try dsimp only at hSw); go_simp; try with_reducible rfl)
  try simp only [Act.put, List.setIfInBounds_toArray, List.set_cons_zero, List.set_cons_succ]
  obtain ⟨r, hr⟩ : ∃ r, w.heap.size = r := ⟨_, rfl⟩
  have HW : Hid (r = w.heap.size) := Lib.hid hr.symm
  rw [hr] at HL
  simp only [hr]
  clear hr
  have f0 := HL.out.frozen 0
  have f1 := HL.out.frozen 1
  have f2 := HL.out.frozen 2
  have f3 := HL.out.frozen 3
  have f4 := HL.out.frozen 4
  have f5 := HL.out.frozen 5
  have f6 := HL.out.frozen 6
  have f7 := HL.out.frozen 7
  have f8 := HL.out.frozen 8
  have f9 := HL.out.frozen 9
  have f10 := HL.out.frozen 10
  have f11 := HL.out.frozen 11
  have e0 : w0.cell? ⟨r, 0, none⟩ = some (.int .u8 0) := HL.out.cell 0
  have e1 : w0.cell? ⟨r, 1, none⟩ = some (.int .u8 0) := HL.out.cell 1
  have e2 : w0.cell? ⟨r, 2, none⟩ = some (.int .u8 0) := HL.out.cell 2
  have e3 : w0.cell? ⟨r, 3, none⟩ = some (.int .u8 0) := HL.out.cell 3
  have e4 : w0.cell? ⟨r, 4, none⟩ = some (.int .u8 0) := HL.out.cell 4
  have e5 : w0.cell? ⟨r, 5, none⟩ = some (.int .i64 0) := HL.out.cell 5
  have e6 : w0.cell? ⟨r, 6, none⟩ = some (.bool false) := HL.out.cell 6
  have e7 : w0.cell? ⟨r, 7, none⟩ = some (.bool false) := HL.out.cell 7
  have e8 : w0.cell? ⟨r, 8, none⟩ = some (.bool false) := HL.out.cell 8
  have e9 : w0.cell? ⟨r, 9, none⟩ = some (.int .i64 0) := HL.out.cell 9
  have e10 : w0.cell? ⟨r, 10, none⟩ = some (.int .i64 0) := HL.out.cell 10
  have e11 : w0.cell? ⟨r, 11, none⟩ = some (.int .i64 0) := HL.out.cell 11
  refine rg_next (i := 49) (l := #[true, true, true, true, true, true, true, true, true, true, true, true, true, true, true, true, true, true, true, true, true, true, true, true, true, true, true, true, true, true, true, true, true, true, true, true, true, true, true, true, true, true, true, true, true, true, true, true, true, true]) (fuel := 0) (by kernel_rfl) rfl (by kernel_rfl) (by kernel_rfl) (fun K hK => ?_)
  go_simp
  skip
  first | (refine hK.out _ _ ?_ (fun hHeld => ?_)) | (go_wp2_with fail; refine hK.out _ _ ?_ (fun hHeld => ?_))
  · (try dsimp only); try exact trivial
  clear hK K
  try simp only [Act.put, List.setIfInBounds_toArray, List.set_cons_zero, List.set_cons_succ]
  refine wpAnyH_done (by kernel_rfl) ?_ _
  clear f0 f1 f2 f3 f4 f5 f6 f7 f8 f9 f10 f11 e0 e1 e2 e3 e4 e5 e6 e7 e8 e9 e10 e11 hHeld
  have NB := ((((((((((((HL.out.set_ 0 (.int .u8 x.buf)).set_ 1 (.int .u8 x.tm.r)).set_ 2 (.int .u8 x.tm.c)).set_ 3 (.int .u8 x.q.d)).set_ 4 (.int .u8 x.pt.l)).set_ 5 (.int .i64 left)).set_ 6 (.bool x.tm.on)).set_ 7 (.bool x.q.due)).set_ 8 (.bool x.ro)).set_ 9 (.int .i64 x.tv)).set_ 10 (.int .i64 x.tc)).set_ 11 (.int .i64 x.tp))
  have KB := (((((((((((((Kp.refl [r] w0).setCell (p := ⟨r, 0, none⟩) (.inl (by simp)) (.int .u8 x.buf)).setCell (p := ⟨r, 1, none⟩) (.inl (by simp)) (.int .u8 x.tm.r)).setCell (p := ⟨r, 2, none⟩) (.inl (by simp)) (.int .u8 x.tm.c)).setCell (p := ⟨r, 3, none⟩) (.inl (by simp)) (.int .u8 x.q.d)).setCell (p := ⟨r, 4, none⟩) (.inl (by simp)) (.int .u8 x.pt.l)).setCell (p := ⟨r, 5, none⟩) (.inl (by simp)) (.int .i64 left)).setCell (p := ⟨r, 6, none⟩) (.inl (by simp)) (.bool x.tm.on)).setCell (p := ⟨r, 7, none⟩) (.inl (by simp)) (.bool x.q.due)).setCell (p := ⟨r, 8, none⟩) (.inl (by simp)) (.bool x.ro)).setCell (p := ⟨r, 9, none⟩) (.inl (by simp)) (.int .i64 x.tv)).setCell (p := ⟨r, 10, none⟩) (.inl (by simp)) (.int .i64 x.tc)).setCell (p := ⟨r, 11, none⟩) (.inl (by simp)) (.int .i64 x.tp))
  simp only [List.setIfInBounds_toArray, List.set_cons_zero, List.set_cons_succ] at NB
  generalize World.setCell (World.setCell _ _ _) _ _ = wz at *
  have NZ := Lib.hid NB
  have KZ := Lib.hid KB
  have z0 : wz.cell? ⟨r, 0, none⟩ = some (.int .u8 x.buf) := NB.cell 0
  have z1 : wz.cell? ⟨r, 1, none⟩ = some (.int .u8 x.tm.r) := NB.cell 1
  have z2 : wz.cell? ⟨r, 2, none⟩ = some (.int .u8 x.tm.c) := NB.cell 2
  have z3 : wz.cell? ⟨r, 3, none⟩ = some (.int .u8 x.q.d) := NB.cell 3
  have z4 : wz.cell? ⟨r, 4, none⟩ = some (.int .u8 x.pt.l) := NB.cell 4
  have z5 : wz.cell? ⟨r, 5, none⟩ = some (.int .i64 left) := NB.cell 5
  have z6 : wz.cell? ⟨r, 6, none⟩ = some (.bool x.tm.on) := NB.cell 6
  have z7 : wz.cell? ⟨r, 7, none⟩ = some (.bool x.q.due) := NB.cell 7
  have z8 : wz.cell? ⟨r, 8, none⟩ = some (.bool x.ro) := NB.cell 8
  have z9 : wz.cell? ⟨r, 9, none⟩ = some (.int .i64 x.tv) := NB.cell 9
  have z10 : wz.cell? ⟨r, 10, none⟩ = some (.int .i64 x.tc) := NB.cell 10
  have z11 : wz.cell? ⟨r, 11, none⟩ = some (.int .i64 x.tp) := NB.cell 11
  clear NB KB
  go_wp2_with fail
  have e0 : (.agg (stC x) : Value) = .agg #[.int .u8 x.buf, .int .u8 x.tm.r, .int .u8 x.tm.c, .int .u8 x.q.d, .int .u8 x.pt.l, .int .i64 left, .bool x.tm.on, .bool x.q.due, .bool x.ro, .int .i64 x.tv, .int .i64 x.tc, .int .i64 x.tp] := by unfold stC; rw [HLEFT.out]
  refine bodyPost_ret (v := .agg (stC x)) (by rw [e0]; simp [results, Tryz.results94, go_sem, z0, z1, z2, z3, z4, z5, z6, z7, z8, z9, z10, z11]) rfl ?_
  have hr : w.heap.size ≤ r := by rw [HW.out]; exact Nat.le_refl _
  exact ⟨rfl, (KZ.out.onto HB.out HB.out.size (by simpa using hr)).drew⟩
end
end Go.Proofs.YtccimkmlbcgekaaGreat
namespace Go.Proofs.YtccimkmlbcgekaaGreat
open Go.RowKit
set_option linter.unusedVariables false
set_option maxHeartbeats 400000 in
theorem rbank_any (a : Int) (w : World) (a0 : 0 ≤ a) (a1 : a ≤ 4294967295) :
    Calls Tryz.prog 80 #[.int .u32 a] w fun e w' => e = .returned (.int .i64 (bankI a)) ∧ w = w' := by
  unfold bankI
  go_enter Tryz.func80, Tryz.ntmps80
  go_wp2
  go_ret
  exact ⟨rfl, rfl⟩
set_option maxHeartbeats 400000 in
theorem roff_any (a : Int) (w : World) (a0 : 0 ≤ a) (a1 : a ≤ 4294967295) :
    Calls Tryz.prog 81 #[.int .u32 a] w fun e w' => e = .returned (.int .i64 (offI a)) ∧ w = w' := by
  unfold offI
  go_enter Tryz.func81, Tryz.ntmps81
  go_wp2
  go_ret
  exact ⟨rfl, rfl⟩
theorem bankI_bd (a : Int) : 0 ≤ bankI a ∧ bankI a ≤ 255 := by unfold bankI; omega
theorem offI_bd (a : Int) : 0 ≤ offI a ∧ offI a ≤ 8191 := by unfold offI; omega
theorem where_rom (a : Int) (h : bankI a < 128) : whereI a = 0 := by
  have : a % 2097152 < 1048576 := by unfold bankI at h; omega
  unfold whereI partAt; rw [if_pos this]; rfl
theorem where_open1 (a : Int) (h0 : 128 ≤ bankI a) (h1 : bankI a < 248) : whereI a = 2 := by
  unfold bankI at h0 h1; unfold whereI partAt; rw [if_neg (by omega), if_pos (by omega)]; rfl
theorem where_ram (a : Int) (h0 : 248 ≤ bankI a) (h1 : bankI a ≤ 251) : whereI a = 1 := by
  unfold bankI at h0 h1; unfold whereI partAt; rw [if_neg (by omega), if_neg (by omega), if_pos (by omega)]; rfl
theorem where_open2 (a : Int) (h0 : 252 ≤ bankI a) (h1 : bankI a < 255) : whereI a = 2 := by
  unfold bankI at h0 h1; unfold whereI partAt; rw [if_neg (by omega), if_neg (by omega), if_neg (by omega), if_pos (by omega)]; rfl
theorem where_open3 (a : Int) (h0 : bankI a = 255) (h1 : 6144 ≤ offI a) : whereI a = 2 := by
  unfold bankI at h0; unfold offI at h1; unfold whereI partAt
  rw [if_neg (by omega), if_neg (by omega), if_neg (by omega), if_neg (by omega), if_neg (by omega), if_neg (by omega), if_neg (by omega), if_neg (by omega), if_neg (by omega), if_neg (by omega)]; rfl
theorem where_unit (a : Int) (h0 : bankI a = 255) (h1 : offI a < 6144) : whereI a = 3 + offI a / 1024 := by
  unfold bankI at h0; unfold offI at h1 ⊢; unfold whereI partAt
  (repeat' split) <;> simp only [kindN] <;> omega
def unitC : Array Value := #[.int .u8 3, .int .u8 4, .int .u8 5, .int .u8 6, .int .u8 7, .int .u8 8]
set_option maxHeartbeats 2000000 in
theorem rwhere_any (a : Int) (w : World) (a0 : 0 ≤ a) (a1 : a ≤ 4294967295) :
    Calls Tryz.prog 26 #[.int .u32 a] w fun e w' => e = .returned (.int .u8 (whereI a)) ∧ Below w.heap.size w w' := by
  have W1 := where_rom a
  have W2 := where_open1 a
  have W3 := where_ram a
  have W4 := where_open2 a
  have W5 := where_open3 a
  have W6 := where_unit a
  have bb := bankI_bd a
  have ob := offI_bd a
  obtain ⟨b, hb⟩ : ∃ b, bankI a = b := ⟨_, rfl⟩
  obtain ⟨o, ho⟩ : ∃ o, offI a = o := ⟨_, rfl⟩
  obtain ⟨x, hx⟩ : ∃ x, whereI a = x := ⟨_, rfl⟩
  rw [hb, hx] at W1 W2 W3 W4 W5 W6
  rw [ho] at W5 W6
  rw [hb] at bb
  rw [ho] at ob
  rw [hx]
  have HB := Lib.hid hb
  have HO := Lib.hid ho
  clear hb ho hx
  by_cases c1 : b < 128
  · obtain rfl := W1 c1
    clear W1 W2 W3 W4 W5 W6
    go_enter Tryz.func26, Tryz.ntmps26
    go_wp2_with (first | (go_at_call 80; refine (rbank_any _ _ a0 a1).mono ?_; rw [HB.out]; rintro e w' ⟨rfl, rfl⟩) | (go_at_call 81; refine (roff_any _ _ a0 a1).mono ?_; rw [HO.out]; rintro e w' ⟨rfl, rfl⟩))
    go_ret
    exact ⟨rfl, Below.refl _ _⟩
  have c1' : 128 ≤ b := by omega
  clear c1 W1
  by_cases c2 : b < 248
  · obtain rfl := W2 c1' c2
    have d1 : decide (248 ≤ b) = false := by simp; omega
    have d2 : (b != 255) = true := by rw [bne_iff_ne]; omega
    clear W2 W3 W4 W5 W6
    go_enter Tryz.func26, Tryz.ntmps26
    go_wp2_with (first | (go_at_call 80; refine (rbank_any _ _ a0 a1).mono ?_; rw [HB.out]; rintro e w' ⟨rfl, rfl⟩) | (go_at_call 81; refine (roff_any _ _ a0 a1).mono ?_; rw [HO.out]; rintro e w' ⟨rfl, rfl⟩))
    go_ret
    exact ⟨rfl, Below.refl _ _⟩
  have c2' : 248 ≤ b := by omega
  clear c2 W2
  by_cases c3 : b ≤ 251
  · obtain rfl := W3 c2' c3
    clear W3 W4 W5 W6
    go_enter Tryz.func26, Tryz.ntmps26
    go_wp2_with (first | (go_at_call 80; refine (rbank_any _ _ a0 a1).mono ?_; rw [HB.out]; rintro e w' ⟨rfl, rfl⟩) | (go_at_call 81; refine (roff_any _ _ a0 a1).mono ?_; rw [HO.out]; rintro e w' ⟨rfl, rfl⟩))
    go_ret
    exact ⟨rfl, Below.refl _ _⟩
  have c3' : 252 ≤ b := by omega
  have d1 : decide (b ≤ 251) = false := by simp; omega
  clear c3 W3
  by_cases c4 : b < 255
  · obtain rfl := W4 c3' c4
    have d2 : (b != 255) = true := by rw [bne_iff_ne]; omega
    clear W4 W5 W6
    go_enter Tryz.func26, Tryz.ntmps26
    go_wp2_with (first | (go_at_call 80; refine (rbank_any _ _ a0 a1).mono ?_; rw [HB.out]; rintro e w' ⟨rfl, rfl⟩) | (go_at_call 81; refine (roff_any _ _ a0 a1).mono ?_; rw [HO.out]; rintro e w' ⟨rfl, rfl⟩))
    go_ret
    exact ⟨rfl, Below.refl _ _⟩
  obtain rfl : b = 255 := by omega
  clear c4 W4 d1
  by_cases c5 : 6144 ≤ o
  · obtain rfl := W5 rfl c5
    clear W5 W6
    go_enter Tryz.func26, Tryz.ntmps26
    go_wp2_with (first | (go_at_call 80; refine (rbank_any _ _ a0 a1).mono ?_; rw [HB.out]; rintro e w' ⟨rfl, rfl⟩) | (go_at_call 81; refine (roff_any _ _ a0 a1).mono ?_; rw [HO.out]; rintro e w' ⟨rfl, rfl⟩))
    go_ret
    exact ⟨rfl, Below.refl _ _⟩
  have c5' : o < 6144 := by omega
  have d2 : decide (6144 ≤ o) = false := by simp; omega
  obtain rfl := W6 rfl c5'
  clear c5 W5 W6
  have : o / 1024 = 0 ∨ o / 1024 = 1 ∨ o / 1024 = 2 ∨ o / 1024 = 3 ∨ o / 1024 = 4 ∨ o / 1024 = 5 := by omega
  rcases this with hk | hk | hk | hk | hk | hk
  all_goals
    go_enter Tryz.func26, Tryz.ntmps26
    go_wp2_with (first | (go_at_call 80; refine (rbank_any _ _ a0 a1).mono ?_; rw [HB.out]; rintro e w' ⟨rfl, rfl⟩) | (go_at_call 81; refine (roff_any _ _ a0 a1).mono ?_; rw [HO.out]; rintro e w' ⟨rfl, rfl⟩))
    go_ret
    exact ⟨by simp [hk], by go_grown⟩
set_option maxHeartbeats 1000000 in
theorem rextra_any (a : Int) (w : World) (a0 : 0 ≤ a) (a1 : a ≤ 4294967295) :
    Calls Tryz.prog 150 #[.int .u32 a] w fun e w' => e = .returned (.bool (extraB a)) ∧ Below w.heap.size w w' := by
  unfold extraB
  generalize hx : whereI a = x
  have H := Lib.hid hx
  clear hx
  by_cases h : x = 3
  · subst h
    go_enter Tryz.func150, Tryz.ntmps150
    go_wp2_with (go_at_call 26; refine (rwhere_any _ _ a0 a1).mono ?_; rw [H.out]; rintro e w' ⟨rfl, hb⟩)
    go_ret
    exact ⟨rfl, hb⟩
  · have h' : (x == 3) = false := by simpa using h
    have HX := Lib.hid h
    clear h
    go_enter Tryz.func150, Tryz.ntmps150
    go_wp2_with fail
    refine (rwhere_any _ _ a0 a1).mono ?_; rw [H.out]; rintro e w' ⟨rfl, hb⟩
    go_wp2_with fail
    refine (rwhere_any _ _ a0 a1).mono ?_; rw [H.out]; rintro e w'' ⟨rfl, hb2⟩
    go_wp2_with fail
    go_ret
    exact ⟨by simp; exact fun e => absurd e HX.out, hb.trans (hb2.mono hb.size)⟩
set_option maxHeartbeats 2000000 in
theorem rreg_any (a : Int) (w : World) (a0 : 0 ≤ a) (a1 : a ≤ 4294967295) :
    Calls Tryz.prog 156 #[.int .u32 a] w fun e w' => e = .returned (.int .i64 (regI a)) ∧ Below w.heap.size w w' := by
  have xb := whereI_bd a
  have ob := offI_bd a
  obtain ⟨x, hx⟩ : ∃ x, whereI a = x := ⟨_, rfl⟩
  obtain ⟨o, ho⟩ : ∃ o, offI a = o := ⟨_, rfl⟩
  unfold regI
  rw [hx] at xb ⊢
  rw [ho] at ob ⊢
  have H := Lib.hid hx
  have HO := Lib.hid ho
  clear hx ho
  have : x = 0 ∨ x = 1 ∨ x = 2 ∨ x = 3 ∨ x = 4 ∨ x = 5 ∨ x = 6 ∨ x = 7 ∨ x = 8 := by omega
  clear xb
  rcases this with rfl | rfl | rfl | rfl | rfl | rfl | rfl | rfl | rfl
  all_goals
    go_enter Tryz.func156, Tryz.ntmps156
    go_wp2_with (first | (go_at_call 26; refine (rwhere_any _ _ a0 a1).mono ?_; rw [H.out]; rintro e w' ⟨rfl, hb⟩) | (go_at_call 81; refine (roff_any _ _ a0 a1).mono ?_; rw [HO.out]; rintro e w' ⟨rfl, rfl⟩))
    go_ret
    exact ⟨by simp [regsI], hb⟩
end Go.Proofs.YtccimkmlbcgekaaGreat
namespace Go.Proofs.YtccimkmlbcgekaaGreat
open Go.RowKit
set_option linter.unusedVariables false
set_option linter.unusedSimpArgs false
set_option maxRecDepth 100000
theorem addr_v {b o a : Int} {w : World} (b0 : 0 ≤ b) (b1 : b ≤ 255) (o0 : 0 ≤ o) (o1 : o ≤ 65535) (e : b * 8192 + o % 8192 = a) :
    Calls Tryz.prog 83 #[.int .u8 b, .int .u16 o] w fun e w' => e = .returned (.int .u32 a) ∧ w = w' := e ▸ addr_any b o w b0 b1 o0 o1
theorem where_v {a k : Int} {w : World} (a0 : 0 ≤ a) (a1 : a ≤ 4294967295) (e : whereI a = k) : Calls Tryz.prog 31 #[.int .u32 a] w fun e w' => e = .returned (.int .u8 k) ∧ Below w.heap.size w w' := e ▸ where_any a w a0 a1
theorem reg_v {a k : Int} {w : World} (a0 : 0 ≤ a) (a1 : a ≤ 4294967295) (e : regI a = k) : Calls Tryz.prog 172 #[.int .u32 a] w fun e w' => e = .returned (.int .i64 k) ∧ Below w.heap.size w w' := e ▸ reg_any a w a0 a1
/-- The address of a place of the last bank. -/
def plA (off : Int) : Int := 255 * 8192 + off % 8192
theorem plA_bd (off : Int) (h0 : 0 ≤ off) : 0 ≤ plA off ∧ plA off ≤ 4294967295 := by unfold plA; omega
/-- What is read of a register of the controller, and what the buffer has then. -/
def Hp.ri (d : Hd) (x : Hp) (r : Int) : Int :=
  if r = 2 then mixI x.buf 7 x.q.d else if r = 3 then mixI x.buf 7 (stV x.q.due (upTo d.es x.s 2) (upTo d.es x.s 3)) else x.buf
/-- What is read at a place of a kind, by its register. -/
def Hp.rv (d : Hd) (x : Hp) (k r : Int) : Int :=
  if k = 3 then peekI (d.nv - x.tv) (fun i => d.zv (x.tv + i)) 0
  else if k = 4 then peekI (d.nc - x.tc) (fun i => d.zc (x.tc + i)) 0
  else if k = 5 then x.buf
  else if k = 6 then mixI x.buf 127 x.tm.c
  else if k = 7 then mixI x.buf 255 (x.pt.val (peekI (d.np - x.tp) (fun i => d.zp (x.tp + i)) 0))
  else if k = 8 then x.ri d r
  else 255
def Hp.rd (d : Hd) (x : Hp) (k r : Int) : Hp :=
  if k = 3 then { x with tv := x.tv + 1 }
  else if k = 4 then { x with tc := x.tc + 1 }
  else if k = 6 ∨ k = 8 then { x with buf := x.rv d k r }
  else if k = 7 then { x with buf := x.rv d k r, tp := if x.pt.takes then x.tp + 1 else x.tp }
  else x
def Hp.lim (x : Hp) (n : Nat) : Prop := x.tv ≤ n ∧ x.tc ≤ n ∧ x.tp ≤ n
theorem fp_shift {w : World} {g : Nat} {T : TypeId} {cs : Array Value} {o cb n t : Nat} {z : Nat → Int} (h : FP w g T cs o cb (n - t - 1) (fun i => z (t + (1 + i))) ((t : Int) + 1)) : FP w g T cs o cb (n - (t + 1)) (fun i => z (t + 1 + i)) ((t + 1 : Nat) : Int) :=
  h.congr (by omega) (fun i _ => by rw [Nat.add_assoc]) (by omega)
theorem stV_byte : ∀ t u2 u3 : Bool, 0 ≤ stV t u2 u3 ∧ stV t u2 u3 ≤ 255 := by decide +kernel
theorem Pt.val_byte (s : Pt) (v : Int) (h0 : 0 ≤ v) (h1 : v ≤ 255) : 0 ≤ s.val v ∧ s.val v ≤ 255 := by
  unfold Pt.val
  split
  · split <;> omega
  · omega
theorem qstatus_iv {w : World} {g : Nat} {T : TypeId} {cs : Array Value} {o : Nat} {s : Iq} (h : IQ w g T cs o s) {u2 u3 : Bool} {x : Int} (e : stV s.due u2 u3 = x) :
    Calls Tryz.prog 190 #[.pointer (some ⟨g, o, none⟩), .bool u2, .bool u3] w fun e w' => e = .returned (.int .u8 x) ∧ Below w.heap.size w w' := e ▸ qstatus_any h u2 u3
section
variable {w : World} {g : Nat} {d : Hd} {b : Hb} {x : Hp}
theorem HP.pbyte (h : HP w g d b x) : 0 ≤ peekI (d.np - x.tp) (fun i => d.zp (x.tp + i)) 0 ∧ peekI (d.np - x.tp) (fun i => d.zp (x.tp + i)) 0 ≤ 255 := by
  obtain ⟨A, c, hb, ho⟩ := h
  obtain ⟨v, _, hs⟩ := ho.p
  exact peekI_byte hs 0
set_option maxHeartbeats 4000000 in
theorem hreadirq_any (h : HP w g d b x) (r : Int) :
    Calls Tryz.prog 171 #[.pointer (some ⟨g, 0, none⟩), .int .i64 r] w (HpR (.int .u8 (x.ri d r)) g d b { x with buf := x.ri d r } [g] w) := by
  have b0 := h.ok.2.2.1.1
  have b1 := h.ok.2.2.1.2
  have k7 := h.ok.2.2.2.1
  have H := Lib.hid h
  by_cases h2 : r = 2
  · subst h2
    have e : x.ri d 2 = mixI x.buf 7 x.q.d := by unfold Hp.ri; rw [if_pos rfl]
    rw [e]
    have mb := mix_byte x.buf 7 x.q.d b0 b1 (by decide) (by decide) (by omega) (by omega)
    have MB := Lib.hid mb
    clear e h mb b0 b1 k7
    go_enter Tryz.func171, Tryz.ntmps171
    go_wp2_with fail
    refine rg_begin (S := fun w' => True) 9 #[false, false, false, false, false, false, false, false, false] (by kernel_rfl) (by kernel_rfl) (by kernel_rfl) ?_ (fun hHeld => ?_)
    · exact trivial
    refine rg_take (i := 0) (d := some 8) (l := #[true, false, false, false, false, false, false, false, false]) (fuel := 8) (v := ?_) rfl (by kernel_rfl) (by kernel_rfl) (by kernel_rfl) (by kernel_rfl) (by kernel_rfl) (fun _ _ _ h => h) (by kernel_rfl) ?_ (by assumption) ?_
    rotate_left 1
    · (intro wS hSw; (try dsimp only at hSw); go_simp; try with_reducible rfl)
    try simp only [Act.put, List.setIfInBounds_toArray, List.set_cons_zero, List.set_cons_succ]
    refine rg_take (i := 1) (d := some 9) (l := #[true, true, false, false, false, false, false, false, false]) (fuel := 7) (v := ?_) rfl (by kernel_rfl) (by kernel_rfl) (by kernel_rfl) (by kernel_rfl) (by kernel_rfl) (fun _ _ _ h => h) (by kernel_rfl) ?_ (by assumption) ?_
    rotate_left 1
    · (intro wS hSw; (try dsimp only at hSw); go_simp; try with_reducible rfl)
    try simp only [Act.put, List.setIfInBounds_toArray, List.set_cons_zero, List.set_cons_succ]
    refine rg_take (i := 2) (d := some 10) (l := #[true, true, true, false, false, false, false, false, false]) (fuel := 6) (v := ?_) rfl (by kernel_rfl) (by kernel_rfl) (by kernel_rfl) (by kernel_rfl) (by kernel_rfl) (fun _ _ _ h => h) (by kernel_rfl) ?_ (by assumption) ?_
    rotate_left 1
    · (intro wS hSw; (try dsimp only at hSw); go_simp; try with_reducible rfl)
    try simp only [Act.put, List.setIfInBounds_toArray, List.set_cons_zero, List.set_cons_succ]
    refine rg_take (i := 3) (d := some 11) (l := #[true, true, true, true, false, false, false, false, false]) (fuel := 5) (v := ?_) rfl (by kernel_rfl) (by kernel_rfl) (by kernel_rfl) (by kernel_rfl) (by kernel_rfl) (fun _ _ _ h => h) (by kernel_rfl) ?_ (by assumption) ?_
    rotate_left 1
    · (intro wS hSw; (try dsimp only at hSw); go_simp; try with_reducible rfl)
    try simp only [Act.put, List.setIfInBounds_toArray, List.set_cons_zero, List.set_cons_succ]
    refine rg_take (i := 4) (d := some 12) (l := #[true, true, true, true, true, false, false, false, false]) (fuel := 4) (v := ?_) rfl (by kernel_rfl) (by kernel_rfl) (by kernel_rfl) (by kernel_rfl) (by kernel_rfl) (fun _ _ _ h => h) (by kernel_rfl) ?_ (by assumption) ?_
    rotate_left 1
    · (intro wS hSw; (try dsimp only at hSw); go_simp; try with_reducible rfl)
    try simp only [Act.put, List.setIfInBounds_toArray, List.set_cons_zero, List.set_cons_succ]
    refine rg_take (i := 5) (d := some 13) (l := #[true, true, true, true, true, true, false, false, false]) (fuel := 3) (v := ?_) rfl (by kernel_rfl) (by kernel_rfl) (by kernel_rfl) (by kernel_rfl) (by kernel_rfl) (fun _ _ _ h => h) (by kernel_rfl) ?_ (by assumption) ?_
    rotate_left 1
    · (intro wS hSw; (try dsimp only at hSw); go_simp; try with_reducible rfl)
    try simp only [Act.put, List.setIfInBounds_toArray, List.set_cons_zero, List.set_cons_succ]
    refine rg_next (i := 6) (l := #[true, true, true, true, true, true, true, false, false]) (fuel := 2) (by kernel_rfl) rfl (by kernel_rfl) (by kernel_rfl) (fun K hK => ?_)
    go_simp
    (go_at_call 138)
    obtain ⟨cs, q1, q2⟩ := (H.out.kp0 (Kp.refl _ _).drew).irq
    refine (qdisable_any q1).mono ?_
    rintro e w' ⟨rfl, rfl⟩
    clear q1 q2 cs
    first | (refine hK.out _ _ ?_ (fun hHeld => ?_)) | (go_wp2_with fail; refine hK.out _ _ ?_ (fun hHeld => ?_))
    · (try dsimp only); try exact trivial
    clear hK K
    try simp only [Act.put, List.setIfInBounds_toArray, List.set_cons_zero, List.set_cons_succ]
    refine rg_next (i := 7) (l := #[true, true, true, true, true, true, true, true, false]) (fuel := 1) (by kernel_rfl) rfl (by kernel_rfl) (by kernel_rfl) (fun K hK => ?_)
    go_simp
    (go_at_call 169)
    obtain ⟨l1, l2, l3⟩ := (H.out.kp0 (Kp.refl _ _).drew).lat
    refine (plread_any l1 l2 7 x.q.d).mono ?_
    rintro e w1 ⟨rfl, rfl⟩
    have Y := Lib.hid (l3 _ MB.out.1 MB.out.2)
    clear l1 l2 l3
    first | (refine hK.out _ _ ?_ (fun hHeld => ?_)) | (go_wp2_with fail; refine hK.out _ _ ?_ (fun hHeld => ?_))
    · (try dsimp only); try exact trivial
    clear hK K
    try simp only [Act.put, List.setIfInBounds_toArray, List.set_cons_zero, List.set_cons_succ]
    refine rg_take (i := 8) (d := some 4) (l := #[true, true, true, true, true, true, true, true, true]) (fuel := 0) (v := ?_) rfl (by kernel_rfl) (by kernel_rfl) (by kernel_rfl) (by kernel_rfl) (by kernel_rfl) (fun _ _ _ h => h) (by kernel_rfl) ?_ (by assumption) ?_
    rotate_left 1
    · (intro wS hSw; (try dsimp only at hSw); go_simp; try with_reducible rfl)
    try simp only [Act.put, List.setIfInBounds_toArray, List.set_cons_zero, List.set_cons_succ]
    refine wpAnyH_done (by kernel_rfl) ?_ _
    go_wp2_with fail
    go_ret
    exact ⟨rfl, Y.out.1, ((Kp.refl [g] w).drew).trans Y.out.2 (by simp)⟩
  · have n2 : (r == 2) = false := by simpa using h2
    by_cases h3 : r = 3
    · subst h3
      obtain ⟨u2, hu2⟩ : ∃ u, upTo d.es x.s 2 = u := ⟨_, rfl⟩
      obtain ⟨u3, hu3⟩ : ∃ u, upTo d.es x.s 3 = u := ⟨_, rfl⟩
      obtain ⟨v, hv⟩ : ∃ v, stV x.q.due u2 u3 = v := ⟨_, rfl⟩
      have e : x.ri d 3 = mixI x.buf 7 v := by unfold Hp.ri; rw [if_neg (by decide), if_pos rfl, hu2, hu3, hv]
      rw [e]
      have vb := stV_byte x.q.due u2 u3
      rw [hv] at vb
      have mb := mix_byte x.buf 7 v b0 b1 (by decide) (by decide) vb.1 vb.2
      have MB := Lib.hid mb
      have U2 := Lib.hid hu2
      have U3 := Lib.hid hu3
      have HV := Lib.hid hv
      clear e h mb b0 b1 k7 h2 n2 hu2 hu3 hv vb
      go_enter Tryz.func171, Tryz.ntmps171
      go_wp2_with fail
      refine rg_begin (S := fun w' => True) 17 #[false, false, false, false, false, false, false, false, false, false, false, false, false, false, false, false, false] (by kernel_rfl) (by kernel_rfl) (by kernel_rfl) ?_ (fun hHeld => ?_)
      · exact trivial
      refine rg_take (i := 0) (d := some 18) (l := #[true, false, false, false, false, false, false, false, false, false, false, false, false, false, false, false, false]) (fuel := 16) (v := ?_) rfl (by kernel_rfl) (by kernel_rfl) (by kernel_rfl) (by kernel_rfl) (by kernel_rfl) (fun _ _ _ h => h) (by kernel_rfl) ?_ (by assumption) ?_
      rotate_left 1
      · (intro wS hSw; (try dsimp only at hSw); go_simp; try with_reducible rfl)
      try simp only [Act.put, List.setIfInBounds_toArray, List.set_cons_zero, List.set_cons_succ]
      refine rg_take (i := 1) (d := some 19) (l := #[true, true, false, false, false, false, false, false, false, false, false, false, false, false, false, false, false]) (fuel := 15) (v := ?_) rfl (by kernel_rfl) (by kernel_rfl) (by kernel_rfl) (by kernel_rfl) (by kernel_rfl) (fun _ _ _ h => h) (by kernel_rfl) ?_ (by assumption) ?_
      rotate_left 1
      · (intro wS hSw; (try dsimp only at hSw); go_simp; try with_reducible rfl)
      try simp only [Act.put, List.setIfInBounds_toArray, List.set_cons_zero, List.set_cons_succ]
      refine rg_take (i := 2) (d := some 20) (l := #[true, true, true, false, false, false, false, false, false, false, false, false, false, false, false, false, false]) (fuel := 14) (v := ?_) rfl (by kernel_rfl) (by kernel_rfl) (by kernel_rfl) (by kernel_rfl) (by kernel_rfl) (fun _ _ _ h => h) (by kernel_rfl) ?_ (by assumption) ?_
      rotate_left 1
      · (intro wS hSw; (try dsimp only at hSw); go_simp; try with_reducible rfl)
      try simp only [Act.put, List.setIfInBounds_toArray, List.set_cons_zero, List.set_cons_succ]
      refine rg_take (i := 3) (d := some 21) (l := #[true, true, true, true, false, false, false, false, false, false, false, false, false, false, false, false, false]) (fuel := 13) (v := ?_) rfl (by kernel_rfl) (by kernel_rfl) (by kernel_rfl) (by kernel_rfl) (by kernel_rfl) (fun _ _ _ h => h) (by kernel_rfl) ?_ (by assumption) ?_
      rotate_left 1
      · (intro wS hSw; (try dsimp only at hSw); go_simp; try with_reducible rfl)
      try simp only [Act.put, List.setIfInBounds_toArray, List.set_cons_zero, List.set_cons_succ]
      refine rg_take (i := 4) (d := some 22) (l := #[true, true, true, true, true, false, false, false, false, false, false, false, false, false, false, false, false]) (fuel := 12) (v := ?_) rfl (by kernel_rfl) (by kernel_rfl) (by kernel_rfl) (by kernel_rfl) (by kernel_rfl) (fun _ _ _ h => h) (by kernel_rfl) ?_ (by assumption) ?_
      rotate_left 1
      · (intro wS hSw; (try dsimp only at hSw); go_simp; try with_reducible rfl)
      try simp only [Act.put, List.setIfInBounds_toArray, List.set_cons_zero, List.set_cons_succ]
      refine rg_take (i := 5) (d := some 23) (l := #[true, true, true, true, true, true, false, false, false, false, false, false, false, false, false, false, false]) (fuel := 11) (v := ?_) rfl (by kernel_rfl) (by kernel_rfl) (by kernel_rfl) (by kernel_rfl) (by kernel_rfl) (fun _ _ _ h => h) (by kernel_rfl) ?_ (by assumption) ?_
      rotate_left 1
      · (intro wS hSw; (try dsimp only at hSw); go_simp; try with_reducible rfl)
      try simp only [Act.put, List.setIfInBounds_toArray, List.set_cons_zero, List.set_cons_succ]
      refine rg_take (i := 6) (d := some 24) (l := #[true, true, true, true, true, true, true, false, false, false, false, false, false, false, false, false, false]) (fuel := 10) (v := ?_) rfl (by kernel_rfl) (by kernel_rfl) (by kernel_rfl) (by kernel_rfl) (by kernel_rfl) (fun _ _ _ h => h) (by kernel_rfl) ?_ (by assumption) ?_
      rotate_left 1
      · (intro wS hSw; (try dsimp only at hSw); go_simp; try with_reducible rfl)
      try simp only [Act.put, List.setIfInBounds_toArray, List.set_cons_zero, List.set_cons_succ]
      refine rg_take (i := 7) (d := some 25) (l := #[true, true, true, true, true, true, true, true, false, false, false, false, false, false, false, false, false]) (fuel := 9) (v := ?_) rfl (by kernel_rfl) (by kernel_rfl) (by kernel_rfl) (by kernel_rfl) (by kernel_rfl) (fun _ _ _ h => h) (by kernel_rfl) ?_ (by assumption) ?_
      rotate_left 1
      · (intro wS hSw; (try dsimp only at hSw); go_simp; try with_reducible rfl)
      try simp only [Act.put, List.setIfInBounds_toArray, List.set_cons_zero, List.set_cons_succ]
      refine rg_take (i := 8) (d := some 26) (l := #[true, true, true, true, true, true, true, true, true, false, false, false, false, false, false, false, false]) (fuel := 8) (v := ?_) rfl (by kernel_rfl) (by kernel_rfl) (by kernel_rfl) (by kernel_rfl) (by kernel_rfl) (fun _ _ _ h => h) (by kernel_rfl) ?_ (by assumption) ?_
      rotate_left 1
      · (intro wS hSw; (try dsimp only at hSw); go_simp; try with_reducible rfl)
      try simp only [Act.put, List.setIfInBounds_toArray, List.set_cons_zero, List.set_cons_succ]
      refine rg_take (i := 10) (d := some 28) (l := #[true, true, true, true, true, true, true, true, true, false, true, false, false, false, false, false, false]) (fuel := 7) (v := ?_) rfl (by kernel_rfl) (by kernel_rfl) (by kernel_rfl) (by kernel_rfl) (by kernel_rfl) (fun _ _ _ h => h) (by kernel_rfl) ?_ (by assumption) ?_
      rotate_left 1
      · (intro wS hSw; (try dsimp only at hSw); go_simp; try with_reducible rfl)
      try simp only [Act.put, List.setIfInBounds_toArray, List.set_cons_zero, List.set_cons_succ]
      refine rg_take (i := 11) (d := some 29) (l := #[true, true, true, true, true, true, true, true, true, false, true, true, false, false, false, false, false]) (fuel := 6) (v := ?_) rfl (by kernel_rfl) (by kernel_rfl) (by kernel_rfl) (by kernel_rfl) (by kernel_rfl) (fun _ _ _ h => h) (by kernel_rfl) ?_ (by assumption) ?_
      rotate_left 1
      · (intro wS hSw; (try dsimp only at hSw); go_simp; try with_reducible rfl)
      try simp only [Act.put, List.setIfInBounds_toArray, List.set_cons_zero, List.set_cons_succ]
      refine rg_take (i := 12) (d := some 30) (l := #[true, true, true, true, true, true, true, true, true, false, true, true, true, false, false, false, false]) (fuel := 5) (v := ?_) rfl (by kernel_rfl) (by kernel_rfl) (by kernel_rfl) (by kernel_rfl) (by kernel_rfl) (fun _ _ _ h => h) (by kernel_rfl) ?_ (by assumption) ?_
      rotate_left 1
      · (intro wS hSw; (try dsimp only at hSw); go_simp; try with_reducible rfl)
      try simp only [Act.put, List.setIfInBounds_toArray, List.set_cons_zero, List.set_cons_succ]
      refine rg_next (i := 9) (l := #[true, true, true, true, true, true, true, true, true, true, true, true, true, false, false, false, false]) (fuel := 4) (by kernel_rfl) rfl (by kernel_rfl) (by kernel_rfl) (fun K hK => ?_)
      go_simp
      (go_at_call 134)
      refine (hup_v (H.out.kp0 (Kp.refl _ _).drew).lns.1 2 (by decide) rfl U2.out).mono ?_
      rintro e w' ⟨rfl, rfl⟩
      first | (refine hK.out _ _ ?_ (fun hHeld => ?_)) | (go_wp2_with fail; refine hK.out _ _ ?_ (fun hHeld => ?_))
      · (try dsimp only); try exact trivial
      clear hK K
      try simp only [Act.put, List.setIfInBounds_toArray, List.set_cons_zero, List.set_cons_succ]
      refine rg_next (i := 13) (l := #[true, true, true, true, true, true, true, true, true, true, true, true, true, true, false, false, false]) (fuel := 3) (by kernel_rfl) rfl (by kernel_rfl) (by kernel_rfl) (fun K hK => ?_)
      go_simp
      (go_at_call 134)
      refine (hup_v (H.out.kp0 (Kp.refl _ _).drew).lns.1 3 (by decide) rfl U3.out).mono ?_
      rintro e w' ⟨rfl, rfl⟩
      first | (refine hK.out _ _ ?_ (fun hHeld => ?_)) | (go_wp2_with fail; refine hK.out _ _ ?_ (fun hHeld => ?_))
      · (try dsimp only); try exact trivial
      clear hK K
      try simp only [Act.put, List.setIfInBounds_toArray, List.set_cons_zero, List.set_cons_succ]
      refine rg_next (i := 14) (l := #[true, true, true, true, true, true, true, true, true, true, true, true, true, true, true, false, false]) (fuel := 2) (by kernel_rfl) rfl (by kernel_rfl) (by kernel_rfl) (fun K hK => ?_)
      go_simp
      (go_at_call 190)
      obtain ⟨cs, q1, q2⟩ := (H.out.kp0 (Kp.refl _ _).drew).irq
      refine (qstatus_iv q1 HV.out).mono ?_
      rintro e w1 ⟨rfl, b1⟩
      have H1 := Lib.hid ((H.out.kp0 (Kp.refl _ _).drew).keep b1)
      have K1 : Hid (Kp [g] w w1) := Lib.hid (((Kp.refl [g] w).drew).trans (Kp.of_below (L := [g]) b1) (by simp))
      clear q1 q2 cs b1 H
      first | (refine hK.out _ _ ?_ (fun hHeld => ?_)) | (go_wp2_with fail; refine hK.out _ _ ?_ (fun hHeld => ?_))
      · (try dsimp only); try exact trivial
      clear hK K
      try simp only [Act.put, List.setIfInBounds_toArray, List.set_cons_zero, List.set_cons_succ]
      refine rg_next (i := 15) (l := #[true, true, true, true, true, true, true, true, true, true, true, true, true, true, true, true, false]) (fuel := 1) (by kernel_rfl) rfl (by kernel_rfl) (by kernel_rfl) (fun K hK => ?_)
      go_simp
      (go_at_call 169)
      obtain ⟨l1, l2, l3⟩ := H1.out.lat
      refine (plread_any l1 l2 7 v).mono ?_
      rintro e w2 ⟨rfl, rfl⟩
      have Y := Lib.hid (l3 _ MB.out.1 MB.out.2)
      clear l1 l2 l3
      first | (refine hK.out _ _ ?_ (fun hHeld => ?_)) | (go_wp2_with fail; refine hK.out _ _ ?_ (fun hHeld => ?_))
      · (try dsimp only); try exact trivial
      clear hK K
      try simp only [Act.put, List.setIfInBounds_toArray, List.set_cons_zero, List.set_cons_succ]
      refine rg_take (i := 16) (d := some 4) (l := #[true, true, true, true, true, true, true, true, true, true, true, true, true, true, true, true, true]) (fuel := 0) (v := ?_) rfl (by kernel_rfl) (by kernel_rfl) (by kernel_rfl) (by kernel_rfl) (by kernel_rfl) (fun _ _ _ h => h) (by kernel_rfl) ?_ (by assumption) ?_
      rotate_left 1
      · (intro wS hSw; (try dsimp only at hSw); go_simp; try with_reducible rfl)
      try simp only [Act.put, List.setIfInBounds_toArray, List.set_cons_zero, List.set_cons_succ]
      refine wpAnyH_done (by kernel_rfl) ?_ _
      go_wp2_with fail
      go_ret
      exact ⟨rfl, Y.out.1, K1.out.trans Y.out.2 (by simp)⟩
    · have n3 : (r == 3) = false := by simpa using h3
      have e : x.ri d r = x.buf := by unfold Hp.ri; rw [if_neg h2, if_neg h3]
      rw [e]
      clear e h
      obtain ⟨l1, l2, l3⟩ := H.out.lat
      have L1 := Lib.hid l1
      clear l1 l2 l3
      go_enter Tryz.func171, Tryz.ntmps171
      go_wp2_with fail
      refine (pvalue_any L1.out).mono ?_
      rintro e w' ⟨rfl, rfl⟩
      go_wp2_with fail
      go_ret
      exact ⟨rfl, H.out, Kp.refl _ _⟩
end
end Go.Proofs.YtccimkmlbcgekaaGreat
