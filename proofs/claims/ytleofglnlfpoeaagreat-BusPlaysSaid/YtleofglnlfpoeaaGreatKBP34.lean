/-
  Texts of these proofs, one behind the other: Rh4, Rb2, Rb3.
-/
import Derived.Test.YtleofglnlfpoeaaGreatKBP30
import Derived.Test.YtleofglnlfpoeaaGreatKBP33
import Derived.Test.YtleofglnlfpoeaaGreatKBP31
import Derived.Deep.Cut
import Derived.Deep.CutRange
import Derived.Deep.CutBlock
import Derived.Deep.RegionHeld3
namespace Go.Proofs.YtleofglnlfpoeaaGreat
open Go.RowKit
set_option linter.unusedVariables false
set_option linter.unusedSimpArgs false
set_option maxRecDepth 100000
section
variable {w : World} {r : Nat} {d : Hd} {J : Rr} {Z : Rz} {x : Hp}
set_option maxHeartbeats 8000000 in
theorem rhstatus_any (h : RHp w r d J Z x) :
    Calls Tryz.prog 59 #[.pointer (some ⟨r, 0, none⟩)] w fun e w' => e = .returned (.agg (stC x)) ∧ Below w.heap.size w w' := by
  have hb0 : Below w.heap.size w (w.alloc (.cells #[.int .u8 0, .int .u8 0, .int .u8 0, .int .u8 0, .int .u8 0, .int .i64 0, .bool false, .bool false, .bool false, .int .i64 0, .int .i64 0, .int .i64 0] 68)) := (Below.refl _ _).alloc (Nat.le_refl _) _
  have H := h.keep hb0
  have HB := Lib.hid hb0
  have HL := Lib.hid (Blk.new w 68 #[.int .u8 0, .int .u8 0, .int .u8 0, .int .u8 0, .int .u8 0, .int .i64 0, .bool false, .bool false, .bool false, .int .i64 0, .int .i64 0, .int .i64 0])
  obtain ⟨left, hleft⟩ : ∃ l, 3072 - (x.tm.gone : Int) = l := ⟨_, rfl⟩
  obtain ⟨c0, c1, c2, c3, c4, c5, c6, c7⟩ := H.cells
  have a0 : (w.alloc (.cells #[.int .u8 0, .int .u8 0, .int .u8 0, .int .u8 0, .int .u8 0, .int .i64 0, .bool false, .bool false, .bool false, .int .i64 0, .int .i64 0, .int .i64 0] 68)).cell? ⟨J.t, 0, none⟩ = some (.int .u8 x.tm.r) := H.tm.1.cell 0
  have a1 : (w.alloc (.cells #[.int .u8 0, .int .u8 0, .int .u8 0, .int .u8 0, .int .u8 0, .int .i64 0, .bool false, .bool false, .bool false, .int .i64 0, .int .i64 0, .int .i64 0] 68)).cell? ⟨J.t, 1, none⟩ = some (.int .u8 x.tm.c) := H.tm.1.cell 1
  have a2 : (w.alloc (.cells #[.int .u8 0, .int .u8 0, .int .u8 0, .int .u8 0, .int .u8 0, .int .i64 0, .bool false, .bool false, .bool false, .int .i64 0, .int .i64 0, .int .i64 0] 68)).cell? ⟨J.t, 2, none⟩ = some (.bool x.tm.on) := H.tm.1.cell 2
  have a3 : (w.alloc (.cells #[.int .u8 0, .int .u8 0, .int .u8 0, .int .u8 0, .int .u8 0, .int .i64 0, .bool false, .bool false, .bool false, .int .i64 0, .int .i64 0, .int .i64 0] 68)).cell? ⟨J.t, 3, none⟩ = some (.int .i64 left) := by rw [← hleft]; exact H.tm.1.cell 3
  have b0 : (w.alloc (.cells #[.int .u8 0, .int .u8 0, .int .u8 0, .int .u8 0, .int .u8 0, .int .i64 0, .bool false, .bool false, .bool false, .int .i64 0, .int .i64 0, .int .i64 0] 68)).cell? ⟨J.q, 0, none⟩ = some (.int .u8 x.q.d) := H.q.1.cell 0
  have b1 : (w.alloc (.cells #[.int .u8 0, .int .u8 0, .int .u8 0, .int .u8 0, .int .u8 0, .int .i64 0, .bool false, .bool false, .bool false, .int .i64 0, .int .i64 0, .int .i64 0] 68)).cell? ⟨J.q, 1, none⟩ = some (.bool x.q.due) := H.q.1.cell 1
  have p1 : (w.alloc (.cells #[.int .u8 0, .int .u8 0, .int .u8 0, .int .u8 0, .int .u8 0, .int .i64 0, .bool false, .bool false, .bool false, .int .i64 0, .int .i64 0, .int .i64 0] 68)).cell? ⟨J.p, 1, none⟩ = some (.int .i64 x.tp) := H.pt.1.cell 1
  have p2 : (w.alloc (.cells #[.int .u8 0, .int .u8 0, .int .u8 0, .int .u8 0, .int .u8 0, .int .i64 0, .bool false, .bool false, .bool false, .int .i64 0, .int .i64 0, .int .i64 0] 68)).cell? ⟨J.p, 2, none⟩ = some (.int .u8 x.pt.l) := H.pt.1.cell 2
  have v1 : (w.alloc (.cells #[.int .u8 0, .int .u8 0, .int .u8 0, .int .u8 0, .int .u8 0, .int .i64 0, .bool false, .bool false, .bool false, .int .i64 0, .int .i64 0, .int .i64 0] 68)).cell? ⟨J.v, 1, none⟩ = some (.int .i64 x.tv) := H.v.cell 1
  have k1 : (w.alloc (.cells #[.int .u8 0, .int .u8 0, .int .u8 0, .int .u8 0, .int .u8 0, .int .i64 0, .bool false, .bool false, .bool false, .int .i64 0, .int .i64 0, .int .i64 0] 68)).cell? ⟨J.c, 1, none⟩ = some (.int .i64 x.tc) := H.c.cell 1
  have l2 : (w.alloc (.cells #[.int .u8 0, .int .u8 0, .int .u8 0, .int .u8 0, .int .u8 0, .int .i64 0, .bool false, .bool false, .bool false, .int .i64 0, .int .i64 0, .int .i64 0] 68)).cell? ⟨J.l, 2, none⟩ = some (.bool x.ro) := H.l.cell 2
  have HLEFT := Lib.hid hleft
  have e0 : (w.alloc (.cells #[.int .u8 0, .int .u8 0, .int .u8 0, .int .u8 0, .int .u8 0, .int .i64 0, .bool false, .bool false, .bool false, .int .i64 0, .int .i64 0, .int .i64 0] 68)).cell? ⟨w.heap.size, 0, none⟩ = some (.int .u8 0) := HL.out.cell 0
  have f0 := HL.out.frozen 0
  have e1 : (w.alloc (.cells #[.int .u8 0, .int .u8 0, .int .u8 0, .int .u8 0, .int .u8 0, .int .i64 0, .bool false, .bool false, .bool false, .int .i64 0, .int .i64 0, .int .i64 0] 68)).cell? ⟨w.heap.size, 1, none⟩ = some (.int .u8 0) := HL.out.cell 1
  have f1 := HL.out.frozen 1
  have e2 : (w.alloc (.cells #[.int .u8 0, .int .u8 0, .int .u8 0, .int .u8 0, .int .u8 0, .int .i64 0, .bool false, .bool false, .bool false, .int .i64 0, .int .i64 0, .int .i64 0] 68)).cell? ⟨w.heap.size, 2, none⟩ = some (.int .u8 0) := HL.out.cell 2
  have f2 := HL.out.frozen 2
  have e3 : (w.alloc (.cells #[.int .u8 0, .int .u8 0, .int .u8 0, .int .u8 0, .int .u8 0, .int .i64 0, .bool false, .bool false, .bool false, .int .i64 0, .int .i64 0, .int .i64 0] 68)).cell? ⟨w.heap.size, 3, none⟩ = some (.int .u8 0) := HL.out.cell 3
  have f3 := HL.out.frozen 3
  have e4 : (w.alloc (.cells #[.int .u8 0, .int .u8 0, .int .u8 0, .int .u8 0, .int .u8 0, .int .i64 0, .bool false, .bool false, .bool false, .int .i64 0, .int .i64 0, .int .i64 0] 68)).cell? ⟨w.heap.size, 4, none⟩ = some (.int .u8 0) := HL.out.cell 4
  have f4 := HL.out.frozen 4
  have e5 : (w.alloc (.cells #[.int .u8 0, .int .u8 0, .int .u8 0, .int .u8 0, .int .u8 0, .int .i64 0, .bool false, .bool false, .bool false, .int .i64 0, .int .i64 0, .int .i64 0] 68)).cell? ⟨w.heap.size, 5, none⟩ = some (.int .i64 0) := HL.out.cell 5
  have f5 := HL.out.frozen 5
  have e6 : (w.alloc (.cells #[.int .u8 0, .int .u8 0, .int .u8 0, .int .u8 0, .int .u8 0, .int .i64 0, .bool false, .bool false, .bool false, .int .i64 0, .int .i64 0, .int .i64 0] 68)).cell? ⟨w.heap.size, 6, none⟩ = some (.bool false) := HL.out.cell 6
  have f6 := HL.out.frozen 6
  have e7 : (w.alloc (.cells #[.int .u8 0, .int .u8 0, .int .u8 0, .int .u8 0, .int .u8 0, .int .i64 0, .bool false, .bool false, .bool false, .int .i64 0, .int .i64 0, .int .i64 0] 68)).cell? ⟨w.heap.size, 7, none⟩ = some (.bool false) := HL.out.cell 7
  have f7 := HL.out.frozen 7
  have e8 : (w.alloc (.cells #[.int .u8 0, .int .u8 0, .int .u8 0, .int .u8 0, .int .u8 0, .int .i64 0, .bool false, .bool false, .bool false, .int .i64 0, .int .i64 0, .int .i64 0] 68)).cell? ⟨w.heap.size, 8, none⟩ = some (.bool false) := HL.out.cell 8
  have f8 := HL.out.frozen 8
  have e9 : (w.alloc (.cells #[.int .u8 0, .int .u8 0, .int .u8 0, .int .u8 0, .int .u8 0, .int .i64 0, .bool false, .bool false, .bool false, .int .i64 0, .int .i64 0, .int .i64 0] 68)).cell? ⟨w.heap.size, 9, none⟩ = some (.int .i64 0) := HL.out.cell 9
  have f9 := HL.out.frozen 9
  have e10 : (w.alloc (.cells #[.int .u8 0, .int .u8 0, .int .u8 0, .int .u8 0, .int .u8 0, .int .i64 0, .bool false, .bool false, .bool false, .int .i64 0, .int .i64 0, .int .i64 0] 68)).cell? ⟨w.heap.size, 10, none⟩ = some (.int .i64 0) := HL.out.cell 10
  have f10 := HL.out.frozen 10
  have e11 : (w.alloc (.cells #[.int .u8 0, .int .u8 0, .int .u8 0, .int .u8 0, .int .u8 0, .int .i64 0, .bool false, .bool false, .bool false, .int .i64 0, .int .i64 0, .int .i64 0] 68)).cell? ⟨w.heap.size, 11, none⟩ = some (.int .i64 0) := HL.out.cell 11
  have f11 := HL.out.frozen 11
  have HH := Lib.hid H
  have HLT : Hid (r < w.heap.size ∧ J.t < w.heap.size ∧ J.q < w.heap.size ∧ J.p < w.heap.size ∧ J.v < w.heap.size ∧ J.c < w.heap.size ∧ J.l < w.heap.size) := Lib.hid ⟨h.pg.lt, h.tm.1.lt, h.q.1.lt, h.pt.1.lt, h.v.lt, h.c.lt, h.l.lt⟩
  clear h H hb0 hleft
  go_enter Tryz.func59, Tryz.ntmps59
  go_wp2_with fail
  have HN : Hid (∀ w' : World, Kp [w.heap.size] (w.alloc (.cells #[.int .u8 0, .int .u8 0, .int .u8 0, .int .u8 0, .int .u8 0, .int .i64 0, .bool false, .bool false, .bool false, .int .i64 0, .int .i64 0, .int .i64 0] 68)) w' → w'.cell? ⟨r, 0, none⟩ = some (.int .u8 x.buf) ∧ w'.cell? ⟨r, 1, none⟩ = some (.pointer (some ⟨J.t, 0, none⟩)) ∧ w'.cell? ⟨r, 2, none⟩ = some (.pointer (some ⟨J.q, 0, none⟩)) ∧ w'.cell? ⟨r, 3, none⟩ = some (.pointer (some ⟨J.p, 0, none⟩)) ∧ w'.cell? ⟨r, 4, none⟩ = some (.pointer (some ⟨J.v, 0, none⟩)) ∧ w'.cell? ⟨r, 5, none⟩ = some (.pointer (some ⟨J.c, 0, none⟩)) ∧ w'.cell? ⟨r, 6, none⟩ = some (.pointer (some ⟨J.l, 0, none⟩)) ∧ w'.cell? ⟨J.t, 0, none⟩ = some (.int .u8 x.tm.r) ∧ w'.cell? ⟨J.t, 1, none⟩ = some (.int .u8 x.tm.c) ∧ w'.cell? ⟨J.t, 2, none⟩ = some (.bool x.tm.on) ∧ w'.cell? ⟨J.t, 3, none⟩ = some (.int .i64 left) ∧ w'.cell? ⟨J.q, 0, none⟩ = some (.int .u8 x.q.d) ∧ w'.cell? ⟨J.q, 1, none⟩ = some (.bool x.q.due) ∧ w'.cell? ⟨J.p, 1, none⟩ = some (.int .i64 x.tp) ∧ w'.cell? ⟨J.p, 2, none⟩ = some (.int .u8 x.pt.l) ∧ w'.cell? ⟨J.v, 1, none⟩ = some (.int .i64 x.tv) ∧ w'.cell? ⟨J.c, 1, none⟩ = some (.int .i64 x.tc) ∧ w'.cell? ⟨J.l, 2, none⟩ = some (.bool x.ro)) := Lib.hid fun w' k => by
    have h' := HH.out.kp k (by simp; have := HLT.out; omega)
    obtain ⟨c0, c1, c2, c3, c4, c5, c6, c7⟩ := h'.cells
    exact ⟨c0, c1, c2, c3, c4, c5, c6, h'.tm.1.cell 0, h'.tm.1.cell 1, h'.tm.1.cell 2, (by rw [← HLEFT.out]; exact h'.tm.1.cell 3), h'.q.1.cell 0, h'.q.1.cell 1, h'.pt.1.cell 1, h'.pt.1.cell 2, h'.v.cell 1, h'.c.cell 1, h'.l.cell 2⟩
  obtain ⟨w0, hw0⟩ : ∃ w0, w.alloc (.cells #[.int .u8 0, .int .u8 0, .int .u8 0, .int .u8 0, .int .u8 0, .int .i64 0, .bool false, .bool false, .bool false, .int .i64 0, .int .i64 0, .int .i64 0] 68) = w0 := ⟨_, rfl⟩
  rw [hw0] at HN HB HL HH c0 c1 c2 c3 c4 c5 c6 c7 a0 a1 a2 a3 b0 b1 p1 p2 v1 k1 l2 e0 f0 e1 f1 e2 f2 e3 f3 e4 f4 e5 f5 e6 f6 e7 f7 e8 f8 e9 f9 e10 f10 e11 f11
  rw [hw0]
  clear hw0
  obtain ⟨rr, hrr⟩ : ∃ rr, w.heap.size = rr := ⟨_, rfl⟩
  have HRR := Lib.hid hrr
  rw [hrr] at HN HL e0 f0 e1 f1 e2 f2 e3 f3 e4 f4 e5 f5 e6 f6 e7 f7 e8 f8 e9 f9 e10 f10 e11 f11
  simp only [hrr]
  clear hrr
  refine rg_begin (S := fun w' => w'.cell? ⟨r, 0, none⟩ = some (.int .u8 x.buf) ∧ w'.cell? ⟨r, 1, none⟩ = some (.pointer (some ⟨J.t, 0, none⟩)) ∧ w'.cell? ⟨r, 2, none⟩ = some (.pointer (some ⟨J.q, 0, none⟩)) ∧ w'.cell? ⟨r, 3, none⟩ = some (.pointer (some ⟨J.p, 0, none⟩)) ∧ w'.cell? ⟨r, 4, none⟩ = some (.pointer (some ⟨J.v, 0, none⟩)) ∧ w'.cell? ⟨r, 5, none⟩ = some (.pointer (some ⟨J.c, 0, none⟩)) ∧ w'.cell? ⟨r, 6, none⟩ = some (.pointer (some ⟨J.l, 0, none⟩)) ∧ w'.cell? ⟨J.t, 0, none⟩ = some (.int .u8 x.tm.r) ∧ w'.cell? ⟨J.t, 1, none⟩ = some (.int .u8 x.tm.c) ∧ w'.cell? ⟨J.t, 2, none⟩ = some (.bool x.tm.on) ∧ w'.cell? ⟨J.t, 3, none⟩ = some (.int .i64 left) ∧ w'.cell? ⟨J.q, 0, none⟩ = some (.int .u8 x.q.d) ∧ w'.cell? ⟨J.q, 1, none⟩ = some (.bool x.q.due) ∧ w'.cell? ⟨J.p, 1, none⟩ = some (.int .i64 x.tp) ∧ w'.cell? ⟨J.p, 2, none⟩ = some (.int .u8 x.pt.l) ∧ w'.cell? ⟨J.v, 1, none⟩ = some (.int .i64 x.tv) ∧ w'.cell? ⟨J.c, 1, none⟩ = some (.int .i64 x.tc) ∧ w'.cell? ⟨J.l, 2, none⟩ = some (.bool x.ro)) 84 #[false, false, false, false, false, false, false, false, false, false, false, false, false, false, false, false, false, false, false, false, false, false, false, false, false, false, false, false, false, false, false, false, false, false, false, false, false, false, false, false, false, false, false, false, false, false, false, false, false, false, false, false, false, false, false, false, false, false, false, false, false, false, false, false, false, false, false, false, false, false, false, false, false, false, false, false, false, false, false, false, false, false, false, false] (by kernel_rfl) (by kernel_rfl) (by kernel_rfl) ?_ (fun hHeld => ?_)
  · exact ⟨c0, c1, c2, c3, c4, c5, c6, a0, a1, a2, a3, b0, b1, p1, p2, v1, k1, l2⟩
  refine rgt 0 (some 3) (v := ?_) rfl ?_ ?_
  rotate_left 1
  · (intro wS hSw; (try dsimp only at hSw); go_simp; try with_reducible rfl)
  refine rgt 1 (some 4) (v := ?_) rfl ?_ ?_
  rotate_left 1
  · (intro wS hSw; (try dsimp only at hSw); go_simp; try with_reducible rfl)
  refine rgt 2 (some 5) (v := ?_) rfl ?_ ?_
  rotate_left 1
  · (intro wS hSw; (try dsimp only at hSw); go_simp; try with_reducible rfl)
  refine rgt 3 (some 6) (v := ?_) rfl ?_ ?_
  rotate_left 1
  · (intro wS hSw; (try dsimp only at hSw); go_simp; try with_reducible rfl)
  refine rgt 4 (some 7) (v := ?_) rfl ?_ ?_
  rotate_left 1
  · (intro wS hSw; (try dsimp only at hSw); go_simp; try with_reducible rfl)
  refine rgt 5 (some 8) (v := ?_) rfl ?_ ?_
  rotate_left 1
  · (intro wS hSw; (try dsimp only at hSw); go_simp; try with_reducible rfl)
  refine rgt 6 (some 9) (v := ?_) rfl ?_ ?_
  rotate_left 1
  · (intro wS hSw; (try dsimp only at hSw); go_simp; try with_reducible rfl)
  refine rgt 7 (some 10) (v := ?_) rfl ?_ ?_
  rotate_left 1
  · (intro wS hSw; (try dsimp only at hSw); go_simp; try with_reducible rfl)
  refine rgt 8 (some 11) (v := ?_) rfl ?_ ?_
  rotate_left 1
  · (intro wS hSw; (try dsimp only at hSw); go_simp; try with_reducible rfl)
  refine rgt 9 (some 12) (v := ?_) rfl ?_ ?_
  rotate_left 1
  · (intro wS hSw; (try dsimp only at hSw); go_simp; try with_reducible rfl)
  refine rgt 10 (some 13) (v := ?_) rfl ?_ ?_
  rotate_left 1
  · (intro wS hSw; (try dsimp only at hSw); go_simp; try with_reducible rfl)
  refine rgt 11 (some 14) (v := ?_) rfl ?_ ?_
  rotate_left 1
  · (intro wS hSw; (try dsimp only at hSw); go_simp; try with_reducible rfl)
  refine rgt 12 (some 15) (v := ?_) rfl ?_ ?_
  rotate_left 1
  · (intro wS hSw; (try dsimp only at hSw); go_simp; try with_reducible rfl)
  refine rgt 13 (some 16) (v := ?_) rfl ?_ ?_
  rotate_left 1
  · (intro wS hSw; (try dsimp only at hSw); go_simp; try with_reducible rfl)
  refine rgt 14 (some 17) (v := ?_) rfl ?_ ?_
  rotate_left 1
  · (intro wS hSw; (try dsimp only at hSw); go_simp; try with_reducible rfl)
  refine rgt 15 (some 18) (v := ?_) rfl ?_ ?_
  rotate_left 1
  · (intro wS hSw; (try dsimp only at hSw); go_simp; try with_reducible rfl)
  refine rgt 16 (some 19) (v := ?_) rfl ?_ ?_
  rotate_left 1
  · (intro wS hSw; (try dsimp only at hSw); go_simp; try with_reducible rfl)
  refine rgt 17 (some 20) (v := ?_) rfl ?_ ?_
  rotate_left 1
  · (intro wS hSw; (try dsimp only at hSw); go_simp; try with_reducible rfl)
  refine rgt 18 (some 21) (v := ?_) rfl ?_ ?_
  rotate_left 1
  · (intro wS hSw; (try dsimp only at hSw); go_simp; try with_reducible rfl)
  refine rgt 19 (some 22) (v := ?_) rfl ?_ ?_
  rotate_left 1
  · (intro wS hSw; (try dsimp only at hSw); go_simp; try with_reducible rfl)
  refine rgt 20 (some 23) (v := ?_) rfl ?_ ?_
  rotate_left 1
  · (intro wS hSw; (try dsimp only at hSw); go_simp; try with_reducible rfl)
  refine rgt 21 (some 24) (v := ?_) rfl ?_ ?_
  rotate_left 1
  · (intro wS hSw; (try dsimp only at hSw); go_simp; try with_reducible rfl)
  refine rgt 22 (some 25) (v := ?_) rfl ?_ ?_
  rotate_left 1
  · (intro wS hSw; (try dsimp only at hSw); go_simp; try with_reducible rfl)
  refine rgt 23 (some 26) (v := ?_) rfl ?_ ?_
  rotate_left 1
  · (intro wS hSw; (try dsimp only at hSw); go_simp; try with_reducible rfl)
  refine rgt 24 (some 27) (v := ?_) rfl ?_ ?_
  rotate_left 1
  · (intro wS hSw; (try dsimp only at hSw); go_simp; try with_reducible rfl)
  refine rgt 25 (some 28) (v := ?_) rfl ?_ ?_
  rotate_left 1
  · (intro wS hSw; (try dsimp only at hSw); go_simp; try with_reducible rfl)
  refine rgt 26 (some 29) (v := ?_) rfl ?_ ?_
  rotate_left 1
  · (intro wS hSw; (try dsimp only at hSw); go_simp; try with_reducible rfl)
  refine rgt 27 (some 30) (v := ?_) rfl ?_ ?_
  rotate_left 1
  · (intro wS hSw; (try dsimp only at hSw); go_simp; try with_reducible rfl)
  refine rgt 28 (some 31) (v := ?_) rfl ?_ ?_
  rotate_left 1
  · (intro wS hSw; (try dsimp only at hSw); go_simp; try with_reducible rfl)
  refine rgt 29 (some 32) (v := ?_) rfl ?_ ?_
  rotate_left 1
  · (intro wS hSw; (try dsimp only at hSw); go_simp; try with_reducible rfl)
  refine rgt 30 (some 33) (v := ?_) rfl ?_ ?_
  rotate_left 1
  · (intro wS hSw; (try dsimp only at hSw); go_simp; try with_reducible rfl)
  refine rgt 31 (some 34) (v := ?_) rfl ?_ ?_
  rotate_left 1
  · (intro wS hSw; (try dsimp only at hSw); go_simp; try with_reducible rfl)
  refine rgt 32 (some 35) (v := ?_) rfl ?_ ?_
  rotate_left 1
  · (intro wS hSw; (try dsimp only at hSw); go_simp; try with_reducible rfl)
  refine rgt 33 (some 36) (v := ?_) rfl ?_ ?_
  rotate_left 1
  · (intro wS hSw; (try dsimp only at hSw); go_simp; try with_reducible rfl)
  refine rgt 34 (some 37) (v := ?_) rfl ?_ ?_
  rotate_left 1
  · (intro wS hSw; (try dsimp only at hSw); go_simp; try with_reducible rfl)
  refine rgt 35 (some 38) (v := ?_) rfl ?_ ?_
  rotate_left 1
  · (intro wS hSw; (try dsimp only at hSw); go_simp; try with_reducible rfl)
  refine rgt 36 (some 39) (v := ?_) rfl ?_ ?_
  rotate_left 1
  · (intro wS hSw; (try dsimp only at hSw); go_simp; try with_reducible rfl)
  refine rgt 37 (some 40) (v := ?_) rfl ?_ ?_
  rotate_left 1
  · (intro wS hSw; (try dsimp only at hSw); go_simp; try with_reducible rfl)
  refine rgt 38 (some 41) (v := ?_) rfl ?_ ?_
  rotate_left 1
  · (intro wS hSw; (try dsimp only at hSw); go_simp; try with_reducible rfl)
  refine rgt 39 (some 42) (v := ?_) rfl ?_ ?_
  rotate_left 1
  · (intro wS hSw; (try dsimp only at hSw); go_simp; try with_reducible rfl)
  refine rgt 40 (some 43) (v := ?_) rfl ?_ ?_
  rotate_left 1
  · (intro wS hSw; (try dsimp only at hSw); go_simp; try with_reducible rfl)
  refine rgt 41 (some 44) (v := ?_) rfl ?_ ?_
  rotate_left 1
  · (intro wS hSw; (try dsimp only at hSw); go_simp; try with_reducible rfl)
  refine rgt 42 (some 45) (v := ?_) rfl ?_ ?_
  rotate_left 1
  · (intro wS hSw; (try dsimp only at hSw); go_simp; try with_reducible rfl)
  refine rgt 43 (some 46) (v := ?_) rfl ?_ ?_
  rotate_left 1
  · (intro wS hSw; (try dsimp only at hSw); go_simp; try with_reducible rfl)
  refine rgt 44 (some 47) (v := ?_) rfl ?_ ?_
  rotate_left 1
  · (intro wS hSw; (try dsimp only at hSw); go_simp; try with_reducible rfl)
  refine rgt 45 (some 48) (v := ?_) rfl ?_ ?_
  rotate_left 1
  · (intro wS hSw; (try dsimp only at hSw); go_simp; try with_reducible rfl)
  refine rgt 46 (some 49) (v := ?_) rfl ?_ ?_
  rotate_left 1
  · (intro wS hSw; (try dsimp only at hSw); go_simp; try with_reducible rfl)
  refine rgt 47 (some 50) (v := ?_) rfl ?_ ?_
  rotate_left 1
  · (intro wS hSw; (try dsimp only at hSw); go_simp; try with_reducible rfl)
  refine rgt 48 (some 51) (v := ?_) rfl ?_ ?_
  rotate_left 1
  · (intro wS hSw; (try dsimp only at hSw); go_simp; try with_reducible rfl)
  refine rgt 49 (some 52) (v := ?_) rfl ?_ ?_
  rotate_left 1
  · (intro wS hSw; (try dsimp only at hSw); go_simp; try with_reducible rfl)
  refine rgt 50 (some 53) (v := ?_) rfl ?_ ?_
  rotate_left 1
  · (intro wS hSw; (try dsimp only at hSw); go_simp; try with_reducible rfl)
  refine rgt 51 (some 54) (v := ?_) rfl ?_ ?_
  rotate_left 1
  · (intro wS hSw; (try dsimp only at hSw); go_simp; try with_reducible rfl)
  refine rgt 52 (some 55) (v := ?_) rfl ?_ ?_
  rotate_left 1
  · (intro wS hSw; (try dsimp only at hSw); go_simp; try with_reducible rfl)
  refine rgt 53 (some 56) (v := ?_) rfl ?_ ?_
  rotate_left 1
  · (intro wS hSw; (try dsimp only at hSw); go_simp; try with_reducible rfl)
  refine rgt 54 (some 57) (v := ?_) rfl ?_ ?_
  rotate_left 1
  · (intro wS hSw; (try dsimp only at hSw); go_simp; try with_reducible rfl)
  refine rgt 55 (some 58) (v := ?_) rfl ?_ ?_
  rotate_left 1
  · (intro wS hSw; (try dsimp only at hSw); go_simp; try with_reducible rfl)
  refine rgt 56 (some 59) (v := ?_) rfl ?_ ?_
  rotate_left 1
  · (intro wS hSw; (try dsimp only at hSw); go_simp; try with_reducible rfl)
  refine rgt 57 (some 60) (v := ?_) rfl ?_ ?_
  rotate_left 1
  · (intro wS hSw; (try dsimp only at hSw); go_simp; try with_reducible rfl)
  refine rgt 58 (some 61) (v := ?_) rfl ?_ ?_
  rotate_left 1
  · (intro wS hSw; (try dsimp only at hSw); go_simp; try with_reducible rfl)
  refine rgt 59 (some 62) (v := ?_) rfl ?_ ?_
  rotate_left 1
  · (intro wS hSw; (try dsimp only at hSw); go_simp; try with_reducible rfl)
  refine rgt 60 (some 63) (v := ?_) rfl ?_ ?_
  rotate_left 1
  · (intro wS hSw; (try dsimp only at hSw); go_simp; try with_reducible rfl)
  refine rgt 61 (some 64) (v := ?_) rfl ?_ ?_
  rotate_left 1
  · (intro wS hSw; (try dsimp only at hSw); go_simp; try with_reducible rfl)
  refine rgt 62 (some 65) (v := ?_) rfl ?_ ?_
  rotate_left 1
  · (intro wS hSw; (try dsimp only at hSw); go_simp; try with_reducible rfl)
  refine rgt 63 (some 66) (v := ?_) rfl ?_ ?_
  rotate_left 1
  · (intro wS hSw; (try dsimp only at hSw); go_simp; try with_reducible rfl)
  refine rgt 64 (some 67) (v := ?_) rfl ?_ ?_
  rotate_left 1
  · (intro wS hSw; (try dsimp only at hSw); go_simp; try with_reducible rfl)
  refine rgt 65 (some 68) (v := ?_) rfl ?_ ?_
  rotate_left 1
  · (intro wS hSw; (try dsimp only at hSw); go_simp; try with_reducible rfl)
  refine rgt 66 (some 69) (v := ?_) rfl ?_ ?_
  rotate_left 1
  · (intro wS hSw; (try dsimp only at hSw); go_simp; try with_reducible rfl)
  refine rgt 67 (some 70) (v := ?_) rfl ?_ ?_
  rotate_left 1
  · (intro wS hSw; (try dsimp only at hSw); go_simp; try with_reducible rfl)
  refine rgt 68 (some 71) (v := ?_) rfl ?_ ?_
  rotate_left 1
  · (intro wS hSw; (try dsimp only at hSw); go_simp; try with_reducible rfl)
  refine rgt 69 (some 72) (v := ?_) rfl ?_ ?_
  rotate_left 1
  · (intro wS hSw; (try dsimp only at hSw); go_simp; try with_reducible rfl)
  refine rgt 70 (some 73) (v := ?_) rfl ?_ ?_
  rotate_left 1
  · (intro wS hSw; (try dsimp only at hSw); go_simp; try with_reducible rfl)
  refine rgt 71 (some 74) (v := ?_) rfl ?_ ?_
  rotate_left 1
  · (intro wS hSw; (try dsimp only at hSw); go_simp; try with_reducible rfl)
  refine rgt 72 (some 75) (v := ?_) rfl ?_ ?_
  rotate_left 1
  · (intro wS hSw; (try dsimp only at hSw); go_simp; try with_reducible rfl)
  refine rgt 73 (some 76) (v := ?_) rfl ?_ ?_
  rotate_left 1
  · (intro wS hSw; (try dsimp only at hSw); go_simp; try with_reducible rfl)
  refine rgt 74 (some 77) (v := ?_) rfl ?_ ?_
  rotate_left 1
  · (intro wS hSw; (try dsimp only at hSw); go_simp; try with_reducible rfl)
  refine rgt 75 (some 78) (v := ?_) rfl ?_ ?_
  rotate_left 1
  · (intro wS hSw; (try dsimp only at hSw); go_simp; try with_reducible rfl)
  refine rgt 76 (some 79) (v := ?_) rfl ?_ ?_
  rotate_left 1
  · (intro wS hSw; (try dsimp only at hSw); go_simp; try with_reducible rfl)
  refine rgt 77 (some 80) (v := ?_) rfl ?_ ?_
  rotate_left 1
  · (intro wS hSw; (try dsimp only at hSw); go_simp; try with_reducible rfl)
  refine rgt 78 (some 81) (v := ?_) rfl ?_ ?_
  rotate_left 1
  · (intro wS hSw; (try dsimp only at hSw); go_simp; try with_reducible rfl)
  refine rgt 79 (some 82) (v := ?_) rfl ?_ ?_
  rotate_left 1
  · (intro wS hSw; (try dsimp only at hSw); go_simp; try with_reducible rfl)
  refine rgt 80 (some 83) (v := ?_) rfl ?_ ?_
  rotate_left 1
  · (intro wS hSw; (try dsimp only at hSw); go_simp; try with_reducible rfl)
  refine rgt 81 (some 84) (v := ?_) rfl ?_ ?_
  rotate_left 1
  · (intro wS hSw; (try dsimp only at hSw); go_simp; try with_reducible rfl)
  refine rgt 82 (some 85) (v := ?_) rfl ?_ ?_
  rotate_left 1
  · (intro wS hSw; (try dsimp only at hSw); go_simp; try with_reducible rfl)
  try simp only [Act.put, List.setIfInBounds_toArray, List.set_cons_zero, List.set_cons_succ]
  refine rg_next (i := 83) (l := #[true, true, true, true, true, true, true, true, true, true, true, true, true, true, true, true, true, true, true, true, true, true, true, true, true, true, true, true, true, true, true, true, true, true, true, true, true, true, true, true, true, true, true, true, true, true, true, true, true, true, true, true, true, true, true, true, true, true, true, true, true, true, true, true, true, true, true, true, true, true, true, true, true, true, true, true, true, true, true, true, true, true, true, true]) (fuel := 0) (by kernel_rfl) rfl (by kernel_rfl) (by kernel_rfl) (fun K hK => ?_)
  go_simp
  skip
  first | (refine hK.out _ _ ?_ (fun hHeld => ?_)) | (go_wp2_with fail; refine hK.out _ _ ?_ (fun hHeld => ?_))
  · (try dsimp only); exact HN.out _ ((((((((((((((Kp.refl [rr] w0).setCell (p := ⟨rr, 0, none⟩) (.inl (by simp)) (.int .u8 x.buf)).setCell (p := ⟨rr, 1, none⟩) (.inl (by simp)) (.int .u8 x.tm.r)).setCell (p := ⟨rr, 2, none⟩) (.inl (by simp)) (.int .u8 x.tm.c)).setCell (p := ⟨rr, 3, none⟩) (.inl (by simp)) (.int .u8 x.q.d)).setCell (p := ⟨rr, 4, none⟩) (.inl (by simp)) (.int .u8 x.pt.l)).setCell (p := ⟨rr, 5, none⟩) (.inl (by simp)) (.int .i64 left)).setCell (p := ⟨rr, 6, none⟩) (.inl (by simp)) (.bool x.tm.on)).setCell (p := ⟨rr, 7, none⟩) (.inl (by simp)) (.bool x.q.due)).setCell (p := ⟨rr, 8, none⟩) (.inl (by simp)) (.bool x.ro)).setCell (p := ⟨rr, 9, none⟩) (.inl (by simp)) (.int .i64 x.tv)).setCell (p := ⟨rr, 10, none⟩) (.inl (by simp)) (.int .i64 x.tc)).setCell (p := ⟨rr, 11, none⟩) (.inl (by simp)) (.int .i64 x.tp))).drew
  clear hK K
  try simp only [Act.put, List.setIfInBounds_toArray, List.set_cons_zero, List.set_cons_succ]
  refine wpAnyH_done (by kernel_rfl) ?_ _
  have NB := ((((((((((((HL.out.set_ 0 (.int .u8 x.buf)).set_ 1 (.int .u8 x.tm.r)).set_ 2 (.int .u8 x.tm.c)).set_ 3 (.int .u8 x.q.d)).set_ 4 (.int .u8 x.pt.l)).set_ 5 (.int .i64 left)).set_ 6 (.bool x.tm.on)).set_ 7 (.bool x.q.due)).set_ 8 (.bool x.ro)).set_ 9 (.int .i64 x.tv)).set_ 10 (.int .i64 x.tc)).set_ 11 (.int .i64 x.tp))
  have KB := (((((((((((((Kp.refl [rr] w0).setCell (p := ⟨rr, 0, none⟩) (.inl (by simp)) (.int .u8 x.buf)).setCell (p := ⟨rr, 1, none⟩) (.inl (by simp)) (.int .u8 x.tm.r)).setCell (p := ⟨rr, 2, none⟩) (.inl (by simp)) (.int .u8 x.tm.c)).setCell (p := ⟨rr, 3, none⟩) (.inl (by simp)) (.int .u8 x.q.d)).setCell (p := ⟨rr, 4, none⟩) (.inl (by simp)) (.int .u8 x.pt.l)).setCell (p := ⟨rr, 5, none⟩) (.inl (by simp)) (.int .i64 left)).setCell (p := ⟨rr, 6, none⟩) (.inl (by simp)) (.bool x.tm.on)).setCell (p := ⟨rr, 7, none⟩) (.inl (by simp)) (.bool x.q.due)).setCell (p := ⟨rr, 8, none⟩) (.inl (by simp)) (.bool x.ro)).setCell (p := ⟨rr, 9, none⟩) (.inl (by simp)) (.int .i64 x.tv)).setCell (p := ⟨rr, 10, none⟩) (.inl (by simp)) (.int .i64 x.tc)).setCell (p := ⟨rr, 11, none⟩) (.inl (by simp)) (.int .i64 x.tp))
  simp only [List.setIfInBounds_toArray, List.set_cons_zero, List.set_cons_succ] at NB
  clear hHeld e0 f0 e1 f1 e2 f2 e3 f3 e4 f4 e5 f5 e6 f6 e7 f7 e8 f8 e9 f9 e10 f10 e11 f11 c0 c1 c2 c3 c4 c5 c6 c7 a0 a1 a2 a3 b0 b1 p1 p2 v1 k1 l2
  generalize World.setCell (World.setCell _ _ _) _ _ = wz at *
  have KZ := Lib.hid KB
  have z0 : wz.cell? ⟨rr, 0, none⟩ = some (.int .u8 x.buf) := NB.cell 0
  have z1 : wz.cell? ⟨rr, 1, none⟩ = some (.int .u8 x.tm.r) := NB.cell 1
  have z2 : wz.cell? ⟨rr, 2, none⟩ = some (.int .u8 x.tm.c) := NB.cell 2
  have z3 : wz.cell? ⟨rr, 3, none⟩ = some (.int .u8 x.q.d) := NB.cell 3
  have z4 : wz.cell? ⟨rr, 4, none⟩ = some (.int .u8 x.pt.l) := NB.cell 4
  have z5 : wz.cell? ⟨rr, 5, none⟩ = some (.int .i64 left) := NB.cell 5
  have z6 : wz.cell? ⟨rr, 6, none⟩ = some (.bool x.tm.on) := NB.cell 6
  have z7 : wz.cell? ⟨rr, 7, none⟩ = some (.bool x.q.due) := NB.cell 7
  have z8 : wz.cell? ⟨rr, 8, none⟩ = some (.bool x.ro) := NB.cell 8
  have z9 : wz.cell? ⟨rr, 9, none⟩ = some (.int .i64 x.tv) := NB.cell 9
  have z10 : wz.cell? ⟨rr, 10, none⟩ = some (.int .i64 x.tc) := NB.cell 10
  have z11 : wz.cell? ⟨rr, 11, none⟩ = some (.int .i64 x.tp) := NB.cell 11
  clear NB KB
  go_wp2_with fail
  have e0 : (.agg (stC x) : Value) = .agg #[.int .u8 x.buf, .int .u8 x.tm.r, .int .u8 x.tm.c, .int .u8 x.q.d, .int .u8 x.pt.l, .int .i64 left, .bool x.tm.on, .bool x.q.due, .bool x.ro, .int .i64 x.tv, .int .i64 x.tc, .int .i64 x.tp] := by unfold stC; rw [HLEFT.out]
  refine bodyPost_ret (v := .agg (stC x)) (by rw [e0]; simp [results, Tryz.results59, go_sem, z0, z1, z2, z3, z4, z5, z6, z7, z8, z9, z10, z11]) rfl ?_
  have hr : w.heap.size ≤ rr := by rw [HRR.out]; exact Nat.le_refl _
  exact ⟨rfl, (KZ.out.onto HB.out HB.out.size (by simpa using hr)).drew⟩
end
end Go.Proofs.YtleofglnlfpoeaaGreat
namespace Go.Proofs.YtleofglnlfpoeaaGreat
open Go.RowKit
set_option linter.unusedVariables false
set_option linter.unusedSimpArgs false
set_option maxRecDepth 100000
set_option maxHeartbeats 2000000 in
theorem rimg_any {w : World} (A : Option Addr) (n c : Nat) (z : Nat → Int) (a : Int) (hn : n ≤ maxLen) (R : IRow w .u8 A n z) (a0 : 0 ≤ a) (a1 : a ≤ 4294967295) :
    Calls Tryz.prog 93 #[.slice A n c, .int .u32 a] w fun e w' => e = .returned (.int .u8 (readI n z a)) ∧ Below w.heap.size w w' := by
  unfold maxLen at hn
  have y0 : 0 ≤ a % 2097152 := by omega
  have y1 : a % 2097152 < 2097152 := by omega
  obtain ⟨x, hx⟩ : ∃ x, whereI a = x := ⟨_, rfl⟩
  have HX := Lib.hid hx
  have hr : readI n z a = if x = 0 ∧ a % 2097152 < n then z (a % 2097152).toNat else 255 := by unfold readI; rw [hx]
  rw [hr]
  clear hr hx
  obtain ⟨k, hk⟩ := Int.eq_ofNat_of_zero_le y0
  rw [hk] at y1 ⊢
  clear y0
  have d0 : (0 : Int) ≤ (k : Int) := by omega
  rw [show ((k : Int)).toNat = k from rfl]
  by_cases h : x = 0
  · subst h
    by_cases h2 : (k : Int) < n
    · rw [if_pos ⟨rfl, h2⟩]
      obtain ⟨ad, rfl, hl, hc, hw⟩ := R k (by omega)
      have HC := Lib.hid hc
      have d1 : decide ((n : Int) ≤ (k : Int)) = false := decide_eq_false (by omega)
      clear hc hw R
      go_enter Tryz.func93, Tryz.ntmps93
      go_wp2_with fail
      refine (rwhere_v a0 a1 HX.out).mono ?_
      rintro e w2 ⟨rfl, hb⟩
      have hc2 := (hb.cell (p := ad.add k) (by rw [block_of_add]; exact hl)).trans HC.out
      clear y1
      go_wp2_with fail
      go_ret
      exact ⟨rfl, hb⟩
    · rw [if_neg (fun h => h2 h.2)]
      have d2 : n ≤ k := by omega
      clear h2 R
      go_enter Tryz.func93, Tryz.ntmps93
      go_wp2_with fail
      refine (rwhere_v a0 a1 HX.out).mono ?_
      rintro e w2 ⟨rfl, hb⟩
      go_wp2_with fail
      go_ret
      exact ⟨rfl, hb⟩
  · rw [if_neg (fun h' => h h'.1)]
    have n1 : (x == 0) = false := by simpa using h
    clear R
    go_enter Tryz.func93, Tryz.ntmps93
    go_wp2_with fail
    refine (rwhere_v a0 a1 HX.out).mono ?_
    rintro e w2 ⟨rfl, hb⟩
    go_wp2_with fail
    go_ret
    exact ⟨rfl, hb⟩
section
variable {W w w1 w' : World} {g : Nat} {d : Hd} {Q : Rbp} {s s1 : Bs} {nx nx1 : Bool}
set_option maxHeartbeats 4000000 in
theorem rbbegin_any (h : RBU W w g d Q s nx) (C : HC W d Q.Z) (hok : s.x.ok d) (hG : Good d.n d.es) (a : Int) (a0 : 0 ≤ a) (a1 : a ≤ 4294967295) (h0 : 0 < s.left) (hl : s.left ≤ 1099511627776) (o1 : 0 ≤ s.now) (o2 : 0 ≤ s.cyc) (hn : s.now ≤ 1000000000000) (hc : s.cyc ≤ 1000000000000) :
    Calls Tryz.prog 87 #[.pointer (some ⟨g, 0, none⟩), .int .u32 a] w (RbR (.int .i64 s.now) W g d Q (s.beg d a) nx w) := by
  obtain ⟨c0, c1, c2, c3, c4, c5, c6⟩ := h.cells
  have f4 := h.blk.frozen 4
  obtain ⟨l, hl'⟩ : ∃ l, s.left = l := ⟨_, rfl⟩
  rw [hl'] at c4 h0 hl
  have H := Lib.hid h
  have HC := Lib.hid C
  have HOK := Lib.hid hok
  have HG := Lib.hid hG
  clear h C hok hG c0 c1 c2 c5 c6
  go_enter Tryz.func87, Tryz.ntmps87
  go_upto_region 2 with fail
  have k1 : Kp [g] w (w.setCell ⟨g, 4, none⟩ (.int .i64 (l - 1))) := (Kp.refl _ _).setCell (p := ⟨g, 4, none⟩) (.inl (by simp)) _
  have h1 : RBU W (w.setCell ⟨g, 4, none⟩ (.int .i64 (l - 1))) g d Q { s with left := s.left - 1 } nx := H.out.own (s' := { s with left := s.left - 1 }) k1 (by rw [hl']; exact H.out.blk.set_ 4 _) rfl
  generalize World.setCell w _ _ = w1 at *
  have H1 := Lib.hid h1
  have K1 := Lib.hid k1
  obtain ⟨c0, c1, c2, c3, c4, c5, c6⟩ := h1.cells
  clear h1 k1 c0 c1 c2 c4 c5 c6 f4
  refine rg_begin (S := fun w' => w'.cell? ⟨g, 3, none⟩ = some (.pointer (some ⟨Q.c, 0, none⟩))) 8 #[false, false, false, false, false, false, false, false] (by kernel_rfl) (by kernel_rfl) (by kernel_rfl) ?_ (fun hHeld => ?_)
  · exact c3
  refine rgt 0 (some 13) (v := ?_) rfl ?_ ?_
  rotate_left 1
  · (intro wS hSw; (try dsimp only at hSw); go_simp; try with_reducible rfl)
  refine rgt 1 (some 14) (v := ?_) rfl ?_ ?_
  rotate_left 1
  · (intro wS hSw; (try dsimp only at hSw); go_simp; try with_reducible rfl)
  refine rgt 2 (some 15) (v := ?_) rfl ?_ ?_
  rotate_left 1
  · (intro wS hSw; (try dsimp only at hSw); go_simp; try with_reducible rfl)
  refine rgt 3 (some 16) (v := ?_) rfl ?_ ?_
  rotate_left 1
  · (intro wS hSw; (try dsimp only at hSw); go_simp; try with_reducible rfl)
  refine rgt 4 (some 17) (v := ?_) rfl ?_ ?_
  rotate_left 1
  · (intro wS hSw; (try dsimp only at hSw); go_simp; try with_reducible rfl)
  try simp only [Act.put, List.setIfInBounds_toArray, List.set_cons_zero, List.set_cons_succ]
  refine rg_next (i := 5) (l := #[true, true, true, true, true, true, false, false]) (fuel := 2) (by kernel_rfl) rfl (by kernel_rfl) (by kernel_rfl) (fun K hK => ?_)
  go_simp
  (go_at_call 137)
  refine (rextra_any a _ a0 a1).mono ?_
  rintro e w2 ⟨rfl, b2⟩
  replace b2 : Below w1.heap.size w1 w2 := (Below.refl _ _).drew.trans (b2.mono (Nat.le_refl _))
  have H2 := Lib.hid (H1.out.keep b2)
  have K2 := Lib.hid (K1.out.trans (Kp.of_below (L := ([] : List Nat)) b2) (by simp))
  have c3' := H2.out.cells.2.2.2.1
  clear b2
  first | (refine hK.out _ _ ?_ (fun hHeld => ?_)) | (go_wp2_with fail; refine hK.out _ _ ?_ (fun hHeld => ?_))
  · (try dsimp only); exact c3'
  clear hK K
  try simp only [Act.put, List.setIfInBounds_toArray, List.set_cons_zero, List.set_cons_succ]
  refine rg_next (i := 6) (l := #[true, true, true, true, true, true, true, false]) (fuel := 1) (by kernel_rfl) rfl (by kernel_rfl) (by kernel_rfl) (fun K hK => ?_)
  go_simp
  (go_at_call 136)
  refine (rcycle_any (extraB a) H2.out.ck o1 (by show s.now ≤ _; omega) o2 (by show s.cyc ≤ _; omega)).mono ?_
  rintro e w3 ⟨rfl, hb3, gb3⟩
  have k3 := Kp.of_gb gb3
  have H3 := Lib.hid (H2.out.clk (s' := { s with left := s.left - 1, now := s.now + lenI s.fast (extraB a), cyc := s.cyc + (1 + oneI (extraB a)) }) k3 hb3 rfl H.out.nx)
  have K3 := Lib.hid ((K2.out.mono (M := rbL g Q) (by simp [rbL])).trans (k3.mono (M := rbL g Q) (by simp [rbL])) (fun y hy => .inl hy))
  have c3'' := H3.out.cells.2.2.2.1
  clear hb3 gb3 k3
  first | (refine hK.out _ _ ?_ (fun hHeld => ?_)) | (go_wp2_with fail; refine hK.out _ _ ?_ (fun hHeld => ?_))
  · (try dsimp only); exact c3''
  clear hK K
  refine rgt 7 (some 5) (v := ?_) rfl ?_ ?_
  rotate_left 1
  · (intro wS hSw; (try dsimp only at hSw); go_simp; try with_reducible rfl)
  try simp only [Act.put, List.setIfInBounds_toArray, List.set_cons_zero, List.set_cons_succ]
  refine wpAnyH_done (by kernel_rfl) ?_ _
  clear hHeld c3 c3' c3''
  have c2 := H3.out.cells.2.2.1
  clear H1 H2 K1 K2
  go_wp2_with fail
  refine (rbto_any H3.out HC.out HOK.out HG.out s.now (by omega)).mono ?_
  rintro e w4 ⟨t, rfl, h4, k4, f4⟩
  have H4 : Hid (RbR (.int .i64 s.now) W g d Q (s.beg d a) nx w (.returned (.int .i64 s.now)) w4) := Lib.hid ⟨t, rfl, h4, K3.out.trans k4 (fun y hy => .inl hy), fun y hy => (f4 y hy).imp id (fun e => Nat.le_trans K3.out.size e)⟩
  clear h4 k4 f4 c2
  go_wp2_with fail
  go_ret
  exact H4.out
set_option maxHeartbeats 4000000 in
theorem rbpeek_any (h : RBU W w g d Q s nx) (a : Int) (a0 : 0 ≤ a) (a1 : a ≤ 4294967295) :
    Calls Tryz.prog 52 #[.pointer (some ⟨g, 0, none⟩), .int .u32 a] w fun e w' => e = .returned (.int .u8 (s.pk a)) ∧ Below w.heap.size w w' := by
  have H := Lib.hid h
  obtain ⟨k, hk⟩ : ∃ k, whereI a = k := ⟨_, rfl⟩
  have hpk : s.pk a = if k = 0 then readI s.rn s.rz a else if k = 1 then s.f (a % 8192).toNat else 255 := by unfold Bs.pk; rw [hk]
  have HPK := Lib.hid hpk
  have HKK := Lib.hid hk
  clear h hpk hk
  by_cases k1 : k = 1
  · subst k1
    obtain ⟨j, hj⟩ := Int.eq_ofNat_of_zero_le (show 0 ≤ a % 8192 by omega)
    have hj2 : j < 8192 := by omega
    have HJ := Lib.hid hj
    have e1 : s.pk a = s.f j := by rw [HPK.out, hj]; rfl
    rw [e1]
    clear e1 hj
    go_enter Tryz.func52, Tryz.ntmps52
    go_wp2_with fail
    refine (rwhere_v a0 a1 HKK.out).mono ?_
    rintro e w1 ⟨rfl, b1⟩
    have H1 := Lib.hid (H.out.keep b1)
    have B1 := Lib.hid b1
    obtain ⟨c0, c1, c2, c3, c4, c5, c6⟩ := H1.out.cells
    obtain ⟨C, hC, hf⟩ := H1.out.ram
    have cj : w1.cell? ⟨Q.m, j, none⟩ = some (.int .u8 (s.f j)) := by rw [hC.cell]; simpa using hf j hj2
    have j0 : (0 : Int) ≤ j := by omega
    have j1 : (j : Int) < 8192 := by omega
    clear b1 c0 c2 c3 c4 c5 c6 hC hf
    have hj := HJ.out
    go_wp2_with fail
    go_ret
    exact ⟨rfl, B1.out⟩
  · have n1 : (k == 1) = false := by simpa using k1
    have e1 : s.pk a = readI s.rn s.rz a := by
      rw [HPK.out, if_neg k1]
      by_cases k0 : k = 0
      · rw [if_pos k0]
      · rw [if_neg k0]; unfold readI; rw [if_neg (fun h => k0 (HKK.out ▸ h.1))]
    rw [e1]
    clear e1
    go_enter Tryz.func52, Tryz.ntmps52
    go_wp2_with fail
    refine (rwhere_v a0 a1 HKK.out).mono ?_
    rintro e w1 ⟨rfl, b1⟩
    have H1 := Lib.hid (H.out.keep b1)
    have B1 := Lib.hid b1
    have c0 := H1.out.cells.1
    have hcap := H1.out.cap
    have hrn : s.rn ≤ maxLen := by omega
    have R := Lib.hid (H1.out.rom.keep H1.out.old)
    clear b1 hcap
    go_wp2_with fail
    refine (rimg_any Q.A s.rn Q.ca s.rz a hrn R.out a0 a1).mono ?_
    rintro e w2 ⟨rfl, b2⟩
    have B2 := Lib.hid (B1.out.trans (b2.mono B1.out.size))
    clear b2
    go_wp2_with fail
    go_ret
    exact ⟨rfl, B2.out⟩
/-- How a bus is behind something that was entered. -/
theorem rbask_any (h : RBU W w g d Q s nx) (b : Bool) :
    Calls Tryz.prog 49 #[.pointer (some ⟨Q.c, 0, none⟩), .bool b] w (RbR (.tuple #[]) W g d Q { s with asked := true, next := b } b w) := by
  refine (rask_any b h.ck).mono ?_
  rintro e w1 ⟨rfl, hb, gb⟩
  have k := Kp.of_gb gb
  exact RbR.mk0 (h.clk (s' := { s with asked := true, next := b }) k hb rfl (fun _ => rfl)) (k.mono (by simp [rbL]))
end
end Go.Proofs.YtleofglnlfpoeaaGreat
namespace Go.Proofs.YtleofglnlfpoeaaGreat
open Go.RowKit
set_option linter.unusedVariables false
set_option linter.unusedSimpArgs false
set_option maxRecDepth 100000
section
variable {W w w1 w' : World} {g : Nat} {d : Hd} {Q : Rbp} {s : Bs} {nx : Bool} {a : Int}
theorem bank_mod (a : Int) : bankI (a % 2097152) = bankI a := by unfold bankI; omega
theorem where_mod (a : Int) : whereI (a % 2097152) = whereI a := by unfold whereI partAt; rw [show a % 2097152 % 2097152 = a % 2097152 by omega]
theorem extra_mod (a : Int) : extraB (a % 2097152) = extraB a := by unfold extraB; rw [where_mod]
theorem Bs.beg_mod (s : Bs) (d : Hd) (a : Int) : s.beg d (a % 2097152) = s.beg d a := by unfold Bs.beg; rw [extra_mod]
theorem Bs.pk_mod (s : Bs) (a : Int) : s.pk (a % 2097152) = s.pk a := by
  unfold Bs.pk readI
  rw [where_mod, show a % 2097152 % 2097152 = a % 2097152 by omega, show a % 2097152 % 8192 = a % 8192 by omega]
theorem rbank_v {k : Int} {w : World} (a0 : 0 ≤ a) (a1 : a ≤ 4294967295) (e : bankI a = k) : Calls Tryz.prog 88 #[.int .u32 a] w fun e w' => e = .returned (.int .i64 k) ∧ w = w' := e ▸ rbank_any a _ a0 a1
theorem rhread_v {r : Nat} {J : Rr} {Z : Rz} {x y : Hp} {v : Int} (h : RHp w r d J Z x) (hok : x.ok d) (hR : Rws w d Z) (hn : d.np ≤ 140737488355328 ∧ d.nv ≤ 140737488355328 ∧ d.nc ≤ 140737488355328) (hl : x.lim 1000000) (hpb : 0 ≤ peekI (d.np - x.tp) (fun i => d.zp (x.tp + i)) 0 ∧ peekI (d.np - x.tp) (fun i => d.zp (x.tp + i)) 0 ≤ 255) (hG : Good d.n d.es) (off : Int) (o0 : 0 ≤ off) (o1 : off ≤ 65535) (e : x.rv d (whereI (plA off)) (regI (plA off)) = v) (e2 : x.rd d (whereI (plA off)) (regI (plA off)) = y) :
    Calls Tryz.prog 89 #[.pointer (some ⟨r, 0, none⟩), .int .u16 off] w (RhR (.int .u8 v) r d J Z y (J.all r) w) := e ▸ e2 ▸ rhread_any h hok hR hn hl hpb hG off o0 o1
/-- None is left. -/
theorem RBU.emptied (h : RBU W w g d Q s nx) (v : Value) : RbR v W g d Q { s with over := true } nx w (.returned v) (w.setCell ⟨g, 5, none⟩ (.bool true)) := by
  have k : Kp [g] w (w.setCell ⟨g, 5, none⟩ (.bool true)) := (Kp.refl _ _).setCell (p := ⟨g, 5, none⟩) (.inl (by simp)) _
  exact RbR.mk0 (h.own (s' := { s with over := true }) k (h.blk.set_ 5 _) rfl) (k.mono (by simp [rbL]))
theorem rbread_none (h : RBU W w g d Q s nx) (kd : Int) (h0 : s.left = 0) : Calls Tryz.prog 47 #[.pointer (some ⟨g, 0, none⟩), .int .u32 a, .int .u8 kd] w (RbR (.int .u8 255) W g d Q { s with over := true } nx w) := by
  obtain ⟨c0, c1, c2, c3, c4, c5, c6⟩ := h.cells
  have f5 := h.blk.frozen 5
  rw [h0] at c4
  have H := Lib.hid h
  clear h c0 c1 c2 c3 c6
  go_enter Tryz.func47, Tryz.ntmps47
  go_wp2_with fail
  go_ret
  exact H.out.emptied _
theorem rbwrite_none (h : RBU W w g d Q s nx) (v kd : Int) (h0 : s.left = 0) : Calls Tryz.prog 48 #[.pointer (some ⟨g, 0, none⟩), .int .u32 a, .int .u8 v, .int .u8 kd] w (RbR (.tuple #[]) W g d Q { s with over := true } nx w) := by
  obtain ⟨c0, c1, c2, c3, c4, c5, c6⟩ := h.cells
  have f5 := h.blk.frozen 5
  rw [h0] at c4
  have H := Lib.hid h
  clear h c0 c1 c2 c3 c6
  go_enter Tryz.func48, Tryz.ntmps48
  go_wp2_with fail
  first | go_end0 | refine bodyPost_ret (results_none rfl _ _ _) rfl ?_
  exact H.out.emptied _
end
section
variable {W w : World} {g : Nat} {d : Hd} {Q : Rbp} {s : Bs} {nx : Bool}
set_option maxHeartbeats 8000000 in
theorem rbread_some {a : Int} (kd : Int) (h : RBU W w g d Q s nx) (C : HC W d Q.Z) (hok : s.x.ok d) (hok2 : (s.beg d a).x.ok d) (hG : Good d.n d.es) (hnn : d.np ≤ 140737488355328 ∧ d.nv ≤ 140737488355328 ∧ d.nc ≤ 140737488355328) (a0 : 0 ≤ a) (a1 : a ≤ 4294967295) (h0 : 0 < s.left) (hle : s.left ≤ 1099511627776) (o1 : 0 ≤ s.now) (o2 : 0 ≤ s.cyc) (hn : s.now ≤ 1000000000000) (hc : s.cyc ≤ 1000000000000) (hl : s.x.lim 1000000) (ht : s.tl.length ≤ 1000000) :
    Calls Tryz.prog 47 #[.pointer (some ⟨g, 0, none⟩), .int .u32 a, .int .u8 kd] w (RbR (.int .u8 (s.rdV d a)) W g d Q (s.rdS d a kd) nx w) := by
  have b0 : 0 ≤ a % 2097152 := by omega
  have b1 : a % 2097152 ≤ 4294967295 := by omega
  have HL : Hid ((s.beg d a).x.lim 1000000) := Lib.hid (Hp.lim_to hl)
  have BG := Lib.hid (rbbegin_any h C hok hG (a % 2097152) b0 b1 h0 hle o1 o2 hn hc)
  have c4 := h.cells.2.2.2.2.1
  obtain ⟨l, hl'⟩ : ∃ l, s.left = l := ⟨_, rfl⟩
  rw [hl'] at c4 h0
  have hl0 : (l == 0) = false := by simpa using (show ¬ l = 0 by omega)
  have HC := Lib.hid C
  have HOK := Lib.hid hok2
  have HG := Lib.hid hG
  have HNN := Lib.hid hnn
  have HT : Hid (s.tl.length ≤ 1000000) := Lib.hid ht
  clear h C hok hok2 hG hnn hle o1 o2 hn hc hl ht hl' h0
  obtain ⟨v, hv⟩ : ∃ v, s.rdV d a = v := ⟨_, rfl⟩
  have HV : Hid ((s.beg d a).an d a = v) := Lib.hid hv
  have hs : s.rdS d a kd = { (s.beg d a).anS d a with tl := s.tl ++ [⟨s.now, a % 2097152, kd, false, v⟩] } := by unfold Bs.rdS; rw [hv]
  rw [hv, hs]
  clear hv hs
  by_cases e : bankI a = 255
  · have HE : Hid (bankI (a % 2097152) = 255) := Lib.hid (by rw [bank_mod]; exact e)
    have ea : (s.beg d a).an d a = (s.beg d a).x.rv d (whereI (plA (offI a))) (regI (plA (offI a))) := by unfold Bs.an; rw [if_pos e]
    have eb : (s.beg d a).anS d a = { s.beg d a with x := (s.beg d a).x.rd d (whereI (plA (offI a))) (regI (plA (offI a))) } := by unfold Bs.anS; rw [if_pos e]
    rw [eb]
    obtain ⟨o, ho⟩ : ∃ o, offI a = o := ⟨_, rfl⟩
    have ho2 : a % 2097152 % 8192 = o := by rw [← ho]; unfold offI; omega
    have o0 : 0 ≤ o := by omega
    have o9 : o ≤ 65535 := by omega
    rw [ho]
    have HV2 : Hid ((s.beg d a).x.rv d (whereI (plA o)) (regI (plA o)) = v) := Lib.hid (by rw [← HV.out, ea, ho])
    obtain ⟨y, hy⟩ : ∃ y, (s.beg d a).x.rd d (whereI (plA o)) (regI (plA o)) = y := ⟨_, rfl⟩
    rw [hy]
    have HY := Lib.hid hy
    have HO := Lib.hid ho2
    clear ea eb e ho ho2 hy
    go_enter Tryz.func47, Tryz.ntmps47
    go_wp2_with fail
    refine BG.out.mono ?_
    rw [Bs.beg_mod]
    rintro e w1 ⟨t1, rfl, h1, k1, f1⟩
    have H1 := Lib.hid h1
    have K1 := Lib.hid k1
    have F9 := Lib.hid f1
    clear h1 k1 f1 c4 BG
    go_wp2_with fail
    refine (rbpeek_any H1.out (a % 2097152) b0 b1).mono ?_
    rintro e w2 ⟨rfl, b2⟩
    have H2 := Lib.hid (H1.out.keep b2)
    have K2 := Lib.hid (K1.out.trans (Kp.of_below (L := ([] : List Nat)) b2) (by simp))
    have c2 := H2.out.cells.2.2.1
    clear b2 H1 K1
    go_wp2_with fail
    refine (rbank_v b0 b1 HE.out).mono ?_
    rintro e w3 ⟨rfl, rfl⟩
    have ho := HO.out
    go_wp2_with fail
    clear ho
    refine (rhread_v H2.out.pg HOK.out (H2.out.rw HC.out) HNN.out HL.out (HC.out.pb _) HG.out o o0 o9 HV2.out HY.out).mono ?_
    rintro e w9 ⟨rfl, hp, k9⟩
    have H9 := Lib.hid (H2.out.page k9 hp)
    have K9 := Lib.hid (K2.out.trans k9 (fun y hy => .inl (mem_rbL.2 (.inr (.inr (.inr (.inl hy)))))))
    clear hp k9 H2 K2 c2
    have c6 : w9.cell? ⟨g, 6, none⟩ = some t1 := H9.out.cells.2.2.2.2.2.2
    have tr9 : w9.ownsRow 0 62 5 t1 s.tl.length (accL s.tl) := H9.out.tr
    obtain ⟨v', w5, hrun, own, gb, fr⟩ := more_acc (ty := 50) tr9 ⟨s.now, a % 2097152, kd, false, v⟩ HT.out
    obtain ⟨gt, ct, rfl⟩ := ownsRow_succ own
    obtain ⟨bt, hcz⟩ := H9.out.told ⟨s.now, a % 2097152, kd, false, v⟩ own gb fr
    have c6b : w5.cell? ⟨g, 6, none⟩ = some t1 := hcz.1
    have z6 := hcz.2
    have BT := Lib.hid (RbR.after K9.out F9.out (bt (.int .u8 v)))
    clear own gb fr bt tr9 hcz
    go_wp2_with (at_builtin; refine wpList_append_run rfl (.tmp 40) (.tmp 46) 50 rfl rfl rfl hrun ?_)
    go_ret
    exact BT.out
  · obtain ⟨bb, hbb⟩ : ∃ bb, bankI a = bb := ⟨_, rfl⟩
    have HE : Hid (bankI (a % 2097152) = bb) := Lib.hid (by rw [bank_mod]; exact hbb)
    have ea : (s.beg d a).an d a = (s.beg d a).pk a := by unfold Bs.an; rw [if_neg e]
    have eb : (s.beg d a).anS d a = s.beg d a := by unfold Bs.anS; rw [if_neg e]
    rw [eb]
    have HV2 : Hid ((s.beg d a).pk (a % 2097152) = v) := Lib.hid (by rw [← HV.out, ea, Bs.pk_mod])
    rw [hbb] at e
    have n1 : (bb == 255) = false := by simpa using e
    clear ea eb e hbb
    go_enter Tryz.func47, Tryz.ntmps47
    go_wp2_with fail
    refine BG.out.mono ?_
    rw [Bs.beg_mod]
    rintro e w1 ⟨t1, rfl, h1, k1, f1⟩
    have H1 := Lib.hid h1
    have K1 := Lib.hid k1
    have F9 := Lib.hid f1
    clear h1 k1 f1 c4 BG
    go_wp2_with fail
    refine (rbpeek_any H1.out (a % 2097152) b0 b1).mono ?_
    rw [HV2.out]
    rintro e w9 ⟨rfl, b2⟩
    have H9 := Lib.hid (H1.out.keep b2)
    have K9 := Lib.hid (K1.out.trans (Kp.of_below (L := ([] : List Nat)) b2) (by simp))
    clear b2 H1 K1
    go_wp2_with fail
    refine (rbank_v b0 b1 HE.out).mono ?_
    rintro e w3 ⟨rfl, rfl⟩
    have c6 : w9.cell? ⟨g, 6, none⟩ = some t1 := H9.out.cells.2.2.2.2.2.2
    have tr9 : w9.ownsRow 0 62 5 t1 s.tl.length (accL s.tl) := H9.out.tr
    obtain ⟨v', w5, hrun, own, gb, fr⟩ := more_acc (ty := 50) tr9 ⟨s.now, a % 2097152, kd, false, v⟩ HT.out
    obtain ⟨gt, ct, rfl⟩ := ownsRow_succ own
    obtain ⟨bt, hcz⟩ := H9.out.told ⟨s.now, a % 2097152, kd, false, v⟩ own gb fr
    have c6b : w5.cell? ⟨g, 6, none⟩ = some t1 := hcz.1
    have z6 := hcz.2
    have BT := Lib.hid (RbR.after K9.out F9.out (bt (.int .u8 v)))
    clear own gb fr bt tr9 hcz
    go_wp2_with (at_builtin; refine wpList_append_run rfl (.tmp 40) (.tmp 46) 50 rfl rfl rfl hrun ?_)
    go_ret
    exact BT.out
end
end Go.Proofs.YtleofglnlfpoeaaGreat
