/-
  Texts of these proofs, one behind the other: Ent2, Ent3, Ent4, Ent5.
-/
import Derived.Test.YtngfmofjonleeaaGreatKEA42
import Derived.Test.YtngfmofjonleeaaGreatKEA46
import Derived.Test.YtngfmofjonleeaaGreatKEA03
import Derived.Deep.RegionHeld3
namespace Go.Proofs.YtngfmofjonleeaaGreat
open Go.RowKit
set_option linter.unusedVariables false
set_option linter.unusedSimpArgs false
set_option maxRecDepth 100000
set_option maxHeartbeats 8000000 in
theorem ebegin_any (w : World) : Calls Tryz.prog 17 #[] w fun e w' => e = .returned (.agg (stA fun i => if i = 4 then 4 else 0)) ∧ Below w.heap.size w w' := by
  have k1 : Blk (w.alloc (.cells #[.int .u8 0, .int .u8 0, .int .u8 0, .int .u8 0, .int .u8 0, .int .u16 0, .int .u8 0, .int .u8 0, .int .u8 0, .int .u8 0, .int .u8 0, .int .u8 0, .int .u8 0, .int .u8 0, .int .u8 0, .bool false] 25)) w.heap.size 25 #[.int .u8 0, .int .u8 0, .int .u8 0, .int .u8 0, .int .u8 0, .int .u16 0, .int .u8 0, .int .u8 0, .int .u8 0, .int .u8 0, .int .u8 0, .int .u8 0, .int .u8 0, .int .u8 0, .int .u8 0, .bool false] := Blk.new w _ _
  have hb : Below w.heap.size w (w.alloc (.cells #[.int .u8 0, .int .u8 0, .int .u8 0, .int .u8 0, .int .u8 0, .int .u16 0, .int .u8 0, .int .u8 0, .int .u8 0, .int .u8 0, .int .u8 0, .int .u8 0, .int .u8 0, .int .u8 0, .int .u8 0, .bool false] 25)) := (Below.refl _ w).alloc (Nat.le_refl _) _
  obtain ⟨w1, hw1⟩ : ∃ w1, w.alloc (.cells #[.int .u8 0, .int .u8 0, .int .u8 0, .int .u8 0, .int .u8 0, .int .u16 0, .int .u8 0, .int .u8 0, .int .u8 0, .int .u8 0, .int .u8 0, .int .u8 0, .int .u8 0, .int .u8 0, .int .u8 0, .bool false] 25) = w1 := ⟨_, rfl⟩
  rw [hw1] at k1 hb
  have HW1 := Lib.hid hw1
  have K1 := Lib.hid k1
  have HB := Lib.hid hb
  clear hw1 k1 hb
  have c0 : w1.cell? ⟨w.heap.size, 0, none⟩ = some (.int .u8 0) := K1.out.cell 0
  have f0 : w1.frozen? ⟨w.heap.size, 0, none⟩ = false := K1.out.frozen 0
  have c1 : w1.cell? ⟨w.heap.size, 1, none⟩ = some (.int .u8 0) := K1.out.cell 1
  have f1 : w1.frozen? ⟨w.heap.size, 1, none⟩ = false := K1.out.frozen 1
  have c2 : w1.cell? ⟨w.heap.size, 2, none⟩ = some (.int .u8 0) := K1.out.cell 2
  have f2 : w1.frozen? ⟨w.heap.size, 2, none⟩ = false := K1.out.frozen 2
  have c3 : w1.cell? ⟨w.heap.size, 3, none⟩ = some (.int .u8 0) := K1.out.cell 3
  have f3 : w1.frozen? ⟨w.heap.size, 3, none⟩ = false := K1.out.frozen 3
  have c4 : w1.cell? ⟨w.heap.size, 4, none⟩ = some (.int .u8 0) := K1.out.cell 4
  have f4 : w1.frozen? ⟨w.heap.size, 4, none⟩ = false := K1.out.frozen 4
  have c5 : w1.cell? ⟨w.heap.size, 5, none⟩ = some (.int .u16 0) := K1.out.cell 5
  have f5 : w1.frozen? ⟨w.heap.size, 5, none⟩ = false := K1.out.frozen 5
  have c6 : w1.cell? ⟨w.heap.size, 6, none⟩ = some (.int .u8 0) := K1.out.cell 6
  have f6 : w1.frozen? ⟨w.heap.size, 6, none⟩ = false := K1.out.frozen 6
  have c7 : w1.cell? ⟨w.heap.size, 7, none⟩ = some (.int .u8 0) := K1.out.cell 7
  have f7 : w1.frozen? ⟨w.heap.size, 7, none⟩ = false := K1.out.frozen 7
  have c8 : w1.cell? ⟨w.heap.size, 8, none⟩ = some (.int .u8 0) := K1.out.cell 8
  have f8 : w1.frozen? ⟨w.heap.size, 8, none⟩ = false := K1.out.frozen 8
  have c9 : w1.cell? ⟨w.heap.size, 9, none⟩ = some (.int .u8 0) := K1.out.cell 9
  have f9 : w1.frozen? ⟨w.heap.size, 9, none⟩ = false := K1.out.frozen 9
  have c10 : w1.cell? ⟨w.heap.size, 10, none⟩ = some (.int .u8 0) := K1.out.cell 10
  have f10 : w1.frozen? ⟨w.heap.size, 10, none⟩ = false := K1.out.frozen 10
  have c11 : w1.cell? ⟨w.heap.size, 11, none⟩ = some (.int .u8 0) := K1.out.cell 11
  have f11 : w1.frozen? ⟨w.heap.size, 11, none⟩ = false := K1.out.frozen 11
  have c12 : w1.cell? ⟨w.heap.size, 12, none⟩ = some (.int .u8 0) := K1.out.cell 12
  have f12 : w1.frozen? ⟨w.heap.size, 12, none⟩ = false := K1.out.frozen 12
  have c13 : w1.cell? ⟨w.heap.size, 13, none⟩ = some (.int .u8 0) := K1.out.cell 13
  have f13 : w1.frozen? ⟨w.heap.size, 13, none⟩ = false := K1.out.frozen 13
  have c14 : w1.cell? ⟨w.heap.size, 14, none⟩ = some (.int .u8 0) := K1.out.cell 14
  have f14 : w1.frozen? ⟨w.heap.size, 14, none⟩ = false := K1.out.frozen 14
  have c15 : w1.cell? ⟨w.heap.size, 15, none⟩ = some (.bool false) := K1.out.cell 15
  have f15 : w1.frozen? ⟨w.heap.size, 15, none⟩ = false := K1.out.frozen 15
  have HK : Hid (Blk ((((((((((((((((w1.setCell ⟨w.heap.size, 0, none⟩ (.int .u8 0)).setCell ⟨w.heap.size, 1, none⟩ (.int .u8 0)).setCell ⟨w.heap.size, 2, none⟩ (.int .u8 0)).setCell ⟨w.heap.size, 3, none⟩ (.int .u8 0)).setCell ⟨w.heap.size, 4, none⟩ (.int .u8 4)).setCell ⟨w.heap.size, 5, none⟩ (.int .u16 0)).setCell ⟨w.heap.size, 6, none⟩ (.int .u8 0)).setCell ⟨w.heap.size, 7, none⟩ (.int .u8 0)).setCell ⟨w.heap.size, 8, none⟩ (.int .u8 0)).setCell ⟨w.heap.size, 9, none⟩ (.int .u8 0)).setCell ⟨w.heap.size, 10, none⟩ (.int .u8 0)).setCell ⟨w.heap.size, 11, none⟩ (.int .u8 0)).setCell ⟨w.heap.size, 12, none⟩ (.int .u8 0)).setCell ⟨w.heap.size, 13, none⟩ (.int .u8 0)).setCell ⟨w.heap.size, 14, none⟩ (.int .u8 0)).setCell ⟨w.heap.size, 15, none⟩ (.bool false)) w.heap.size 25 #[.int .u8 0, .int .u8 0, .int .u8 0, .int .u8 0, .int .u8 4, .int .u16 0, .int .u8 0, .int .u8 0, .int .u8 0, .int .u8 0, .int .u8 0, .int .u8 0, .int .u8 0, .int .u8 0, .int .u8 0, .bool false]) := Lib.hid ((((((((((((((((K1.out.set_ 0 (.int .u8 0)).set_ 1 (.int .u8 0)).set_ 2 (.int .u8 0)).set_ 3 (.int .u8 0)).set_ 4 (.int .u8 4)).set_ 5 (.int .u16 0)).set_ 6 (.int .u8 0)).set_ 7 (.int .u8 0)).set_ 8 (.int .u8 0)).set_ 9 (.int .u8 0)).set_ 10 (.int .u8 0)).set_ 11 (.int .u8 0)).set_ 12 (.int .u8 0)).set_ 13 (.int .u8 0)).set_ 14 (.int .u8 0)).set_ 15 (.bool false))
  have HD := Lib.hid (HK.out.run_load (P := Tryz.prog) Tryz.underlying25 rfl size_state)
  have B5 := Lib.hid ((((((((((((((((HB.out.setCell (p := ⟨w.heap.size, 0, none⟩) (Nat.le_refl _) (.int .u8 0)).setCell (p := ⟨w.heap.size, 1, none⟩) (Nat.le_refl _) (.int .u8 0)).setCell (p := ⟨w.heap.size, 2, none⟩) (Nat.le_refl _) (.int .u8 0)).setCell (p := ⟨w.heap.size, 3, none⟩) (Nat.le_refl _) (.int .u8 0)).setCell (p := ⟨w.heap.size, 4, none⟩) (Nat.le_refl _) (.int .u8 4)).setCell (p := ⟨w.heap.size, 5, none⟩) (Nat.le_refl _) (.int .u16 0)).setCell (p := ⟨w.heap.size, 6, none⟩) (Nat.le_refl _) (.int .u8 0)).setCell (p := ⟨w.heap.size, 7, none⟩) (Nat.le_refl _) (.int .u8 0)).setCell (p := ⟨w.heap.size, 8, none⟩) (Nat.le_refl _) (.int .u8 0)).setCell (p := ⟨w.heap.size, 9, none⟩) (Nat.le_refl _) (.int .u8 0)).setCell (p := ⟨w.heap.size, 10, none⟩) (Nat.le_refl _) (.int .u8 0)).setCell (p := ⟨w.heap.size, 11, none⟩) (Nat.le_refl _) (.int .u8 0)).setCell (p := ⟨w.heap.size, 12, none⟩) (Nat.le_refl _) (.int .u8 0)).setCell (p := ⟨w.heap.size, 13, none⟩) (Nat.le_refl _) (.int .u8 0)).setCell (p := ⟨w.heap.size, 14, none⟩) (Nat.le_refl _) (.int .u8 0)).setCell (p := ⟨w.heap.size, 15, none⟩) (Nat.le_refl _) (.bool false))
  go_enter Tryz.func17, Tryz.ntmps17
  go_upto_region 1 with fail
  rw [HW1.out]
  go_wp2_with fail
  (try simp only [Exit.inBlock, Exit.then])
  refine bodyPost_ret (results_cell (a := ⟨w.heap.size, 0, none⟩) Tryz.results17 (by rfl) HD.out) rfl ?_
  exact ⟨rfl, B5.out⟩
end Go.Proofs.YtngfmofjonleeaaGreat
namespace Go.Proofs.YtngfmofjonleeaaGreat
open Go.RowKit
set_option linter.unusedVariables false
set_option linter.unusedSimpArgs false
set_option maxRecDepth 100000
/-- The pages among the registers. -/
def pgF (r : Nat → Int) : Nat → Int := fun i => r (6 + i)
theorem pgF_bd {r : Nat → Int} (hr : StOk r) : ∀ i, i < 8 → 0 ≤ pgF r i ∧ pgF r i ≤ 255 := fun i hi => by
  have := hr (6 + i) (by omega)
  unfold mostP at this
  rw [if_neg (by omega), if_neg (by omega)] at this
  exact this
set_option maxHeartbeats 8000000 in
theorem rphys27_any (r : Nat → Int) (hr : StOk r) (a : Int) (a0 : 0 ≤ a) (a1 : a ≤ 65535) (w : World) : Calls Tryz.prog 11 #[.agg (stA r), .int .u16 a] w fun e w' => e = .returned (.int .u32 (phI (pgF r) a)) ∧ Below w.heap.size w w' := by
  have HR := Lib.hid hr
  have hA := Lib.hid (And.intro a0 a1)
  clear hr a0 a1
  have k0 : Blk (w.alloc (.cells (stA r) 25)) w.heap.size 25 (stA r) := Blk.new w _ _
  have hb : Below w.heap.size w (w.alloc (.cells (stA r) 25)) := (Below.refl _ w).alloc (Nat.le_refl _) _
  obtain ⟨w1, hw1⟩ : ∃ w1, w.alloc (.cells (stA r) 25) = w1 := ⟨_, rfl⟩
  rw [hw1] at k0 hb
  have HW1 := Lib.hid hw1
  have HB := Lib.hid hb
  have c6 : w1.cell? ⟨w.heap.size, 6, none⟩ = some (.int .u8 (r 6)) := k0.cell 6
  have c7 : w1.cell? ⟨w.heap.size, 7, none⟩ = some (.int .u8 (r 7)) := k0.cell 7
  have c8 : w1.cell? ⟨w.heap.size, 8, none⟩ = some (.int .u8 (r 8)) := k0.cell 8
  have c9 : w1.cell? ⟨w.heap.size, 9, none⟩ = some (.int .u8 (r 9)) := k0.cell 9
  have c10 : w1.cell? ⟨w.heap.size, 10, none⟩ = some (.int .u8 (r 10)) := k0.cell 10
  have c11 : w1.cell? ⟨w.heap.size, 11, none⟩ = some (.int .u8 (r 11)) := k0.cell 11
  have c12 : w1.cell? ⟨w.heap.size, 12, none⟩ = some (.int .u8 (r 12)) := k0.cell 12
  have c13 : w1.cell? ⟨w.heap.size, 13, none⟩ = some (.int .u8 (r 13)) := k0.cell 13
  have c14 : w1.cell? ⟨w.heap.size, 14, none⟩ = some (.int .u8 (r 14)) := k0.cell 14
  clear hw1 k0 hb
  go_enter Tryz.func11, Tryz.ntmps11
  go_upto_region 1 with fail
  rw [HW1.out]
  go_upto_region 2 with fail
  have hm : RMu (w1.alloc (.cells #[.int .u8 (r 6), .int .u8 (r 7), .int .u8 (r 8), .int .u8 (r 9), .int .u8 (r 10), .int .u8 (r 11), .int .u8 (r 12), .int .u8 (r 13), .int .u8 (r 14)] 132)) w1.heap.size (pgF r) (r 14) := Blk.new w1 _ _
  have HM := Lib.hid hm
  have HB2 := Lib.hid (HB.out.alloc HB.out.size (.cells #[.int .u8 (r 6), .int .u8 (r 7), .int .u8 (r 8), .int .u8 (r 9), .int .u8 (r 10), .int .u8 (r 11), .int .u8 (r 12), .int .u8 (r 13), .int .u8 (r 14)] 132))
  clear hm
  generalize World.alloc w1 _ = w2 at *
  go_wp2_with fail
  refine (rmphys_any HM.out (pgF_bd HR.out) a hA.out.1 hA.out.2).mono ?_
  rintro e w' ⟨rfl, rfl⟩
  go_wp2_with fail
  go_ret
  exact ⟨rfl, HB2.out⟩
end Go.Proofs.YtngfmofjonleeaaGreat
namespace Go.Proofs.YtngfmofjonleeaaGreat
open Go.RowKit
set_option linter.unusedVariables false
set_option linter.unusedSimpArgs false
set_option maxRecDepth 100000
/-- An access that is asked for. -/
def acA (kd a : Int) (wr : Bool) (v : Int) : Array Value := #[.int .u8 kd, .int .u16 a, .bool wr, .int .u8 v]
theorem st_cells {w : World} {g g2 : Nat} {r : Nat → Int} {kd a v : Int} {b : Bool} (h : Blk w g 25 (stA r)) (h2 : Blk w g2 46 (acA kd a b v)) :
    w.cell? ⟨g, 6, none⟩ = some (.int .u8 (r 6)) ∧ w.cell? ⟨g, 7, none⟩ = some (.int .u8 (r 7)) ∧ w.cell? ⟨g, 8, none⟩ = some (.int .u8 (r 8)) ∧ w.cell? ⟨g, 9, none⟩ = some (.int .u8 (r 9)) ∧ w.cell? ⟨g, 10, none⟩ = some (.int .u8 (r 10)) ∧ w.cell? ⟨g, 11, none⟩ = some (.int .u8 (r 11)) ∧ w.cell? ⟨g, 12, none⟩ = some (.int .u8 (r 12)) ∧ w.cell? ⟨g, 13, none⟩ = some (.int .u8 (r 13)) ∧ w.cell? ⟨g, 14, none⟩ = some (.int .u8 (r 14)) ∧ w.cell? ⟨g2, 1, none⟩ = some (.int .u16 a) :=
  ⟨h.cell 6, h.cell 7, h.cell 8, h.cell 9, h.cell 10, h.cell 11, h.cell 12, h.cell 13, h.cell 14, h2.cell 1⟩
set_option maxHeartbeats 8000000 in
theorem eaccess_any (r : Nat → Int) (hr : StOk r) (kd a : Int) (b : Bool) (v : Int) (a0 : 0 ≤ a) (a1 : a ≤ 65535) (w : World) (p : Option Addr) (R : World → Value → World → Prop)
    (hW : b = true → ∀ w2, Below w.heap.size w w2 → Calls Tryz.prog 35 #[.pointer p, .int .u32 (phI (pgF r) a), .int .u8 v, .int .u8 kd] w2 fun e w' => e = .returned (.tuple #[]) ∧ R w2 (.int .u8 0) w')
    (hD : b = false → ∀ w2, Below w.heap.size w w2 → Calls Tryz.prog 36 #[.pointer p, .int .u32 (phI (pgF r) a), .int .u8 kd] w2 fun e w' => ∃ x, e = .returned x ∧ R w2 x w') :
    Calls Tryz.prog 9 #[.pointer p, .agg (stA r), .agg (acA kd a b v)] w fun e w' => ∃ x w2, e = .returned x ∧ Below w.heap.size w w2 ∧ R w2 x w' := by
  have HR := Lib.hid hr
  have hA := Lib.hid (And.intro a0 a1)
  have HW := Lib.hid hW
  have HD := Lib.hid hD
  clear hr a0 a1 hW hD
  have k0 : Blk ((w.alloc (.cells (stA r) 25)).alloc (.cells (acA kd a b v) 46)) w.heap.size 25 (stA r) := (Blk.new w _ _).alloc _
  have k1 : Blk ((w.alloc (.cells (stA r) 25)).alloc (.cells (acA kd a b v) 46)) (w.heap.size + 1) 46 (acA kd a b v) := Blk.new_ (by simp)
  have hb : Below w.heap.size w ((w.alloc (.cells (stA r) 25)).alloc (.cells (acA kd a b v) 46)) := ((Below.refl _ w).alloc (Nat.le_refl _) _).alloc (by show w.heap.size ≤ (w.heap.push _).size; simp) _
  obtain ⟨w1, hw1⟩ : ∃ w1, (w.alloc (.cells (stA r) 25)).alloc (.cells (acA kd a b v) 46) = w1 := ⟨_, rfl⟩
  rw [hw1] at k0 k1 hb
  have HW1 := Lib.hid hw1
  have HB := Lib.hid hb
  have K0 := Lib.hid k0
  have K1 := Lib.hid k1
  obtain ⟨s0, s1, s2, s3, s4, s5, s6, s7, s8, s9⟩ := st_cells k0 k1
  clear hw1 k0 k1 hb
  go_enter Tryz.func9, Tryz.ntmps9
  go_upto_region 1 with fail
  rw [HW1.out]
  refine rg_begin (S := fun w' => w'.cell? ⟨w.heap.size, 6, none⟩ = some (.int .u8 (r 6)) ∧ w'.cell? ⟨w.heap.size, 7, none⟩ = some (.int .u8 (r 7)) ∧ w'.cell? ⟨w.heap.size, 8, none⟩ = some (.int .u8 (r 8)) ∧ w'.cell? ⟨w.heap.size, 9, none⟩ = some (.int .u8 (r 9)) ∧ w'.cell? ⟨w.heap.size, 10, none⟩ = some (.int .u8 (r 10)) ∧ w'.cell? ⟨w.heap.size, 11, none⟩ = some (.int .u8 (r 11)) ∧ w'.cell? ⟨w.heap.size, 12, none⟩ = some (.int .u8 (r 12)) ∧ w'.cell? ⟨w.heap.size, 13, none⟩ = some (.int .u8 (r 13)) ∧ w'.cell? ⟨w.heap.size, 14, none⟩ = some (.int .u8 (r 14)) ∧ w'.cell? ⟨w.heap.size + 1, 1, none⟩ = some (.int .u16 a)) 9 #[false, false, false, false, false, false, false, false, false] (by kernel_rfl) (by kernel_rfl) (by kernel_rfl) ?_ (fun hHeld => ?_)
  · exact st_cells K0.out.drew_ K1.out.drew_
  refine rg_take (i := 0) (d := some 8) (l := #[true, false, false, false, false, false, false, false, false]) (fuel := 8) (v := ?_) rfl (by kernel_rfl) (by kernel_rfl) (by kernel_rfl) (by kernel_rfl) (by kernel_rfl) (fun _ _ _ h => h) (by kernel_rfl) ?_ (by assumption) ?_
  rotate_left 1
  · (intro wS hSw; (try dsimp only at hSw); go_simp; try with_reducible rfl)
  try simp only [Act.put, List.setIfInBounds_toArray, List.set_cons_zero, List.set_cons_succ]
  refine rg_take (i := 1) (d := some 9) (l := #[true, true, false, false, false, false, false, false, false]) (fuel := 7) (v := ?_) rfl (by kernel_rfl) (by kernel_rfl) (by kernel_rfl) (by kernel_rfl) (by kernel_rfl) (fun _ _ _ h => h) (by kernel_rfl) ?_ (by assumption) ?_
  rotate_left 1
  · (intro wS hSw; (try dsimp only at hSw); go_simp; try with_reducible rfl)
  try simp only [Act.put, List.setIfInBounds_toArray, List.set_cons_zero, List.set_cons_succ]
  refine rg_take (i := 2) (d := some 10) (l := #[true, true, true, false, false, false, false, false, false]) (fuel := 6) (v := ?_) rfl (by kernel_rfl) (by kernel_rfl) (by kernel_rfl) (by kernel_rfl) (by kernel_rfl) (fun _ _ _ h => h) (by kernel_rfl) ?_ (by assumption) ?_
  rotate_left 1
  · (intro wS hSw; (try dsimp only at hSw); go_simp; try with_reducible rfl)
  try simp only [Act.put, List.setIfInBounds_toArray, List.set_cons_zero, List.set_cons_succ]
  refine rg_take (i := 3) (d := some 11) (l := #[true, true, true, true, false, false, false, false, false]) (fuel := 5) (v := ?_) rfl (by kernel_rfl) (by kernel_rfl) (by kernel_rfl) (by kernel_rfl) (by kernel_rfl) (fun _ _ _ h => h) (by kernel_rfl) ?_ (by assumption) ?_
  rotate_left 1
  · (intro wS hSw; (try dsimp only at hSw); go_simp; try with_reducible rfl)
  try simp only [Act.put, List.setIfInBounds_toArray, List.set_cons_zero, List.set_cons_succ]
  refine rg_take (i := 5) (d := some 13) (l := #[true, true, true, true, false, true, false, false, false]) (fuel := 4) (v := ?_) rfl (by kernel_rfl) (by kernel_rfl) (by kernel_rfl) (by kernel_rfl) (by kernel_rfl) (fun _ _ _ h => h) (by kernel_rfl) ?_ (by assumption) ?_
  rotate_left 1
  · (intro wS hSw; (try dsimp only at hSw); go_simp; try with_reducible rfl)
  try simp only [Act.put, List.setIfInBounds_toArray, List.set_cons_zero, List.set_cons_succ]
  refine rg_take (i := 6) (d := some 14) (l := #[true, true, true, true, false, true, true, false, false]) (fuel := 3) (v := ?_) rfl (by kernel_rfl) (by kernel_rfl) (by kernel_rfl) (by kernel_rfl) (by kernel_rfl) (fun _ _ _ h => h) (by kernel_rfl) ?_ (by assumption) ?_
  rotate_left 1
  · (intro wS hSw; (try dsimp only at hSw); go_simp; try with_reducible rfl)
  try simp only [Act.put, List.setIfInBounds_toArray, List.set_cons_zero, List.set_cons_succ]
  refine rg_next (i := 4) (l := #[true, true, true, true, true, true, true, false, false]) (fuel := 2) (by kernel_rfl) rfl (by kernel_rfl) (by kernel_rfl) (fun K hK => ?_)
  go_simp
  go_at_call 33
  refine (mof_any (pgF r) (r 14) _).mono ?_
  rintro e w2 ⟨m, rfl, hm0, hm, hb2⟩
  have K02 := Lib.hid (K0.out.drew_.below hb2 K0.out.drew_.lt)
  have K12 := Lib.hid (K1.out.drew_.below hb2 K1.out.drew_.lt)
  have HB2 := Lib.hid (HB.out.drew.trans (hb2.mono HB.out.drew.size))
  have HM := Lib.hid hm
  clear hb2 hm hm0 s0 s1 s2 s3 s4 s5 s6 s7 s8 s9
  first | (refine hK.out _ _ ?_ (fun hHeld => ?_)) | (go_wp2_with fail; refine hK.out _ _ ?_ (fun hHeld => ?_))
  · (try dsimp only); exact st_cells K02.out K12.out
  clear hK K
  try simp only [Act.put, List.setIfInBounds_toArray, List.set_cons_zero, List.set_cons_succ]
  refine rg_next (i := 7) (l := #[true, true, true, true, true, true, true, true, false]) (fuel := 1) (by kernel_rfl) rfl (by kernel_rfl) (by kernel_rfl) (fun K hK => ?_)
  go_simp
  go_at_call 34
  refine (mphys_of (banks_any HM.out) (pgF_bd HR.out) a hA.out.1 hA.out.2).mono ?_
  rintro e w3 ⟨rfl, hb3⟩
  have K03 := Lib.hid (K02.out.below hb3 K02.out.lt)
  have K13 := Lib.hid (K12.out.below hb3 K12.out.lt)
  have HB3 := Lib.hid (HB2.out.trans (hb3.mono HB2.out.size))
  clear hb3
  first | (refine hK.out _ _ ?_ (fun hHeld => ?_)) | (go_wp2_with fail; refine hK.out _ _ ?_ (fun hHeld => ?_))
  · (try dsimp only); exact st_cells K03.out K13.out
  clear hK K
  try simp only [Act.put, List.setIfInBounds_toArray, List.set_cons_zero, List.set_cons_succ]
  refine rg_take (i := 8) (d := some 7) (l := #[true, true, true, true, true, true, true, true, true]) (fuel := 0) (v := ?_) rfl (by kernel_rfl) (by kernel_rfl) (by kernel_rfl) (by kernel_rfl) (by kernel_rfl) (fun _ _ _ h => h) (by kernel_rfl) ?_ (by assumption) ?_
  rotate_left 1
  · (intro wS hSw; (try dsimp only at hSw); go_simp; try with_reducible rfl)
  try simp only [Act.put, List.setIfInBounds_toArray, List.set_cons_zero, List.set_cons_succ]
  refine wpAnyH_done (by kernel_rfl) ?_ _
  clear hHeld
  have q0 : w3.cell? ⟨w.heap.size + 1, 0, none⟩ = some (.int .u8 kd) := K13.out.cell 0
  have q2 : w3.cell? ⟨w.heap.size + 1, 2, none⟩ = some (.bool b) := K13.out.cell 2
  have q3 : w3.cell? ⟨w.heap.size + 1, 3, none⟩ = some (.int .u8 v) := K13.out.cell 3
  clear K0 K1 K02 K12 HM HB HB2 HW1
  cases b with
  | true =>
    go_wp2_with fail
    refine (HW.out (by simp) _ HB3.out).mono ?_
    rintro e w4 ⟨rfl, hR⟩
    have HRR := Lib.hid hR
    clear hR q0 q2 q3
    go_wp2_with fail
    go_ret
    exact ⟨_, _, rfl, HB3.out, HRR.out⟩
  | false =>
    go_wp2_with fail
    refine (HD.out (by simp) _ HB3.out).mono ?_
    rintro e w4 ⟨x, rfl, hR⟩
    have HRR := Lib.hid hR
    clear hR q0 q2 q3
    go_wp2_with fail
    go_ret
    exact ⟨_, _, rfl, HB3.out, HRR.out⟩
end Go.Proofs.YtngfmofjonleeaaGreat
namespace Go.Proofs.YtngfmofjonleeaaGreat
open Go.RowKit
set_option linter.unusedVariables false
set_option linter.unusedSimpArgs false
set_option maxRecDepth 100000
theorem eidling_any (r : Nat → Int) (w : World) : Calls Tryz.prog 46 #[.agg (stA r)] w fun e w' => ∃ g, e = .returned (.func (.func 84) #[] #[.pointer (some ⟨g, 0, none⟩)]) ∧ w.heap.size ≤ g ∧ Blk w' g 25 (stA r) ∧ Below w.heap.size w w' := by
  go_enter Tryz.func46, Tryz.ntmps46
  go_wp2_with fail
  go_ret
  exact ⟨_, rfl, Nat.le_refl _, Blk.new w _ _, (Below.refl _ w).alloc (Nat.le_refl _) _⟩
theorem epushing_any (k : Int) (r : Nat → Int) (w : World) : Calls Tryz.prog 47 #[.int .u8 k, .agg (stA r)] w fun e w' => ∃ g q, e = .returned (.func (.func 86) #[] #[.pointer (some ⟨g, 0, none⟩), .pointer (some ⟨q, 0, none⟩)]) ∧ w.heap.size ≤ q ∧ q < g ∧ Blk w' g 25 (stA r) ∧ Blk w' q 5 #[.int .u8 k] ∧ Below w.heap.size w w' := by
  go_enter Tryz.func47, Tryz.ntmps47
  go_wp2_with fail
  go_ret
  exact ⟨_, _, rfl, Nat.le_refl _, Nat.lt_succ_self _, Blk.new_ (by simp), (Blk.new w _ _).alloc _, ((Below.refl _ w).alloc (Nat.le_refl _) _).alloc (by show w.heap.size ≤ (w.heap.push _).size; simp) _⟩
end Go.Proofs.YtngfmofjonleeaaGreat
