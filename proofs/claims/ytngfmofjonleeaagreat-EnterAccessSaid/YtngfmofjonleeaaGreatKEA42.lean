/-
  Texts of these proofs, one behind the other: Ent1.
-/
import Derived.Test.YtngfmofjonleeaaGreatKEA40
import Derived.Test.YtngfmofjonleeaaGreatKEA05
import Derived.Test.YtngfmofjonleeaaGreatKEA17
import Derived.Test.YtngfmofjonleeaaGreatKEA41
import Derived.Laws.CopyOwn
namespace Go.Proofs.YtngfmofjonleeaaGreat
open Go.RowKit
set_option linter.unusedVariables false
set_option linter.unusedSimpArgs false
set_option maxRecDepth 100000
/-- The registers behind an entry. -/
def entP (k : Int) (r : Nat → Int) (z : Int) : Nat → Int := if k < 1 ∨ 5 < k then r else fun i =>
  if i = 3 then (r 3 - 3) % 256 else if i = 4 then flS (flS (r 4) 4 true) 56 false else if i = 5 then z else if i = 13 ∧ k = 1 then 0 else if i = 15 ∧ k = 1 then 0 else r i
theorem entP_no {k : Int} (r : Nat → Int) (z : Int) (h : ¬ (1 ≤ k ∧ k ≤ 5)) : entP k r z = r := if_pos (by omega)
theorem entP_yes {k : Int} (r : Nat → Int) (z : Int) (h : 1 ≤ k ∧ k ≤ 5) (h1 : k ≠ 1) : stA (entP k r z) = #[.int .u8 (r 0), .int .u8 (r 1), .int .u8 (r 2), .int .u8 ((r 3 - 3) % 256), .int .u8 (flS (flS (r 4) 4 true) 56 false), .int .u16 z, .int .u8 (r 6), .int .u8 (r 7), .int .u8 (r 8), .int .u8 (r 9), .int .u8 (r 10), .int .u8 (r 11), .int .u8 (r 12), .int .u8 (r 13), .int .u8 (r 14), .bool (decide (r 15 = 1))] := by
  unfold entP
  rw [if_neg (by omega)]
  unfold stA
  simp [h1]
theorem entP_res (r : Nat → Int) (z : Int) : stA (entP 1 r z) = #[.int .u8 (r 0), .int .u8 (r 1), .int .u8 (r 2), .int .u8 ((r 3 - 3) % 256), .int .u8 (flS (flS (r 4) 4 true) 56 false), .int .u16 z, .int .u8 (r 6), .int .u8 (r 7), .int .u8 (r 8), .int .u8 (r 9), .int .u8 (r 10), .int .u8 (r 11), .int .u8 (r 12), .int .u8 0, .int .u8 (r 14), .bool false] := by
  unfold entP
  rw [if_neg (by omega)]
  unfold stA
  simp
theorem goes_1 (w : World) : Calls Tryz.prog 45 #[.int .u8 1] w fun e w' => e = .returned (.tuple #[.int .u16 65534, .bool true]) ∧ w = w' := goes_yes 1 w (by decide)
set_option maxHeartbeats 8000000 in
theorem eafter_no (k : Nat) (r : Nat → Int) (z : Int) (w : World) (hk : ¬ (1 ≤ k ∧ k ≤ 5)) : Calls Tryz.prog 16 #[.int .u8 k, .agg (stA r), .int .u16 z] w fun e w' => e = .returned (.agg (stA r)) ∧ Below w.heap.size w w' := by
  have h8 : (Tryz.prog.info? 25).map (·.size) = some (stA r).size := by rw [stA_size]; exact size_state
  have H8 := Lib.hid h8
  have hB0 : Below w.heap.size w ((w.alloc (.cells (stA r) 25)).alloc (.cells #[.int .u8 0, .int .u8 0, .int .u8 0, .int .u8 0, .int .u8 0, .int .u16 0, .int .u8 0, .int .u8 0, .int .u8 0, .int .u8 0, .int .u8 0, .int .u8 0, .int .u8 0, .int .u8 0, .int .u8 0, .bool false] 25)) := ((Below.refl _ w).alloc (Nat.le_refl _) _).alloc (by show w.heap.size ≤ (w.heap.push _).size; simp) _
  have k0 : Blk ((w.alloc (.cells (stA r) 25)).alloc (.cells #[.int .u8 0, .int .u8 0, .int .u8 0, .int .u8 0, .int .u8 0, .int .u16 0, .int .u8 0, .int .u8 0, .int .u8 0, .int .u8 0, .int .u8 0, .int .u8 0, .int .u8 0, .int .u8 0, .int .u8 0, .bool false] 25)) w.heap.size 25 (stA r) := (Blk.new w _ _).alloc _
  have k1 : Blk ((w.alloc (.cells (stA r) 25)).alloc (.cells #[.int .u8 0, .int .u8 0, .int .u8 0, .int .u8 0, .int .u8 0, .int .u16 0, .int .u8 0, .int .u8 0, .int .u8 0, .int .u8 0, .int .u8 0, .int .u8 0, .int .u8 0, .int .u8 0, .int .u8 0, .bool false] 25)) (w.heap.size + 1) 25 #[.int .u8 0, .int .u8 0, .int .u8 0, .int .u8 0, .int .u8 0, .int .u16 0, .int .u8 0, .int .u8 0, .int .u8 0, .int .u8 0, .int .u8 0, .int .u8 0, .int .u8 0, .int .u8 0, .int .u8 0, .bool false] := Blk.new_ (by simp)
  have HB0 := Lib.hid hB0
  have K0 := Lib.hid k0
  have K1 := Lib.hid k1
  clear h8 hB0 k0 k1
  go_enter Tryz.func16, Tryz.ntmps16
  go_wp2_with fail
  refine (goes_no _ (by omega)).mono ?_
  rintro e w' ⟨rfl, rfl⟩
  generalize ((w.alloc (.cells (stA r) 25)).alloc (.cells #[.int .u8 0, .int .u8 0, .int .u8 0, .int .u8 0, .int .u8 0, .int .u16 0, .int .u8 0, .int .u8 0, .int .u8 0, .int .u8 0, .int .u8 0, .int .u8 0, .int .u8 0, .int .u8 0, .int .u8 0, .bool false] 25)) = w1 at *
  have kk0 := K0.out
  have hst := K1.out.run_store (P := Tryz.prog) (stA r) rfl (stA_one _)
  have HD := Lib.hid ((K1.out.row (stA r)).run_load (P := Tryz.prog) Tryz.underlying25 rfl size_state)
  have B5 := Lib.hid (below_setRow HB0.out (show w.heap.size ≤ w.heap.size + 1 by omega) (stA r))
  have hsR := stA_size r
  go_wp2_with (refine wpList_load_row rfl 25 (.tmp 4) rfl w.heap.size (by rfl) 25 (stA r) (0, 0) _ kk0 Tryz.underlying25 rfl H8.out ?_)
  (try simp only [Exit.inBlock, Exit.then])
  refine bodyPost_ret (results_cell (a := ⟨w.heap.size + 1, 0, none⟩) Tryz.results16 (by rfl) HD.out) rfl ?_
  exact ⟨rfl, B5.out⟩
set_option maxHeartbeats 8000000 in
theorem eafter_res (r : Nat → Int) (z : Int) (w : World) : Calls Tryz.prog 16 #[.int .u8 1, .agg (stA r), .int .u16 z] w fun e w' => e = .returned (.agg (stA (entP 1 r z))) ∧ Below w.heap.size w w' := by
  have h8 : (Tryz.prog.info? 25).map (·.size) = some (stA r).size := by rw [stA_size]; exact size_state
  have H8 := Lib.hid h8
  have hB0 : Below w.heap.size w ((w.alloc (.cells (stA r) 25)).alloc (.cells #[.int .u8 0, .int .u8 0, .int .u8 0, .int .u8 0, .int .u8 0, .int .u16 0, .int .u8 0, .int .u8 0, .int .u8 0, .int .u8 0, .int .u8 0, .int .u8 0, .int .u8 0, .int .u8 0, .int .u8 0, .bool false] 25)) := ((Below.refl _ w).alloc (Nat.le_refl _) _).alloc (by show w.heap.size ≤ (w.heap.push _).size; simp) _
  have k0 : Blk ((w.alloc (.cells (stA r) 25)).alloc (.cells #[.int .u8 0, .int .u8 0, .int .u8 0, .int .u8 0, .int .u8 0, .int .u16 0, .int .u8 0, .int .u8 0, .int .u8 0, .int .u8 0, .int .u8 0, .int .u8 0, .int .u8 0, .int .u8 0, .int .u8 0, .bool false] 25)) w.heap.size 25 (stA r) := (Blk.new w _ _).alloc _
  have k1 : Blk ((w.alloc (.cells (stA r) 25)).alloc (.cells #[.int .u8 0, .int .u8 0, .int .u8 0, .int .u8 0, .int .u8 0, .int .u16 0, .int .u8 0, .int .u8 0, .int .u8 0, .int .u8 0, .int .u8 0, .int .u8 0, .int .u8 0, .int .u8 0, .int .u8 0, .bool false] 25)) (w.heap.size + 1) 25 #[.int .u8 0, .int .u8 0, .int .u8 0, .int .u8 0, .int .u8 0, .int .u16 0, .int .u8 0, .int .u8 0, .int .u8 0, .int .u8 0, .int .u8 0, .int .u8 0, .int .u8 0, .int .u8 0, .int .u8 0, .bool false] := Blk.new_ (by simp)
  have HB0 := Lib.hid hB0
  have K0 := Lib.hid k0
  have K1 := Lib.hid k1
  clear h8 hB0 k0 k1
  go_enter Tryz.func16, Tryz.ntmps16
  go_wp2_with fail
  refine (goes_1 _).mono ?_
  rintro e w' ⟨rfl, rfl⟩
  generalize ((w.alloc (.cells (stA r) 25)).alloc (.cells #[.int .u8 0, .int .u8 0, .int .u8 0, .int .u8 0, .int .u8 0, .int .u16 0, .int .u8 0, .int .u8 0, .int .u8 0, .int .u8 0, .int .u8 0, .int .u8 0, .int .u8 0, .int .u8 0, .int .u8 0, .bool false] 25)) = w1 at *
  have c3 : w1.cell? ⟨w.heap.size, 3, none⟩ = some (.int .u8 (r 3)) := K0.out.cell 3
  have f3 := K0.out.frozen 3
  have c4 : w1.cell? ⟨w.heap.size, 4, none⟩ = some (.int .u8 (r 4)) := K0.out.cell 4
  have f4 := K0.out.frozen 4
  have c5 : w1.cell? ⟨w.heap.size, 5, none⟩ = some (.int .u16 (r 5)) := K0.out.cell 5
  have f5 := K0.out.frozen 5
  have c13 : w1.cell? ⟨w.heap.size, 13, none⟩ = some (.int .u8 (r 13)) := K0.out.cell 13
  have f13 := K0.out.frozen 13
  have c15 : w1.cell? ⟨w.heap.size, 15, none⟩ = some (.bool (decide (r 15 = 1))) := K0.out.cell 15
  have f15 := K0.out.frozen 15
  go_upto_region 10 with (go_at_call 53; refine (fentered_any _ _).mono ?_; rintro e w' ⟨rfl, rfl⟩)
  have kk : Blk (((((w1.setCell ⟨w.heap.size, 3, none⟩ (.int .u8 ((r 3 - 3) % 256))).setCell ⟨w.heap.size, 4, none⟩ (.int .u8 (flS (flS (r 4) 4 true) 56 false))).setCell ⟨w.heap.size, 5, none⟩ (.int .u16 z)).setCell ⟨w.heap.size, 13, none⟩ (.int .u8 0)).setCell ⟨w.heap.size, 15, none⟩ (.bool false)) w.heap.size 25 (stA (entP 1 r z)) := by
    rw [entP_res]
    exact (((((K0.out.set_ 3 (.int .u8 ((r 3 - 3) % 256))).set_ 4 (.int .u8 (flS (flS (r 4) 4 true) 56 false))).set_ 5 (.int .u16 z)).set_ 13 (.int .u8 0)).set_ 15 (.bool false))
  have k1 := (((((K1.out.far (p := ⟨w.heap.size, 3, none⟩) (by show w.heap.size + 1 ≠ w.heap.size; omega) (.int .u8 ((r 3 - 3) % 256))).far (p := ⟨w.heap.size, 4, none⟩) (by show w.heap.size + 1 ≠ w.heap.size; omega) (.int .u8 (flS (flS (r 4) 4 true) 56 false))).far (p := ⟨w.heap.size, 5, none⟩) (by show w.heap.size + 1 ≠ w.heap.size; omega) (.int .u16 z)).far (p := ⟨w.heap.size, 13, none⟩) (by show w.heap.size + 1 ≠ w.heap.size; omega) (.int .u8 0)).far (p := ⟨w.heap.size, 15, none⟩) (by show w.heap.size + 1 ≠ w.heap.size; omega) (.bool false))
  have hB := (((((HB0.out.setCell (p := ⟨w.heap.size, 3, none⟩) (Nat.le_refl _) (.int .u8 ((r 3 - 3) % 256))).setCell (p := ⟨w.heap.size, 4, none⟩) (Nat.le_refl _) (.int .u8 (flS (flS (r 4) 4 true) 56 false))).setCell (p := ⟨w.heap.size, 5, none⟩) (Nat.le_refl _) (.int .u16 z)).setCell (p := ⟨w.heap.size, 13, none⟩) (Nat.le_refl _) (.int .u8 0)).setCell (p := ⟨w.heap.size, 15, none⟩) (Nat.le_refl _) (.bool false))
  have hsR := stA_size (entP 1 r z)
  have hone := stA_one (entP 1 r z)
  obtain ⟨SX, hSX⟩ : ∃ y, stA (entP 1 r z) = y := ⟨_, rfl⟩
  rw [hSX] at kk hsR hone
  generalize (((((w1.setCell ⟨w.heap.size, 3, none⟩ (.int .u8 ((r 3 - 3) % 256))).setCell ⟨w.heap.size, 4, none⟩ (.int .u8 (flS (flS (r 4) 4 true) 56 false))).setCell ⟨w.heap.size, 5, none⟩ (.int .u16 z)).setCell ⟨w.heap.size, 13, none⟩ (.int .u8 0)).setCell ⟨w.heap.size, 15, none⟩ (.bool false)) = w6 at *
  have KK := Lib.hid kk
  have hst := k1.run_store (P := Tryz.prog) SX hsR.symm hone
  have HD := Lib.hid ((k1.row SX).run_load (P := Tryz.prog) Tryz.underlying25 rfl (by rw [hsR]; exact size_state))
  have B5 := Lib.hid (below_setRow hB (show w.heap.size ≤ w.heap.size + 1 by omega) SX)
  have H9 : Hid ((Tryz.prog.info? 25).map (·.size) = some SX.size) := Lib.hid (by rw [hsR]; exact size_state)
  have HE := Lib.hid hSX
  clear kk k1 hB hSX hone c3 c4 c5 c13 c15 f3 f4 f5 f13 f15
  have kk := KK.out
  go_wp2_with (refine wpList_load_row rfl 25 (.tmp 4) rfl w.heap.size (by rfl) 25 SX (0, 0) _ kk Tryz.underlying25 rfl H9.out ?_)
  (try simp only [Exit.inBlock, Exit.then])
  refine bodyPost_ret (results_cell (a := ⟨w.heap.size + 1, 0, none⟩) Tryz.results16 (by rfl) HD.out) rfl ?_
  exact ⟨by rw [HE.out], B5.out⟩
set_option maxHeartbeats 8000000 in
theorem eafter_on (k : Nat) (r : Nat → Int) (z : Int) (w : World) (hk : 1 ≤ k ∧ k ≤ 5) (h1 : k ≠ 1) : Calls Tryz.prog 16 #[.int .u8 k, .agg (stA r), .int .u16 z] w fun e w' => e = .returned (.agg (stA (entP k r z))) ∧ Below w.heap.size w w' := by
  have hy := entP_yes (k := (k : Int)) r z (by omega) (by omega)
  have HY := Lib.hid hy
  have e1 : ((k : Int) == 1) = false := by simp; omega
  have hg := fun W => goes_yes k W hk
  clear hy hk h1
  have h8 : (Tryz.prog.info? 25).map (·.size) = some (stA r).size := by rw [stA_size]; exact size_state
  have H8 := Lib.hid h8
  have hB0 : Below w.heap.size w ((w.alloc (.cells (stA r) 25)).alloc (.cells #[.int .u8 0, .int .u8 0, .int .u8 0, .int .u8 0, .int .u8 0, .int .u16 0, .int .u8 0, .int .u8 0, .int .u8 0, .int .u8 0, .int .u8 0, .int .u8 0, .int .u8 0, .int .u8 0, .int .u8 0, .bool false] 25)) := ((Below.refl _ w).alloc (Nat.le_refl _) _).alloc (by show w.heap.size ≤ (w.heap.push _).size; simp) _
  have k0 : Blk ((w.alloc (.cells (stA r) 25)).alloc (.cells #[.int .u8 0, .int .u8 0, .int .u8 0, .int .u8 0, .int .u8 0, .int .u16 0, .int .u8 0, .int .u8 0, .int .u8 0, .int .u8 0, .int .u8 0, .int .u8 0, .int .u8 0, .int .u8 0, .int .u8 0, .bool false] 25)) w.heap.size 25 (stA r) := (Blk.new w _ _).alloc _
  have k1 : Blk ((w.alloc (.cells (stA r) 25)).alloc (.cells #[.int .u8 0, .int .u8 0, .int .u8 0, .int .u8 0, .int .u8 0, .int .u16 0, .int .u8 0, .int .u8 0, .int .u8 0, .int .u8 0, .int .u8 0, .int .u8 0, .int .u8 0, .int .u8 0, .int .u8 0, .bool false] 25)) (w.heap.size + 1) 25 #[.int .u8 0, .int .u8 0, .int .u8 0, .int .u8 0, .int .u8 0, .int .u16 0, .int .u8 0, .int .u8 0, .int .u8 0, .int .u8 0, .int .u8 0, .int .u8 0, .int .u8 0, .int .u8 0, .int .u8 0, .bool false] := Blk.new_ (by simp)
  have HB0 := Lib.hid hB0
  have K0 := Lib.hid k0
  have K1 := Lib.hid k1
  clear h8 hB0 k0 k1
  go_enter Tryz.func16, Tryz.ntmps16
  go_wp2_with fail
  refine (hg _).mono ?_
  rintro e w' ⟨rfl, rfl⟩
  generalize ((w.alloc (.cells (stA r) 25)).alloc (.cells #[.int .u8 0, .int .u8 0, .int .u8 0, .int .u8 0, .int .u8 0, .int .u16 0, .int .u8 0, .int .u8 0, .int .u8 0, .int .u8 0, .int .u8 0, .int .u8 0, .int .u8 0, .int .u8 0, .int .u8 0, .bool false] 25)) = w1 at *
  have c3 : w1.cell? ⟨w.heap.size, 3, none⟩ = some (.int .u8 (r 3)) := K0.out.cell 3
  have f3 := K0.out.frozen 3
  have c4 : w1.cell? ⟨w.heap.size, 4, none⟩ = some (.int .u8 (r 4)) := K0.out.cell 4
  have f4 := K0.out.frozen 4
  have c5 : w1.cell? ⟨w.heap.size, 5, none⟩ = some (.int .u16 (r 5)) := K0.out.cell 5
  have f5 := K0.out.frozen 5
  have c13 : w1.cell? ⟨w.heap.size, 13, none⟩ = some (.int .u8 (r 13)) := K0.out.cell 13
  have f13 := K0.out.frozen 13
  have c15 : w1.cell? ⟨w.heap.size, 15, none⟩ = some (.bool (decide (r 15 = 1))) := K0.out.cell 15
  have f15 := K0.out.frozen 15
  go_upto_region 10 with (go_at_call 53; refine (fentered_any _ _).mono ?_; rintro e w' ⟨rfl, rfl⟩)
  have kk : Blk (((w1.setCell ⟨w.heap.size, 3, none⟩ (.int .u8 ((r 3 - 3) % 256))).setCell ⟨w.heap.size, 4, none⟩ (.int .u8 (flS (flS (r 4) 4 true) 56 false))).setCell ⟨w.heap.size, 5, none⟩ (.int .u16 z)) w.heap.size 25 (stA (entP k r z)) := by
    rw [HY.out]
    exact (((K0.out.set_ 3 (.int .u8 ((r 3 - 3) % 256))).set_ 4 (.int .u8 (flS (flS (r 4) 4 true) 56 false))).set_ 5 (.int .u16 z))
  have k1 := (((K1.out.far (p := ⟨w.heap.size, 3, none⟩) (by show w.heap.size + 1 ≠ w.heap.size; omega) (.int .u8 ((r 3 - 3) % 256))).far (p := ⟨w.heap.size, 4, none⟩) (by show w.heap.size + 1 ≠ w.heap.size; omega) (.int .u8 (flS (flS (r 4) 4 true) 56 false))).far (p := ⟨w.heap.size, 5, none⟩) (by show w.heap.size + 1 ≠ w.heap.size; omega) (.int .u16 z))
  have hB := (((HB0.out.setCell (p := ⟨w.heap.size, 3, none⟩) (Nat.le_refl _) (.int .u8 ((r 3 - 3) % 256))).setCell (p := ⟨w.heap.size, 4, none⟩) (Nat.le_refl _) (.int .u8 (flS (flS (r 4) 4 true) 56 false))).setCell (p := ⟨w.heap.size, 5, none⟩) (Nat.le_refl _) (.int .u16 z))
  have hsR := stA_size (entP k r z)
  have hone := stA_one (entP k r z)
  obtain ⟨SX, hSX⟩ : ∃ y, stA (entP k r z) = y := ⟨_, rfl⟩
  rw [hSX] at kk hsR hone
  generalize (((w1.setCell ⟨w.heap.size, 3, none⟩ (.int .u8 ((r 3 - 3) % 256))).setCell ⟨w.heap.size, 4, none⟩ (.int .u8 (flS (flS (r 4) 4 true) 56 false))).setCell ⟨w.heap.size, 5, none⟩ (.int .u16 z)) = w6 at *
  have KK := Lib.hid kk
  have hst := k1.run_store (P := Tryz.prog) SX hsR.symm hone
  have HD := Lib.hid ((k1.row SX).run_load (P := Tryz.prog) Tryz.underlying25 rfl (by rw [hsR]; exact size_state))
  have B5 := Lib.hid (below_setRow hB (show w.heap.size ≤ w.heap.size + 1 by omega) SX)
  have H9 : Hid ((Tryz.prog.info? 25).map (·.size) = some SX.size) := Lib.hid (by rw [hsR]; exact size_state)
  have HE := Lib.hid hSX
  clear kk k1 hB hSX hone c3 c4 c5 c13 c15 f3 f4 f5 f13 f15
  have kk := KK.out
  go_wp2_with (refine wpList_load_row rfl 25 (.tmp 4) rfl w.heap.size (by rfl) 25 SX (0, 0) _ kk Tryz.underlying25 rfl H9.out ?_)
  (try simp only [Exit.inBlock, Exit.then])
  refine bodyPost_ret (results_cell (a := ⟨w.heap.size + 1, 0, none⟩) Tryz.results16 (by rfl) HD.out) rfl ?_
  exact ⟨by rw [HE.out], B5.out⟩
theorem eafter_any (k : Nat) (r : Nat → Int) (z : Int) (w : World) : Calls Tryz.prog 16 #[.int .u8 k, .agg (stA r), .int .u16 z] w fun e w' => e = .returned (.agg (stA (entP k r z))) ∧ Below w.heap.size w w' := by
  by_cases hk : 1 ≤ k ∧ k ≤ 5
  · by_cases h1 : k = 1
    · subst h1; exact eafter_res r z w
    · exact eafter_on k r z w hk h1
  · rw [entP_no r z (by omega)]; exact eafter_no k r z w hk
end Go.Proofs.YtngfmofjonleeaaGreat
