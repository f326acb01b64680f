/-
  Texts of these proofs, one behind the other: Ent2, Ent3, Ent4, Ent5.
-/
import Derived.Test.YtndhkdcdhpfajaaGreatKED42
import Derived.Test.YtndhkdcdhpfajaaGreatKED46
import Derived.Test.YtndhkdcdhpfajaaGreatKED03
import Derived.Deep.RegionHeld3
namespace Go.Proofs.YtndhkdcdhpfajaaGreat
open Go.RowKit
set_option linter.unusedVariables false
set_option linter.unusedSimpArgs false
set_option maxRecDepth 100000
set_option maxHeartbeats 8000000 in
theorem rafter_no (k : Nat) (r : Nat → Int) (z : Int) (w : World) (hk : ¬ (1 ≤ k ∧ k ≤ 5)) : Calls Tryz.prog 56 #[.int .u8 k, .agg (stA r), .int .u16 z] w fun e w' => e = .returned (.agg (stA r)) ∧ Below w.heap.size w w' := by
 have h8 : (Tryz.prog.info? 32).map (·.size) = some (stA r).size := by rw [stA_size]; exact size_state
 have H8 := Lib.hid h8
 have hB0 : Below w.heap.size w ((w.alloc (.cells (stA r) 32)).alloc (.cells #[.int .u8 0, .int .u8 0, .int .u8 0, .int .u8 0, .int .u8 0, .int .u16 0, .int .u8 0, .int .u8 0, .int .u8 0, .int .u8 0, .int .u8 0, .int .u8 0, .int .u8 0, .int .u8 0, .int .u8 0, .bool false] 32)) := ((Below.refl _ w).alloc (Nat.le_refl _) _).alloc (by show w.heap.size ≤ (w.heap.push _).size; simp) _
 have k0 : Blk ((w.alloc (.cells (stA r) 32)).alloc (.cells #[.int .u8 0, .int .u8 0, .int .u8 0, .int .u8 0, .int .u8 0, .int .u16 0, .int .u8 0, .int .u8 0, .int .u8 0, .int .u8 0, .int .u8 0, .int .u8 0, .int .u8 0, .int .u8 0, .int .u8 0, .bool false] 32)) w.heap.size 32 (stA r) := (Blk.new w _ _).alloc _
 have k1 : Blk ((w.alloc (.cells (stA r) 32)).alloc (.cells #[.int .u8 0, .int .u8 0, .int .u8 0, .int .u8 0, .int .u8 0, .int .u16 0, .int .u8 0, .int .u8 0, .int .u8 0, .int .u8 0, .int .u8 0, .int .u8 0, .int .u8 0, .int .u8 0, .int .u8 0, .bool false] 32)) (w.heap.size + 1) 32 #[.int .u8 0, .int .u8 0, .int .u8 0, .int .u8 0, .int .u8 0, .int .u16 0, .int .u8 0, .int .u8 0, .int .u8 0, .int .u8 0, .int .u8 0, .int .u8 0, .int .u8 0, .int .u8 0, .int .u8 0, .bool false] := Blk.new_ (by simp)
 have HB0 := Lib.hid hB0
 have K0 := Lib.hid k0
 have K1 := Lib.hid k1
 clear h8 hB0 k0 k1
 obtain ⟨w1, hw1⟩ : ∃ w1, ((w.alloc (.cells (stA r) 32)).alloc (.cells #[.int .u8 0, .int .u8 0, .int .u8 0, .int .u8 0, .int .u8 0, .int .u16 0, .int .u8 0, .int .u8 0, .int .u8 0, .int .u8 0, .int .u8 0, .int .u8 0, .int .u8 0, .int .u8 0, .int .u8 0, .bool false] 32)) = w1 := ⟨_, rfl⟩
 rw [hw1] at HB0 K0 K1
 have HW1 := Lib.hid hw1
 clear hw1
 have hk2 : (k : Int) < 1 ∨ (¬ (k : Int) < 1 ∧ 5 < (k : Int)) := by omega
 clear hk
 have kk0 := K0.out
 have hst := K1.out.run_store (P := Tryz.prog) (stA r) rfl (stA_one _)
 have HD := Lib.hid ((K1.out.row (stA r)).run_load (P := Tryz.prog) Tryz.underlying32 rfl size_state)
 have B5 := Lib.hid (below_setRow HB0.out (show w.heap.size ≤ w.heap.size + 1 by omega) (stA r))
 have hsR := stA_size r
 rcases hk2 with ha | ⟨ha, hb⟩
 all_goals
  go_enter Tryz.func56, Tryz.ntmps56
  go_upto_region 1 with fail
  rw [HW1.out]
  go_wp2_with (refine wpList_load_row rfl 32 (.tmp 4) rfl w.heap.size (by rfl) 32 (stA r) (0, 0) _ kk0 Tryz.underlying32 rfl H8.out ?_)
  (try simp only [Exit.inBlock, Exit.then])
  refine bodyPost_ret (results_cell (a := ⟨w.heap.size + 1, 0, none⟩) Tryz.results56 (by rfl) HD.out) rfl ?_
  exact ⟨rfl, B5.out⟩
set_option maxHeartbeats 8000000 in
theorem rafter_res (r : Nat → Int) (z : Int) (w : World) (r0 : 0 ≤ r 4) (r1 : r 4 ≤ 255) : Calls Tryz.prog 56 #[.int .u8 1, .agg (stA r), .int .u16 z] w fun e w' => e = .returned (.agg (stA (entP 1 r z))) ∧ Below w.heap.size w w' := by
 have hy := entP_res r z
 rw [entered_eq _ r0 r1] at hy
 have HY := Lib.hid hy
 clear hy
 have h8 : (Tryz.prog.info? 32).map (·.size) = some (stA r).size := by rw [stA_size]; exact size_state
 have H8 := Lib.hid h8
 have hB0 : Below w.heap.size w ((w.alloc (.cells (stA r) 32)).alloc (.cells #[.int .u8 0, .int .u8 0, .int .u8 0, .int .u8 0, .int .u8 0, .int .u16 0, .int .u8 0, .int .u8 0, .int .u8 0, .int .u8 0, .int .u8 0, .int .u8 0, .int .u8 0, .int .u8 0, .int .u8 0, .bool false] 32)) := ((Below.refl _ w).alloc (Nat.le_refl _) _).alloc (by show w.heap.size ≤ (w.heap.push _).size; simp) _
 have k0 : Blk ((w.alloc (.cells (stA r) 32)).alloc (.cells #[.int .u8 0, .int .u8 0, .int .u8 0, .int .u8 0, .int .u8 0, .int .u16 0, .int .u8 0, .int .u8 0, .int .u8 0, .int .u8 0, .int .u8 0, .int .u8 0, .int .u8 0, .int .u8 0, .int .u8 0, .bool false] 32)) w.heap.size 32 (stA r) := (Blk.new w _ _).alloc _
 have k1 : Blk ((w.alloc (.cells (stA r) 32)).alloc (.cells #[.int .u8 0, .int .u8 0, .int .u8 0, .int .u8 0, .int .u8 0, .int .u16 0, .int .u8 0, .int .u8 0, .int .u8 0, .int .u8 0, .int .u8 0, .int .u8 0, .int .u8 0, .int .u8 0, .int .u8 0, .bool false] 32)) (w.heap.size + 1) 32 #[.int .u8 0, .int .u8 0, .int .u8 0, .int .u8 0, .int .u8 0, .int .u16 0, .int .u8 0, .int .u8 0, .int .u8 0, .int .u8 0, .int .u8 0, .int .u8 0, .int .u8 0, .int .u8 0, .int .u8 0, .bool false] := Blk.new_ (by simp)
 have HB0 := Lib.hid hB0
 have K0 := Lib.hid k0
 have K1 := Lib.hid k1
 clear h8 hB0 k0 k1
 obtain ⟨w1, hw1⟩ : ∃ w1, ((w.alloc (.cells (stA r) 32)).alloc (.cells #[.int .u8 0, .int .u8 0, .int .u8 0, .int .u8 0, .int .u8 0, .int .u16 0, .int .u8 0, .int .u8 0, .int .u8 0, .int .u8 0, .int .u8 0, .int .u8 0, .int .u8 0, .int .u8 0, .int .u8 0, .bool false] 32)) = w1 := ⟨_, rfl⟩
 rw [hw1] at HB0 K0 K1
 have HW1 := Lib.hid hw1
 clear hw1
 have c3 : w1.cell? ⟨w.heap.size, 3, none⟩ = some (.int .u8 (r 3)) := K0.out.cell 3
 have f3 := K0.out.frozen 3
 have c4 : w1.cell? ⟨w.heap.size, 4, none⟩ = some (.int .u8 (r 4)) := K0.out.cell 4
 have HR0 := Lib.hid (And.intro r0 r1)
 clear r0 r1
 go_enter Tryz.func56, Tryz.ntmps56
 go_upto_region 1 with fail
 rw [HW1.out]
 go_wp2_with fail
 refine (rfentered_any _ HR0.out.1 HR0.out.2).mono ?_
 rintro e w3 ⟨rfl, hb⟩
 have q0 := (K0.out.set_ 3 (.int .u8 ((r 3 - 3) % 256)))
 have q1 := (K1.out.far (p := ⟨w.heap.size, 3, none⟩) (by show w.heap.size + 1 ≠ w.heap.size; omega) (.int .u8 ((r 3 - 3) % 256)))
 have qb := (HB0.out.setCell (p := ⟨w.heap.size, 3, none⟩) (Nat.le_refl _) (.int .u8 ((r 3 - 3) % 256)))
 have K3 := Lib.hid (q0.below hb q0.lt)
 have K13 := Lib.hid (q1.below hb q1.lt)
 have HB3 := Lib.hid (qb.trans (hb.mono qb.size))
 clear q0 q1 qb hb c3 f3 c4
 have f4 : w3.frozen? ⟨w.heap.size, 4, none⟩ = false := K3.out.frozen 4
 have c4 : w3.cell? ⟨w.heap.size, 4, none⟩ = some (.int .u8 (r 4)) := K3.out.cell 4
 have f5 : w3.frozen? ⟨w.heap.size, 5, none⟩ = false := K3.out.frozen 5
 have c5 : w3.cell? ⟨w.heap.size, 5, none⟩ = some (.int .u16 (r 5)) := K3.out.cell 5
 have f13 : w3.frozen? ⟨w.heap.size, 13, none⟩ = false := K3.out.frozen 13
 have c13 : w3.cell? ⟨w.heap.size, 13, none⟩ = some (.int .u8 (r 13)) := K3.out.cell 13
 have f15 : w3.frozen? ⟨w.heap.size, 15, none⟩ = false := K3.out.frozen 15
 have c15 : w3.cell? ⟨w.heap.size, 15, none⟩ = some (.bool (decide (r 15 = 1))) := K3.out.cell 15
 go_upto_region 9 with fail
 have kk : Blk ((((w3.setCell ⟨w.heap.size, 4, none⟩ (.int .u8 (rwith (rwith (rwith (rwith (r 4) 2 true) 4 false) 3 false) 5 false))).setCell ⟨w.heap.size, 5, none⟩ (.int .u16 z)).setCell ⟨w.heap.size, 13, none⟩ (.int .u8 0)).setCell ⟨w.heap.size, 15, none⟩ (.bool false)) w.heap.size 32 (stA (entP 1 r z)) := by
  rw [HY.out]
  exact ((((K3.out.set_ 4 (.int .u8 (rwith (rwith (rwith (rwith (r 4) 2 true) 4 false) 3 false) 5 false))).set_ 5 (.int .u16 z)).set_ 13 (.int .u8 0)).set_ 15 (.bool false))
 have k1 := ((((K13.out.far (p := ⟨w.heap.size, 4, none⟩) (by show w.heap.size + 1 ≠ w.heap.size; omega) (.int .u8 (rwith (rwith (rwith (rwith (r 4) 2 true) 4 false) 3 false) 5 false))).far (p := ⟨w.heap.size, 5, none⟩) (by show w.heap.size + 1 ≠ w.heap.size; omega) (.int .u16 z)).far (p := ⟨w.heap.size, 13, none⟩) (by show w.heap.size + 1 ≠ w.heap.size; omega) (.int .u8 0)).far (p := ⟨w.heap.size, 15, none⟩) (by show w.heap.size + 1 ≠ w.heap.size; omega) (.bool false))
 have hB := ((((HB3.out.setCell (p := ⟨w.heap.size, 4, none⟩) (Nat.le_refl _) (.int .u8 (rwith (rwith (rwith (rwith (r 4) 2 true) 4 false) 3 false) 5 false))).setCell (p := ⟨w.heap.size, 5, none⟩) (Nat.le_refl _) (.int .u16 z)).setCell (p := ⟨w.heap.size, 13, none⟩) (Nat.le_refl _) (.int .u8 0)).setCell (p := ⟨w.heap.size, 15, none⟩) (Nat.le_refl _) (.bool false))
 have hsR := stA_size (entP 1 r z)
 have hone := stA_one (entP 1 r z)
 obtain ⟨SX, hSX⟩ : ∃ y, stA (entP 1 r z) = y := ⟨_, rfl⟩
 rw [hSX] at kk hsR hone
 generalize ((((w3.setCell ⟨w.heap.size, 4, none⟩ (.int .u8 (rwith (rwith (rwith (rwith (r 4) 2 true) 4 false) 3 false) 5 false))).setCell ⟨w.heap.size, 5, none⟩ (.int .u16 z)).setCell ⟨w.heap.size, 13, none⟩ (.int .u8 0)).setCell ⟨w.heap.size, 15, none⟩ (.bool false)) = w6 at *
 have KK := Lib.hid kk
 have hst := k1.run_store (P := Tryz.prog) SX hsR.symm hone
 have HD := Lib.hid ((k1.row SX).run_load (P := Tryz.prog) Tryz.underlying32 rfl (by rw [hsR]; exact size_state))
 have B5 := Lib.hid (below_setRow hB (show w.heap.size ≤ w.heap.size + 1 by omega) SX)
 have H9 : Hid ((Tryz.prog.info? 32).map (·.size) = some SX.size) := Lib.hid (by rw [hsR]; exact size_state)
 have HE := Lib.hid hSX
 clear kk k1 hB hSX hone f4 f5 f13 f15 c4 c5 c13 c15
 have kk := KK.out
 go_wp2_with (refine wpList_load_row rfl 32 (.tmp 4) rfl w.heap.size (by rfl) 32 SX (0, 0) _ kk Tryz.underlying32 rfl H9.out ?_)
 (try simp only [Exit.inBlock, Exit.then])
 refine bodyPost_ret (results_cell (a := ⟨w.heap.size + 1, 0, none⟩) Tryz.results56 (by rfl) HD.out) rfl ?_
 exact ⟨by rw [HE.out], B5.out⟩
set_option maxHeartbeats 8000000 in
theorem rafter_on (k : Nat) (r : Nat → Int) (z : Int) (w : World) (r0 : 0 ≤ r 4) (r1 : r 4 ≤ 255) (hk : 1 ≤ k ∧ k ≤ 5) (h1 : k ≠ 1) : Calls Tryz.prog 56 #[.int .u8 k, .agg (stA r), .int .u16 z] w fun e w' => e = .returned (.agg (stA (entP k r z))) ∧ Below w.heap.size w w' := by
 have hy := entP_yes (k := (k : Int)) r z (by omega) (by omega)
 rw [entered_eq _ r0 r1] at hy
 have HY := Lib.hid hy
 have e1 : ((k : Int) == 1) = false := by simp; omega
 have ha : ¬ (k : Int) < 1 := by omega
 have hc : ¬ (5 : Int) < k := by omega
 clear hy hk h1
 have h8 : (Tryz.prog.info? 32).map (·.size) = some (stA r).size := by rw [stA_size]; exact size_state
 have H8 := Lib.hid h8
 have hB0 : Below w.heap.size w ((w.alloc (.cells (stA r) 32)).alloc (.cells #[.int .u8 0, .int .u8 0, .int .u8 0, .int .u8 0, .int .u8 0, .int .u16 0, .int .u8 0, .int .u8 0, .int .u8 0, .int .u8 0, .int .u8 0, .int .u8 0, .int .u8 0, .int .u8 0, .int .u8 0, .bool false] 32)) := ((Below.refl _ w).alloc (Nat.le_refl _) _).alloc (by show w.heap.size ≤ (w.heap.push _).size; simp) _
 have k0 : Blk ((w.alloc (.cells (stA r) 32)).alloc (.cells #[.int .u8 0, .int .u8 0, .int .u8 0, .int .u8 0, .int .u8 0, .int .u16 0, .int .u8 0, .int .u8 0, .int .u8 0, .int .u8 0, .int .u8 0, .int .u8 0, .int .u8 0, .int .u8 0, .int .u8 0, .bool false] 32)) w.heap.size 32 (stA r) := (Blk.new w _ _).alloc _
 have k1 : Blk ((w.alloc (.cells (stA r) 32)).alloc (.cells #[.int .u8 0, .int .u8 0, .int .u8 0, .int .u8 0, .int .u8 0, .int .u16 0, .int .u8 0, .int .u8 0, .int .u8 0, .int .u8 0, .int .u8 0, .int .u8 0, .int .u8 0, .int .u8 0, .int .u8 0, .bool false] 32)) (w.heap.size + 1) 32 #[.int .u8 0, .int .u8 0, .int .u8 0, .int .u8 0, .int .u8 0, .int .u16 0, .int .u8 0, .int .u8 0, .int .u8 0, .int .u8 0, .int .u8 0, .int .u8 0, .int .u8 0, .int .u8 0, .int .u8 0, .bool false] := Blk.new_ (by simp)
 have HB0 := Lib.hid hB0
 have K0 := Lib.hid k0
 have K1 := Lib.hid k1
 clear h8 hB0 k0 k1
 obtain ⟨w1, hw1⟩ : ∃ w1, ((w.alloc (.cells (stA r) 32)).alloc (.cells #[.int .u8 0, .int .u8 0, .int .u8 0, .int .u8 0, .int .u8 0, .int .u16 0, .int .u8 0, .int .u8 0, .int .u8 0, .int .u8 0, .int .u8 0, .int .u8 0, .int .u8 0, .int .u8 0, .int .u8 0, .bool false] 32)) = w1 := ⟨_, rfl⟩
 rw [hw1] at HB0 K0 K1
 have HW1 := Lib.hid hw1
 clear hw1
 have c3 : w1.cell? ⟨w.heap.size, 3, none⟩ = some (.int .u8 (r 3)) := K0.out.cell 3
 have f3 := K0.out.frozen 3
 have c4 : w1.cell? ⟨w.heap.size, 4, none⟩ = some (.int .u8 (r 4)) := K0.out.cell 4
 have HR0 := Lib.hid (And.intro r0 r1)
 clear r0 r1
 go_enter Tryz.func56, Tryz.ntmps56
 go_upto_region 1 with fail
 rw [HW1.out]
 go_wp2_with fail
 refine (rfentered_any _ HR0.out.1 HR0.out.2).mono ?_
 rintro e w3 ⟨rfl, hb⟩
 have q0 := (K0.out.set_ 3 (.int .u8 ((r 3 - 3) % 256)))
 have q1 := (K1.out.far (p := ⟨w.heap.size, 3, none⟩) (by show w.heap.size + 1 ≠ w.heap.size; omega) (.int .u8 ((r 3 - 3) % 256)))
 have qb := (HB0.out.setCell (p := ⟨w.heap.size, 3, none⟩) (Nat.le_refl _) (.int .u8 ((r 3 - 3) % 256)))
 have K3 := Lib.hid (q0.below hb q0.lt)
 have K13 := Lib.hid (q1.below hb q1.lt)
 have HB3 := Lib.hid (qb.trans (hb.mono qb.size))
 clear q0 q1 qb hb c3 f3 c4
 have f4 : w3.frozen? ⟨w.heap.size, 4, none⟩ = false := K3.out.frozen 4
 have c4 : w3.cell? ⟨w.heap.size, 4, none⟩ = some (.int .u8 (r 4)) := K3.out.cell 4
 have f5 : w3.frozen? ⟨w.heap.size, 5, none⟩ = false := K3.out.frozen 5
 have c5 : w3.cell? ⟨w.heap.size, 5, none⟩ = some (.int .u16 (r 5)) := K3.out.cell 5
 go_upto_region 9 with fail
 have kk : Blk ((w3.setCell ⟨w.heap.size, 4, none⟩ (.int .u8 (rwith (rwith (rwith (rwith (r 4) 2 true) 4 false) 3 false) 5 false))).setCell ⟨w.heap.size, 5, none⟩ (.int .u16 z)) w.heap.size 32 (stA (entP k r z)) := by
  rw [HY.out]
  exact ((K3.out.set_ 4 (.int .u8 (rwith (rwith (rwith (rwith (r 4) 2 true) 4 false) 3 false) 5 false))).set_ 5 (.int .u16 z))
 have k1 := ((K13.out.far (p := ⟨w.heap.size, 4, none⟩) (by show w.heap.size + 1 ≠ w.heap.size; omega) (.int .u8 (rwith (rwith (rwith (rwith (r 4) 2 true) 4 false) 3 false) 5 false))).far (p := ⟨w.heap.size, 5, none⟩) (by show w.heap.size + 1 ≠ w.heap.size; omega) (.int .u16 z))
 have hB := ((HB3.out.setCell (p := ⟨w.heap.size, 4, none⟩) (Nat.le_refl _) (.int .u8 (rwith (rwith (rwith (rwith (r 4) 2 true) 4 false) 3 false) 5 false))).setCell (p := ⟨w.heap.size, 5, none⟩) (Nat.le_refl _) (.int .u16 z))
 have hsR := stA_size (entP k r z)
 have hone := stA_one (entP k r z)
 obtain ⟨SX, hSX⟩ : ∃ y, stA (entP k r z) = y := ⟨_, rfl⟩
 rw [hSX] at kk hsR hone
 generalize ((w3.setCell ⟨w.heap.size, 4, none⟩ (.int .u8 (rwith (rwith (rwith (rwith (r 4) 2 true) 4 false) 3 false) 5 false))).setCell ⟨w.heap.size, 5, none⟩ (.int .u16 z)) = w6 at *
 have KK := Lib.hid kk
 have hst := k1.run_store (P := Tryz.prog) SX hsR.symm hone
 have HD := Lib.hid ((k1.row SX).run_load (P := Tryz.prog) Tryz.underlying32 rfl (by rw [hsR]; exact size_state))
 have B5 := Lib.hid (below_setRow hB (show w.heap.size ≤ w.heap.size + 1 by omega) SX)
 have H9 : Hid ((Tryz.prog.info? 32).map (·.size) = some SX.size) := Lib.hid (by rw [hsR]; exact size_state)
 have HE := Lib.hid hSX
 clear kk k1 hB hSX hone f4 f5 c4 c5
 have kk := KK.out
 go_wp2_with (refine wpList_load_row rfl 32 (.tmp 4) rfl w.heap.size (by rfl) 32 SX (0, 0) _ kk Tryz.underlying32 rfl H9.out ?_)
 (try simp only [Exit.inBlock, Exit.then])
 refine bodyPost_ret (results_cell (a := ⟨w.heap.size + 1, 0, none⟩) Tryz.results56 (by rfl) HD.out) rfl ?_
 exact ⟨by rw [HE.out], B5.out⟩
theorem rafter_any (k : Nat) (r : Nat → Int) (z : Int) (w : World) (r0 : 0 ≤ r 4) (r1 : r 4 ≤ 255) : Calls Tryz.prog 56 #[.int .u8 k, .agg (stA r), .int .u16 z] w fun e w' => e = .returned (.agg (stA (entP k r z))) ∧ Below w.heap.size w w' := by
 by_cases hk : 1 ≤ k ∧ k ≤ 5
 ·by_cases h1 : k = 1
  ·subst h1; exact rafter_res r z w r0 r1
  ·exact rafter_on k r z w r0 r1 hk h1
 ·rw [entP_no r z (by omega)]; exact rafter_no k r z w hk
set_option maxHeartbeats 8000000 in
theorem ebegin_any (w : World) : Calls Tryz.prog 32 #[] w fun e w' => e = .returned (.agg (stA fun i => if i = 4 then 4 else 0)) ∧ Below w.heap.size w w' := by
 have k1 : Blk (w.alloc (.cells #[.int .u8 0, .int .u8 0, .int .u8 0, .int .u8 0, .int .u8 0, .int .u16 0, .int .u8 0, .int .u8 0, .int .u8 0, .int .u8 0, .int .u8 0, .int .u8 0, .int .u8 0, .int .u8 0, .int .u8 0, .bool false] 32)) w.heap.size 32 #[.int .u8 0, .int .u8 0, .int .u8 0, .int .u8 0, .int .u8 0, .int .u16 0, .int .u8 0, .int .u8 0, .int .u8 0, .int .u8 0, .int .u8 0, .int .u8 0, .int .u8 0, .int .u8 0, .int .u8 0, .bool false] := Blk.new w _ _
 have hb : Below w.heap.size w (w.alloc (.cells #[.int .u8 0, .int .u8 0, .int .u8 0, .int .u8 0, .int .u8 0, .int .u16 0, .int .u8 0, .int .u8 0, .int .u8 0, .int .u8 0, .int .u8 0, .int .u8 0, .int .u8 0, .int .u8 0, .int .u8 0, .bool false] 32)) := (Below.refl _ w).alloc (Nat.le_refl _) _
 obtain ⟨w1, hw1⟩ : ∃ w1, w.alloc (.cells #[.int .u8 0, .int .u8 0, .int .u8 0, .int .u8 0, .int .u8 0, .int .u16 0, .int .u8 0, .int .u8 0, .int .u8 0, .int .u8 0, .int .u8 0, .int .u8 0, .int .u8 0, .int .u8 0, .int .u8 0, .bool false] 32) = w1 := ⟨_, rfl⟩
 rw [hw1] at k1 hb
 have HW1 := Lib.hid hw1
 have K1 := Lib.hid k1
 have HB := Lib.hid hb
 clear hw1 k1 hb
 have c0 : w1.cell? ⟨w.heap.size, 0, none⟩ = some (.int .u8 0) := K1.out.cell 0
 have f0 : w1.frozen? ⟨w.heap.size, 0, none⟩ = false := K1.out.frozen 0
 have c1 : w1.cell? ⟨w.heap.size, 1, none⟩ = some (.int .u8 0) := K1.out.cell 1
 have f1 : w1.frozen? ⟨w.heap.size, 1, none⟩ = false := K1.out.frozen 1
 have c2 : w1.cell? ⟨w.heap.size, 2, none⟩ = some (.int .u8 0) := K1.out.cell 2
 have f2 : w1.frozen? ⟨w.heap.size, 2, none⟩ = false := K1.out.frozen 2
 have c3 : w1.cell? ⟨w.heap.size, 3, none⟩ = some (.int .u8 0) := K1.out.cell 3
 have f3 : w1.frozen? ⟨w.heap.size, 3, none⟩ = false := K1.out.frozen 3
 have c4 : w1.cell? ⟨w.heap.size, 4, none⟩ = some (.int .u8 0) := K1.out.cell 4
 have f4 : w1.frozen? ⟨w.heap.size, 4, none⟩ = false := K1.out.frozen 4
 have c5 : w1.cell? ⟨w.heap.size, 5, none⟩ = some (.int .u16 0) := K1.out.cell 5
 have f5 : w1.frozen? ⟨w.heap.size, 5, none⟩ = false := K1.out.frozen 5
 have c6 : w1.cell? ⟨w.heap.size, 6, none⟩ = some (.int .u8 0) := K1.out.cell 6
 have f6 : w1.frozen? ⟨w.heap.size, 6, none⟩ = false := K1.out.frozen 6
 have c7 : w1.cell? ⟨w.heap.size, 7, none⟩ = some (.int .u8 0) := K1.out.cell 7
 have f7 : w1.frozen? ⟨w.heap.size, 7, none⟩ = false := K1.out.frozen 7
 have c8 : w1.cell? ⟨w.heap.size, 8, none⟩ = some (.int .u8 0) := K1.out.cell 8
 have f8 : w1.frozen? ⟨w.heap.size, 8, none⟩ = false := K1.out.frozen 8
 have c9 : w1.cell? ⟨w.heap.size, 9, none⟩ = some (.int .u8 0) := K1.out.cell 9
 have f9 : w1.frozen? ⟨w.heap.size, 9, none⟩ = false := K1.out.frozen 9
 have c10 : w1.cell? ⟨w.heap.size, 10, none⟩ = some (.int .u8 0) := K1.out.cell 10
 have f10 : w1.frozen? ⟨w.heap.size, 10, none⟩ = false := K1.out.frozen 10
 have c11 : w1.cell? ⟨w.heap.size, 11, none⟩ = some (.int .u8 0) := K1.out.cell 11
 have f11 : w1.frozen? ⟨w.heap.size, 11, none⟩ = false := K1.out.frozen 11
 have c12 : w1.cell? ⟨w.heap.size, 12, none⟩ = some (.int .u8 0) := K1.out.cell 12
 have f12 : w1.frozen? ⟨w.heap.size, 12, none⟩ = false := K1.out.frozen 12
 have c13 : w1.cell? ⟨w.heap.size, 13, none⟩ = some (.int .u8 0) := K1.out.cell 13
 have f13 : w1.frozen? ⟨w.heap.size, 13, none⟩ = false := K1.out.frozen 13
 have c14 : w1.cell? ⟨w.heap.size, 14, none⟩ = some (.int .u8 0) := K1.out.cell 14
 have f14 : w1.frozen? ⟨w.heap.size, 14, none⟩ = false := K1.out.frozen 14
 have c15 : w1.cell? ⟨w.heap.size, 15, none⟩ = some (.bool false) := K1.out.cell 15
 have f15 : w1.frozen? ⟨w.heap.size, 15, none⟩ = false := K1.out.frozen 15
 have HK : Hid (Blk ((((((((((((((((w1.setCell ⟨w.heap.size, 0, none⟩ (.int .u8 0)).setCell ⟨w.heap.size, 1, none⟩ (.int .u8 0)).setCell ⟨w.heap.size, 2, none⟩ (.int .u8 0)).setCell ⟨w.heap.size, 3, none⟩ (.int .u8 0)).setCell ⟨w.heap.size, 4, none⟩ (.int .u8 4)).setCell ⟨w.heap.size, 5, none⟩ (.int .u16 0)).setCell ⟨w.heap.size, 6, none⟩ (.int .u8 0)).setCell ⟨w.heap.size, 7, none⟩ (.int .u8 0)).setCell ⟨w.heap.size, 8, none⟩ (.int .u8 0)).setCell ⟨w.heap.size, 9, none⟩ (.int .u8 0)).setCell ⟨w.heap.size, 10, none⟩ (.int .u8 0)).setCell ⟨w.heap.size, 11, none⟩ (.int .u8 0)).setCell ⟨w.heap.size, 12, none⟩ (.int .u8 0)).setCell ⟨w.heap.size, 13, none⟩ (.int .u8 0)).setCell ⟨w.heap.size, 14, none⟩ (.int .u8 0)).setCell ⟨w.heap.size, 15, none⟩ (.bool false)) w.heap.size 32 #[.int .u8 0, .int .u8 0, .int .u8 0, .int .u8 0, .int .u8 4, .int .u16 0, .int .u8 0, .int .u8 0, .int .u8 0, .int .u8 0, .int .u8 0, .int .u8 0, .int .u8 0, .int .u8 0, .int .u8 0, .bool false]) := Lib.hid ((((((((((((((((K1.out.set_ 0 (.int .u8 0)).set_ 1 (.int .u8 0)).set_ 2 (.int .u8 0)).set_ 3 (.int .u8 0)).set_ 4 (.int .u8 4)).set_ 5 (.int .u16 0)).set_ 6 (.int .u8 0)).set_ 7 (.int .u8 0)).set_ 8 (.int .u8 0)).set_ 9 (.int .u8 0)).set_ 10 (.int .u8 0)).set_ 11 (.int .u8 0)).set_ 12 (.int .u8 0)).set_ 13 (.int .u8 0)).set_ 14 (.int .u8 0)).set_ 15 (.bool false))
 have HD := Lib.hid (HK.out.run_load (P := Tryz.prog) Tryz.underlying32 rfl size_state)
 have B5 := Lib.hid ((((((((((((((((HB.out.setCell (p := ⟨w.heap.size, 0, none⟩) (Nat.le_refl _) (.int .u8 0)).setCell (p := ⟨w.heap.size, 1, none⟩) (Nat.le_refl _) (.int .u8 0)).setCell (p := ⟨w.heap.size, 2, none⟩) (Nat.le_refl _) (.int .u8 0)).setCell (p := ⟨w.heap.size, 3, none⟩) (Nat.le_refl _) (.int .u8 0)).setCell (p := ⟨w.heap.size, 4, none⟩) (Nat.le_refl _) (.int .u8 4)).setCell (p := ⟨w.heap.size, 5, none⟩) (Nat.le_refl _) (.int .u16 0)).setCell (p := ⟨w.heap.size, 6, none⟩) (Nat.le_refl _) (.int .u8 0)).setCell (p := ⟨w.heap.size, 7, none⟩) (Nat.le_refl _) (.int .u8 0)).setCell (p := ⟨w.heap.size, 8, none⟩) (Nat.le_refl _) (.int .u8 0)).setCell (p := ⟨w.heap.size, 9, none⟩) (Nat.le_refl _) (.int .u8 0)).setCell (p := ⟨w.heap.size, 10, none⟩) (Nat.le_refl _) (.int .u8 0)).setCell (p := ⟨w.heap.size, 11, none⟩) (Nat.le_refl _) (.int .u8 0)).setCell (p := ⟨w.heap.size, 12, none⟩) (Nat.le_refl _) (.int .u8 0)).setCell (p := ⟨w.heap.size, 13, none⟩) (Nat.le_refl _) (.int .u8 0)).setCell (p := ⟨w.heap.size, 14, none⟩) (Nat.le_refl _) (.int .u8 0)).setCell (p := ⟨w.heap.size, 15, none⟩) (Nat.le_refl _) (.bool false))
 go_enter Tryz.func32, Tryz.ntmps32
 go_upto_region 1 with fail
 rw [HW1.out]
 go_wp2_with fail
 (try simp only [Exit.inBlock, Exit.then])
 refine bodyPost_ret (results_cell (a := ⟨w.heap.size, 0, none⟩) Tryz.results32 (by rfl) HD.out) rfl ?_
 exact ⟨rfl, B5.out⟩
end Go.Proofs.YtndhkdcdhpfajaaGreat
namespace Go.Proofs.YtndhkdcdhpfajaaGreat
open Go.RowKit
set_option linter.unusedVariables false
set_option linter.unusedSimpArgs false
set_option maxRecDepth 100000
/-- The pages among the registers. -/
def pgF (r : Nat → Int) : Nat → Int := fun i => r (6 + i)
theorem pgF_bd {r : Nat → Int} (hr : StOk r) : ∀ i, i < 8 → 0 ≤ pgF r i ∧ pgF r i ≤ 255 := fun i hi => by
 have := hr (6 + i) (by omega)
 unfold mostP at this
 rw [if_neg (by omega), if_neg (by omega)] at this
 exact this
set_option maxHeartbeats 8000000 in
theorem rphys27_any (r : Nat → Int) (hr : StOk r) (a : Int) (a0 : 0 ≤ a) (a1 : a ≤ 65535) (w : World) : Calls Tryz.prog 28 #[.agg (stA r), .int .u16 a] w fun e w' => e = .returned (.int .u32 (phI (pgF r) a)) ∧ Below w.heap.size w w' := by
 have HR := Lib.hid hr
 have hA := Lib.hid (And.intro a0 a1)
 clear hr a0 a1
 have k0 : Blk (w.alloc (.cells (stA r) 32)) w.heap.size 32 (stA r) := Blk.new w _ _
 have hb : Below w.heap.size w (w.alloc (.cells (stA r) 32)) := (Below.refl _ w).alloc (Nat.le_refl _) _
 obtain ⟨w1, hw1⟩ : ∃ w1, w.alloc (.cells (stA r) 32) = w1 := ⟨_, rfl⟩
 rw [hw1] at k0 hb
 have HW1 := Lib.hid hw1
 have HB := Lib.hid hb
 have c6 : w1.cell? ⟨w.heap.size, 6, none⟩ = some (.int .u8 (r 6)) := k0.cell 6
 have c7 : w1.cell? ⟨w.heap.size, 7, none⟩ = some (.int .u8 (r 7)) := k0.cell 7
 have c8 : w1.cell? ⟨w.heap.size, 8, none⟩ = some (.int .u8 (r 8)) := k0.cell 8
 have c9 : w1.cell? ⟨w.heap.size, 9, none⟩ = some (.int .u8 (r 9)) := k0.cell 9
 have c10 : w1.cell? ⟨w.heap.size, 10, none⟩ = some (.int .u8 (r 10)) := k0.cell 10
 have c11 : w1.cell? ⟨w.heap.size, 11, none⟩ = some (.int .u8 (r 11)) := k0.cell 11
 have c12 : w1.cell? ⟨w.heap.size, 12, none⟩ = some (.int .u8 (r 12)) := k0.cell 12
 have c13 : w1.cell? ⟨w.heap.size, 13, none⟩ = some (.int .u8 (r 13)) := k0.cell 13
 have c14 : w1.cell? ⟨w.heap.size, 14, none⟩ = some (.int .u8 (r 14)) := k0.cell 14
 clear hw1 k0 hb
 go_enter Tryz.func28, Tryz.ntmps28
 go_upto_region 1 with fail
 rw [HW1.out]
 go_upto_region 2 with fail
 have hm : RMu (w1.alloc (.cells #[.int .u8 (r 6), .int .u8 (r 7), .int .u8 (r 8), .int .u8 (r 9), .int .u8 (r 10), .int .u8 (r 11), .int .u8 (r 12), .int .u8 (r 13), .int .u8 (r 14)] 166)) w1.heap.size (pgF r) (r 14) := Blk.new w1 _ _
 have HM := Lib.hid hm
 have HB2 := Lib.hid (HB.out.alloc HB.out.size (.cells #[.int .u8 (r 6), .int .u8 (r 7), .int .u8 (r 8), .int .u8 (r 9), .int .u8 (r 10), .int .u8 (r 11), .int .u8 (r 12), .int .u8 (r 13), .int .u8 (r 14)] 166))
 clear hm
 generalize World.alloc w1 _ = w2 at *
 go_wp2_with fail
 refine (rmphys_any HM.out (pgF_bd HR.out) a hA.out.1 hA.out.2).mono ?_
 rintro e w' ⟨rfl, rfl⟩
 go_wp2_with fail
 go_ret
 exact ⟨rfl, HB2.out⟩
end Go.Proofs.YtndhkdcdhpfajaaGreat
namespace Go.Proofs.YtndhkdcdhpfajaaGreat
open Go.RowKit
set_option linter.unusedVariables false
set_option linter.unusedSimpArgs false
set_option maxRecDepth 100000
/-- An access that is asked for. -/
def acA (kd a : Int) (wr : Bool) (v : Int) : Array Value := #[.int .u8 kd, .int .u16 a, .bool wr, .int .u8 v]
theorem st_cells {w : World} {g g2 : Nat} {r : Nat → Int} {kd a v : Int} {b : Bool} (h : Blk w g 32 (stA r)) (h2 : Blk w g2 70 (acA kd a b v)) :
  w.cell? ⟨g, 6, none⟩ = some (.int .u8 (r 6)) ∧ w.cell? ⟨g, 7, none⟩ = some (.int .u8 (r 7)) ∧ w.cell? ⟨g, 8, none⟩ = some (.int .u8 (r 8)) ∧ w.cell? ⟨g, 9, none⟩ = some (.int .u8 (r 9)) ∧ w.cell? ⟨g, 10, none⟩ = some (.int .u8 (r 10)) ∧ w.cell? ⟨g, 11, none⟩ = some (.int .u8 (r 11)) ∧ w.cell? ⟨g, 12, none⟩ = some (.int .u8 (r 12)) ∧ w.cell? ⟨g, 13, none⟩ = some (.int .u8 (r 13)) ∧ w.cell? ⟨g, 14, none⟩ = some (.int .u8 (r 14)) ∧ w.cell? ⟨g2, 1, none⟩ = some (.int .u16 a) :=
 ⟨h.cell 6, h.cell 7, h.cell 8, h.cell 9, h.cell 10, h.cell 11, h.cell 12, h.cell 13, h.cell 14, h2.cell 1⟩
set_option maxHeartbeats 8000000 in
theorem eaccess_any (r : Nat → Int) (hr : StOk r) (kd a : Int) (b : Bool) (v : Int) (a0 : 0 ≤ a) (a1 : a ≤ 65535) (w : World) (p : Option Addr) (R : World → Value → World → Prop)
  (hW : b = true → ∀ w2, Below w.heap.size w w2 → Calls Tryz.prog 68 #[.pointer p, .int .u32 (phI (pgF r) a), .int .u8 v, .int .u8 kd] w2 fun e w' => e = .returned (.tuple #[]) ∧ R w2 (.int .u8 0) w')
  (hD : b = false → ∀ w2, Below w.heap.size w w2 → Calls Tryz.prog 69 #[.pointer p, .int .u32 (phI (pgF r) a), .int .u8 kd] w2 fun e w' => ∃ x, e = .returned x ∧ R w2 x w') :
  Calls Tryz.prog 26 #[.pointer p, .agg (stA r), .agg (acA kd a b v)] w fun e w' => ∃ x w2, e = .returned x ∧ Below w.heap.size w w2 ∧ R w2 x w' := by
 have HR := Lib.hid hr
 have hA := Lib.hid (And.intro a0 a1)
 have HW := Lib.hid hW
 have HD := Lib.hid hD
 clear hr a0 a1 hW hD
 have k0 : Blk ((w.alloc (.cells (stA r) 32)).alloc (.cells (acA kd a b v) 70)) w.heap.size 32 (stA r) := (Blk.new w _ _).alloc _
 have k1 : Blk ((w.alloc (.cells (stA r) 32)).alloc (.cells (acA kd a b v) 70)) (w.heap.size + 1) 70 (acA kd a b v) := Blk.new_ (by simp)
 have hb : Below w.heap.size w ((w.alloc (.cells (stA r) 32)).alloc (.cells (acA kd a b v) 70)) := ((Below.refl _ w).alloc (Nat.le_refl _) _).alloc (by show w.heap.size ≤ (w.heap.push _).size; simp) _
 obtain ⟨w1, hw1⟩ : ∃ w1, (w.alloc (.cells (stA r) 32)).alloc (.cells (acA kd a b v) 70) = w1 := ⟨_, rfl⟩
 rw [hw1] at k0 k1 hb
 have HW1 := Lib.hid hw1
 have HB := Lib.hid hb
 have K0 := Lib.hid k0
 have K1 := Lib.hid k1
 obtain ⟨s0, s1, s2, s3, s4, s5, s6, s7, s8, s9⟩ := st_cells k0 k1
 clear hw1 k0 k1 hb
 go_enter Tryz.func26, Tryz.ntmps26
 go_upto_region 1 with fail
 rw [HW1.out]
 refine rg_begin (S := fun w' => w'.cell? ⟨w.heap.size, 6, none⟩ = some (.int .u8 (r 6)) ∧ w'.cell? ⟨w.heap.size, 7, none⟩ = some (.int .u8 (r 7)) ∧ w'.cell? ⟨w.heap.size, 8, none⟩ = some (.int .u8 (r 8)) ∧ w'.cell? ⟨w.heap.size, 9, none⟩ = some (.int .u8 (r 9)) ∧ w'.cell? ⟨w.heap.size, 10, none⟩ = some (.int .u8 (r 10)) ∧ w'.cell? ⟨w.heap.size, 11, none⟩ = some (.int .u8 (r 11)) ∧ w'.cell? ⟨w.heap.size, 12, none⟩ = some (.int .u8 (r 12)) ∧ w'.cell? ⟨w.heap.size, 13, none⟩ = some (.int .u8 (r 13)) ∧ w'.cell? ⟨w.heap.size, 14, none⟩ = some (.int .u8 (r 14)) ∧ w'.cell? ⟨w.heap.size + 1, 1, none⟩ = some (.int .u16 a)) 9 #[false, false, false, false, false, false, false, false, false] (by kernel_rfl) (by kernel_rfl) (by kernel_rfl) ?_ (fun hHeld => ?_)
 ·exact st_cells K0.out.drew_ K1.out.drew_
 refine rgu 0 (some 8) rfl ?_
 refine rgu 1 (some 9) rfl ?_
 refine rgu 2 (some 10) rfl ?_
 refine rgu 3 (some 11) rfl ?_
 refine rgu 5 (some 13) rfl ?_
 refine rgu 6 (some 14) rfl ?_
 try simp only [Act.put, List.setIfInBounds_toArray, List.set_cons_zero, List.set_cons_succ]
 refine rg_next (i := 4) (l := #[true, true, true, true, true, true, true, false, false]) (fuel := 2) (by kernel_rfl) rfl (by kernel_rfl) (by kernel_rfl) (fun K hK => ?_)
 go_simp
 go_at_call 66
 refine (mof_any (pgF r) (r 14) _).mono ?_
 rintro e w2 ⟨m, rfl, hm0, hm, hb2⟩
 have K02 := Lib.hid (K0.out.drew_.below hb2 K0.out.drew_.lt)
 have K12 := Lib.hid (K1.out.drew_.below hb2 K1.out.drew_.lt)
 have HB2 := Lib.hid (HB.out.drew.trans (hb2.mono HB.out.drew.size))
 have HM := Lib.hid hm
 clear hb2 hm hm0 s0 s1 s2 s3 s4 s5 s6 s7 s8 s9
 first | (refine hK.out _ _ ?_ (fun hHeld => ?_)) | (go_wp2_with fail; refine hK.out _ _ ?_ (fun hHeld => ?_))
 ·(try dsimp only); exact st_cells K02.out K12.out
 clear hK K
 try simp only [Act.put, List.setIfInBounds_toArray, List.set_cons_zero, List.set_cons_succ]
 refine rg_next (i := 7) (l := #[true, true, true, true, true, true, true, true, false]) (fuel := 1) (by kernel_rfl) rfl (by kernel_rfl) (by kernel_rfl) (fun K hK => ?_)
 go_simp
 go_at_call 67
 refine (mphys_of (banks_any HM.out) (pgF_bd HR.out) a hA.out.1 hA.out.2).mono ?_
 rintro e w3 ⟨rfl, hb3⟩
 have K03 := Lib.hid (K02.out.below hb3 K02.out.lt)
 have K13 := Lib.hid (K12.out.below hb3 K12.out.lt)
 have HB3 := Lib.hid (HB2.out.trans (hb3.mono HB2.out.size))
 clear hb3
 first | (refine hK.out _ _ ?_ (fun hHeld => ?_)) | (go_wp2_with fail; refine hK.out _ _ ?_ (fun hHeld => ?_))
 ·(try dsimp only); exact st_cells K03.out K13.out
 clear hK K
 refine rgu 8 (some 7) rfl ?_
 try simp only [Act.put, List.setIfInBounds_toArray, List.set_cons_zero, List.set_cons_succ]
 refine wpAnyH_done (by kernel_rfl) ?_ _
 clear hHeld
 have q0 : w3.cell? ⟨w.heap.size + 1, 0, none⟩ = some (.int .u8 kd) := K13.out.cell 0
 have q2 : w3.cell? ⟨w.heap.size + 1, 2, none⟩ = some (.bool b) := K13.out.cell 2
 have q3 : w3.cell? ⟨w.heap.size + 1, 3, none⟩ = some (.int .u8 v) := K13.out.cell 3
 clear K0 K1 K02 K12 HM HB HB2 HW1
 cases b with
 | true =>
  go_wp2_with fail
  refine (HW.out (by simp) _ HB3.out).mono ?_
  rintro e w4 ⟨rfl, hR⟩
  have HRR := Lib.hid hR
  clear hR q0 q2 q3
  go_wp2_with fail
  go_ret
  exact ⟨_, _, rfl, HB3.out, HRR.out⟩
 | false =>
  go_wp2_with fail
  refine (HD.out (by simp) _ HB3.out).mono ?_
  rintro e w4 ⟨x, rfl, hR⟩
  have HRR := Lib.hid hR
  clear hR q0 q2 q3
  go_wp2_with fail
  go_ret
  exact ⟨_, _, rfl, HB3.out, HRR.out⟩
end Go.Proofs.YtndhkdcdhpfajaaGreat
namespace Go.Proofs.YtndhkdcdhpfajaaGreat
open Go.RowKit
set_option linter.unusedVariables false
set_option linter.unusedSimpArgs false
set_option maxRecDepth 100000
theorem eidling_any (r : Nat → Int) (w : World) : Calls Tryz.prog 78 #[.agg (stA r)] w fun e w' => ∃ g, e = .returned (.func (.func 137) #[] #[.pointer (some ⟨g, 0, none⟩)]) ∧ w.heap.size ≤ g ∧ Blk w' g 32 (stA r) ∧ Below w.heap.size w w' := by
 go_enter Tryz.func78, Tryz.ntmps78
 go_wp2_with fail
 go_ret
 exact ⟨_, rfl, Nat.le_refl _, Blk.new w _ _, (Below.refl _ w).alloc (Nat.le_refl _) _⟩
theorem epushing_any (k : Int) (r : Nat → Int) (w : World) : Calls Tryz.prog 79 #[.int .u8 k, .agg (stA r)] w fun e w' => ∃ g q, e = .returned (.func (.func 139) #[] #[.pointer (some ⟨g, 0, none⟩), .pointer (some ⟨q, 0, none⟩)]) ∧ w.heap.size ≤ q ∧ q < g ∧ Blk w' g 32 (stA r) ∧ Blk w' q 5 #[.int .u8 k] ∧ Below w.heap.size w w' := by
 go_enter Tryz.func79, Tryz.ntmps79
 go_wp2_with fail
 go_ret
 exact ⟨_, _, rfl, Nat.le_refl _, Nat.lt_succ_self _, Blk.new_ (by simp), (Blk.new w _ _).alloc _, ((Below.refl _ w).alloc (Nat.le_refl _) _).alloc (by show w.heap.size ≤ (w.heap.push _).size; simp) _⟩
end Go.Proofs.YtndhkdcdhpfajaaGreat
