/-
  Texts of these proofs, one behind the other: Ent2.
-/
import Derived.Test.YtndhkdcdhpfajaaGreatKEP26
import Derived.Test.YtndhkdcdhpfajaaGreatKEP32
namespace Go.Proofs.YtndhkdcdhpfajaaGreat
open Go.RowKit
set_option linter.unusedVariables false
set_option linter.unusedSimpArgs false
set_option maxRecDepth 100000
set_option maxHeartbeats 8000000 in
theorem rafter_no (k : Nat) (r : Nat → Int) (z : Int) (w : World) (hk : ¬ (1 ≤ k ∧ k ≤ 5)) : Calls Tryz.prog 56 #[.int .u8 k, .agg (stA r), .int .u16 z] w fun e w' => e = .returned (.agg (stA r)) ∧ Below w.heap.size w w' := by
  have h8 : (Tryz.prog.info? 32).map (·.size) = some (stA r).size := by rw [stA_size]; exact size_state
  have H8 := Lib.hid h8
  have hB0 : Below w.heap.size w ((w.alloc (.cells (stA r) 32)).alloc (.cells #[.int .u8 0, .int .u8 0, .int .u8 0, .int .u8 0, .int .u8 0, .int .u16 0, .int .u8 0, .int .u8 0, .int .u8 0, .int .u8 0, .int .u8 0, .int .u8 0, .int .u8 0, .int .u8 0, .int .u8 0, .bool false] 32)) := ((Below.refl _ w).alloc (Nat.le_refl _) _).alloc (by show w.heap.size ≤ (w.heap.push _).size; simp) _
  have k0 : Blk ((w.alloc (.cells (stA r) 32)).alloc (.cells #[.int .u8 0, .int .u8 0, .int .u8 0, .int .u8 0, .int .u8 0, .int .u16 0, .int .u8 0, .int .u8 0, .int .u8 0, .int .u8 0, .int .u8 0, .int .u8 0, .int .u8 0, .int .u8 0, .int .u8 0, .bool false] 32)) w.heap.size 32 (stA r) := (Blk.new w _ _).alloc _
  have k1 : Blk ((w.alloc (.cells (stA r) 32)).alloc (.cells #[.int .u8 0, .int .u8 0, .int .u8 0, .int .u8 0, .int .u8 0, .int .u16 0, .int .u8 0, .int .u8 0, .int .u8 0, .int .u8 0, .int .u8 0, .int .u8 0, .int .u8 0, .int .u8 0, .int .u8 0, .bool false] 32)) (w.heap.size + 1) 32 #[.int .u8 0, .int .u8 0, .int .u8 0, .int .u8 0, .int .u8 0, .int .u16 0, .int .u8 0, .int .u8 0, .int .u8 0, .int .u8 0, .int .u8 0, .int .u8 0, .int .u8 0, .int .u8 0, .int .u8 0, .bool false] := Blk.new_ (by simp)
  have HB0 := Lib.hid hB0
  have K0 := Lib.hid k0
  have K1 := Lib.hid k1
  clear h8 hB0 k0 k1
  obtain ⟨w1, hw1⟩ : ∃ w1, ((w.alloc (.cells (stA r) 32)).alloc (.cells #[.int .u8 0, .int .u8 0, .int .u8 0, .int .u8 0, .int .u8 0, .int .u16 0, .int .u8 0, .int .u8 0, .int .u8 0, .int .u8 0, .int .u8 0, .int .u8 0, .int .u8 0, .int .u8 0, .int .u8 0, .bool false] 32)) = w1 := ⟨_, rfl⟩
  rw [hw1] at HB0 K0 K1
  have HW1 := Lib.hid hw1
  clear hw1
  have hk2 : (k : Int) < 1 ∨ (¬ (k : Int) < 1 ∧ 5 < (k : Int)) := by omega
  clear hk
  have kk0 := K0.out
  have hst := K1.out.run_store (P := Tryz.prog) (stA r) rfl (stA_one _)
  have HD := Lib.hid ((K1.out.row (stA r)).run_load (P := Tryz.prog) Tryz.underlying32 rfl size_state)
  have B5 := Lib.hid (below_setRow HB0.out (show w.heap.size ≤ w.heap.size + 1 by omega) (stA r))
  have hsR := stA_size r
  rcases hk2 with ha | ⟨ha, hb⟩
  all_goals
    go_enter Tryz.func56, Tryz.ntmps56
    go_upto_region 1 with fail
    rw [HW1.out]
    go_wp2_with (refine wpList_load_row rfl 32 (.tmp 4) rfl w.heap.size (by rfl) 32 (stA r) (0, 0) _ kk0 Tryz.underlying32 rfl H8.out ?_)
    (try simp only [Exit.inBlock, Exit.then])
    refine bodyPost_ret (results_cell (a := ⟨w.heap.size + 1, 0, none⟩) Tryz.results56 (by rfl) HD.out) rfl ?_
    exact ⟨rfl, B5.out⟩
set_option maxHeartbeats 8000000 in
theorem rafter_res (r : Nat → Int) (z : Int) (w : World) (r0 : 0 ≤ r 4) (r1 : r 4 ≤ 255) : Calls Tryz.prog 56 #[.int .u8 1, .agg (stA r), .int .u16 z] w fun e w' => e = .returned (.agg (stA (entP 1 r z))) ∧ Below w.heap.size w w' := by
  have hy := entP_res r z
  rw [entered_eq _ r0 r1] at hy
  have HY := Lib.hid hy
  clear hy
  have h8 : (Tryz.prog.info? 32).map (·.size) = some (stA r).size := by rw [stA_size]; exact size_state
  have H8 := Lib.hid h8
  have hB0 : Below w.heap.size w ((w.alloc (.cells (stA r) 32)).alloc (.cells #[.int .u8 0, .int .u8 0, .int .u8 0, .int .u8 0, .int .u8 0, .int .u16 0, .int .u8 0, .int .u8 0, .int .u8 0, .int .u8 0, .int .u8 0, .int .u8 0, .int .u8 0, .int .u8 0, .int .u8 0, .bool false] 32)) := ((Below.refl _ w).alloc (Nat.le_refl _) _).alloc (by show w.heap.size ≤ (w.heap.push _).size; simp) _
  have k0 : Blk ((w.alloc (.cells (stA r) 32)).alloc (.cells #[.int .u8 0, .int .u8 0, .int .u8 0, .int .u8 0, .int .u8 0, .int .u16 0, .int .u8 0, .int .u8 0, .int .u8 0, .int .u8 0, .int .u8 0, .int .u8 0, .int .u8 0, .int .u8 0, .int .u8 0, .bool false] 32)) w.heap.size 32 (stA r) := (Blk.new w _ _).alloc _
  have k1 : Blk ((w.alloc (.cells (stA r) 32)).alloc (.cells #[.int .u8 0, .int .u8 0, .int .u8 0, .int .u8 0, .int .u8 0, .int .u16 0, .int .u8 0, .int .u8 0, .int .u8 0, .int .u8 0, .int .u8 0, .int .u8 0, .int .u8 0, .int .u8 0, .int .u8 0, .bool false] 32)) (w.heap.size + 1) 32 #[.int .u8 0, .int .u8 0, .int .u8 0, .int .u8 0, .int .u8 0, .int .u16 0, .int .u8 0, .int .u8 0, .int .u8 0, .int .u8 0, .int .u8 0, .int .u8 0, .int .u8 0, .int .u8 0, .int .u8 0, .bool false] := Blk.new_ (by simp)
  have HB0 := Lib.hid hB0
  have K0 := Lib.hid k0
  have K1 := Lib.hid k1
  clear h8 hB0 k0 k1
  obtain ⟨w1, hw1⟩ : ∃ w1, ((w.alloc (.cells (stA r) 32)).alloc (.cells #[.int .u8 0, .int .u8 0, .int .u8 0, .int .u8 0, .int .u8 0, .int .u16 0, .int .u8 0, .int .u8 0, .int .u8 0, .int .u8 0, .int .u8 0, .int .u8 0, .int .u8 0, .int .u8 0, .int .u8 0, .bool false] 32)) = w1 := ⟨_, rfl⟩
  rw [hw1] at HB0 K0 K1
  have HW1 := Lib.hid hw1
  clear hw1
  have c3 : w1.cell? ⟨w.heap.size, 3, none⟩ = some (.int .u8 (r 3)) := K0.out.cell 3
  have f3 := K0.out.frozen 3
  have c4 : w1.cell? ⟨w.heap.size, 4, none⟩ = some (.int .u8 (r 4)) := K0.out.cell 4
  have HR0 := Lib.hid (And.intro r0 r1)
  clear r0 r1
  go_enter Tryz.func56, Tryz.ntmps56
  go_upto_region 1 with fail
  rw [HW1.out]
  go_wp2_with fail
  refine (rfentered_any _ HR0.out.1 HR0.out.2).mono ?_
  rintro e w3 ⟨rfl, hb⟩
  have q0 := (K0.out.set_ 3 (.int .u8 ((r 3 - 3) % 256)))
  have q1 := (K1.out.far (p := ⟨w.heap.size, 3, none⟩) (by show w.heap.size + 1 ≠ w.heap.size; omega) (.int .u8 ((r 3 - 3) % 256)))
  have qb := (HB0.out.setCell (p := ⟨w.heap.size, 3, none⟩) (Nat.le_refl _) (.int .u8 ((r 3 - 3) % 256)))
  have K3 := Lib.hid (q0.below hb q0.lt)
  have K13 := Lib.hid (q1.below hb q1.lt)
  have HB3 := Lib.hid (qb.trans (hb.mono qb.size))
  clear q0 q1 qb hb c3 f3 c4
  have f4 : w3.frozen? ⟨w.heap.size, 4, none⟩ = false := K3.out.frozen 4
  have c4 : w3.cell? ⟨w.heap.size, 4, none⟩ = some (.int .u8 (r 4)) := K3.out.cell 4
  have f5 : w3.frozen? ⟨w.heap.size, 5, none⟩ = false := K3.out.frozen 5
  have c5 : w3.cell? ⟨w.heap.size, 5, none⟩ = some (.int .u16 (r 5)) := K3.out.cell 5
  have f13 : w3.frozen? ⟨w.heap.size, 13, none⟩ = false := K3.out.frozen 13
  have c13 : w3.cell? ⟨w.heap.size, 13, none⟩ = some (.int .u8 (r 13)) := K3.out.cell 13
  have f15 : w3.frozen? ⟨w.heap.size, 15, none⟩ = false := K3.out.frozen 15
  have c15 : w3.cell? ⟨w.heap.size, 15, none⟩ = some (.bool (decide (r 15 = 1))) := K3.out.cell 15
  go_upto_region 9 with fail
  have kk : Blk ((((w3.setCell ⟨w.heap.size, 4, none⟩ (.int .u8 (rwith (rwith (rwith (rwith (r 4) 2 true) 4 false) 3 false) 5 false))).setCell ⟨w.heap.size, 5, none⟩ (.int .u16 z)).setCell ⟨w.heap.size, 13, none⟩ (.int .u8 0)).setCell ⟨w.heap.size, 15, none⟩ (.bool false)) w.heap.size 32 (stA (entP 1 r z)) := by
    rw [HY.out]
    exact ((((K3.out.set_ 4 (.int .u8 (rwith (rwith (rwith (rwith (r 4) 2 true) 4 false) 3 false) 5 false))).set_ 5 (.int .u16 z)).set_ 13 (.int .u8 0)).set_ 15 (.bool false))
  have k1 := ((((K13.out.far (p := ⟨w.heap.size, 4, none⟩) (by show w.heap.size + 1 ≠ w.heap.size; omega) (.int .u8 (rwith (rwith (rwith (rwith (r 4) 2 true) 4 false) 3 false) 5 false))).far (p := ⟨w.heap.size, 5, none⟩) (by show w.heap.size + 1 ≠ w.heap.size; omega) (.int .u16 z)).far (p := ⟨w.heap.size, 13, none⟩) (by show w.heap.size + 1 ≠ w.heap.size; omega) (.int .u8 0)).far (p := ⟨w.heap.size, 15, none⟩) (by show w.heap.size + 1 ≠ w.heap.size; omega) (.bool false))
  have hB := ((((HB3.out.setCell (p := ⟨w.heap.size, 4, none⟩) (Nat.le_refl _) (.int .u8 (rwith (rwith (rwith (rwith (r 4) 2 true) 4 false) 3 false) 5 false))).setCell (p := ⟨w.heap.size, 5, none⟩) (Nat.le_refl _) (.int .u16 z)).setCell (p := ⟨w.heap.size, 13, none⟩) (Nat.le_refl _) (.int .u8 0)).setCell (p := ⟨w.heap.size, 15, none⟩) (Nat.le_refl _) (.bool false))
  have hsR := stA_size (entP 1 r z)
  have hone := stA_one (entP 1 r z)
  obtain ⟨SX, hSX⟩ : ∃ y, stA (entP 1 r z) = y := ⟨_, rfl⟩
  rw [hSX] at kk hsR hone
  generalize ((((w3.setCell ⟨w.heap.size, 4, none⟩ (.int .u8 (rwith (rwith (rwith (rwith (r 4) 2 true) 4 false) 3 false) 5 false))).setCell ⟨w.heap.size, 5, none⟩ (.int .u16 z)).setCell ⟨w.heap.size, 13, none⟩ (.int .u8 0)).setCell ⟨w.heap.size, 15, none⟩ (.bool false)) = w6 at *
  have KK := Lib.hid kk
  have hst := k1.run_store (P := Tryz.prog) SX hsR.symm hone
  have HD := Lib.hid ((k1.row SX).run_load (P := Tryz.prog) Tryz.underlying32 rfl (by rw [hsR]; exact size_state))
  have B5 := Lib.hid (below_setRow hB (show w.heap.size ≤ w.heap.size + 1 by omega) SX)
  have H9 : Hid ((Tryz.prog.info? 32).map (·.size) = some SX.size) := Lib.hid (by rw [hsR]; exact size_state)
  have HE := Lib.hid hSX
  clear kk k1 hB hSX hone f4 f5 f13 f15 c4 c5 c13 c15
  have kk := KK.out
  go_wp2_with (refine wpList_load_row rfl 32 (.tmp 4) rfl w.heap.size (by rfl) 32 SX (0, 0) _ kk Tryz.underlying32 rfl H9.out ?_)
  (try simp only [Exit.inBlock, Exit.then])
  refine bodyPost_ret (results_cell (a := ⟨w.heap.size + 1, 0, none⟩) Tryz.results56 (by rfl) HD.out) rfl ?_
  exact ⟨by rw [HE.out], B5.out⟩
set_option maxHeartbeats 8000000 in
theorem rafter_on (k : Nat) (r : Nat → Int) (z : Int) (w : World) (r0 : 0 ≤ r 4) (r1 : r 4 ≤ 255) (hk : 1 ≤ k ∧ k ≤ 5) (h1 : k ≠ 1) : Calls Tryz.prog 56 #[.int .u8 k, .agg (stA r), .int .u16 z] w fun e w' => e = .returned (.agg (stA (entP k r z))) ∧ Below w.heap.size w w' := by
  have hy := entP_yes (k := (k : Int)) r z (by omega) (by omega)
  rw [entered_eq _ r0 r1] at hy
  have HY := Lib.hid hy
  have e1 : ((k : Int) == 1) = false := by simp; omega
  have ha : ¬ (k : Int) < 1 := by omega
  have hc : ¬ (5 : Int) < k := by omega
  clear hy hk h1
  have h8 : (Tryz.prog.info? 32).map (·.size) = some (stA r).size := by rw [stA_size]; exact size_state
  have H8 := Lib.hid h8
  have hB0 : Below w.heap.size w ((w.alloc (.cells (stA r) 32)).alloc (.cells #[.int .u8 0, .int .u8 0, .int .u8 0, .int .u8 0, .int .u8 0, .int .u16 0, .int .u8 0, .int .u8 0, .int .u8 0, .int .u8 0, .int .u8 0, .int .u8 0, .int .u8 0, .int .u8 0, .int .u8 0, .bool false] 32)) := ((Below.refl _ w).alloc (Nat.le_refl _) _).alloc (by show w.heap.size ≤ (w.heap.push _).size; simp) _
  have k0 : Blk ((w.alloc (.cells (stA r) 32)).alloc (.cells #[.int .u8 0, .int .u8 0, .int .u8 0, .int .u8 0, .int .u8 0, .int .u16 0, .int .u8 0, .int .u8 0, .int .u8 0, .int .u8 0, .int .u8 0, .int .u8 0, .int .u8 0, .int .u8 0, .int .u8 0, .bool false] 32)) w.heap.size 32 (stA r) := (Blk.new w _ _).alloc _
  have k1 : Blk ((w.alloc (.cells (stA r) 32)).alloc (.cells #[.int .u8 0, .int .u8 0, .int .u8 0, .int .u8 0, .int .u8 0, .int .u16 0, .int .u8 0, .int .u8 0, .int .u8 0, .int .u8 0, .int .u8 0, .int .u8 0, .int .u8 0, .int .u8 0, .int .u8 0, .bool false] 32)) (w.heap.size + 1) 32 #[.int .u8 0, .int .u8 0, .int .u8 0, .int .u8 0, .int .u8 0, .int .u16 0, .int .u8 0, .int .u8 0, .int .u8 0, .int .u8 0, .int .u8 0, .int .u8 0, .int .u8 0, .int .u8 0, .int .u8 0, .bool false] := Blk.new_ (by simp)
  have HB0 := Lib.hid hB0
  have K0 := Lib.hid k0
  have K1 := Lib.hid k1
  clear h8 hB0 k0 k1
  obtain ⟨w1, hw1⟩ : ∃ w1, ((w.alloc (.cells (stA r) 32)).alloc (.cells #[.int .u8 0, .int .u8 0, .int .u8 0, .int .u8 0, .int .u8 0, .int .u16 0, .int .u8 0, .int .u8 0, .int .u8 0, .int .u8 0, .int .u8 0, .int .u8 0, .int .u8 0, .int .u8 0, .int .u8 0, .bool false] 32)) = w1 := ⟨_, rfl⟩
  rw [hw1] at HB0 K0 K1
  have HW1 := Lib.hid hw1
  clear hw1
  have c3 : w1.cell? ⟨w.heap.size, 3, none⟩ = some (.int .u8 (r 3)) := K0.out.cell 3
  have f3 := K0.out.frozen 3
  have c4 : w1.cell? ⟨w.heap.size, 4, none⟩ = some (.int .u8 (r 4)) := K0.out.cell 4
  have HR0 := Lib.hid (And.intro r0 r1)
  clear r0 r1
  go_enter Tryz.func56, Tryz.ntmps56
  go_upto_region 1 with fail
  rw [HW1.out]
  go_wp2_with fail
  refine (rfentered_any _ HR0.out.1 HR0.out.2).mono ?_
  rintro e w3 ⟨rfl, hb⟩
  have q0 := (K0.out.set_ 3 (.int .u8 ((r 3 - 3) % 256)))
  have q1 := (K1.out.far (p := ⟨w.heap.size, 3, none⟩) (by show w.heap.size + 1 ≠ w.heap.size; omega) (.int .u8 ((r 3 - 3) % 256)))
  have qb := (HB0.out.setCell (p := ⟨w.heap.size, 3, none⟩) (Nat.le_refl _) (.int .u8 ((r 3 - 3) % 256)))
  have K3 := Lib.hid (q0.below hb q0.lt)
  have K13 := Lib.hid (q1.below hb q1.lt)
  have HB3 := Lib.hid (qb.trans (hb.mono qb.size))
  clear q0 q1 qb hb c3 f3 c4
  have f4 : w3.frozen? ⟨w.heap.size, 4, none⟩ = false := K3.out.frozen 4
  have c4 : w3.cell? ⟨w.heap.size, 4, none⟩ = some (.int .u8 (r 4)) := K3.out.cell 4
  have f5 : w3.frozen? ⟨w.heap.size, 5, none⟩ = false := K3.out.frozen 5
  have c5 : w3.cell? ⟨w.heap.size, 5, none⟩ = some (.int .u16 (r 5)) := K3.out.cell 5
  go_upto_region 9 with fail
  have kk : Blk ((w3.setCell ⟨w.heap.size, 4, none⟩ (.int .u8 (rwith (rwith (rwith (rwith (r 4) 2 true) 4 false) 3 false) 5 false))).setCell ⟨w.heap.size, 5, none⟩ (.int .u16 z)) w.heap.size 32 (stA (entP k r z)) := by
    rw [HY.out]
    exact ((K3.out.set_ 4 (.int .u8 (rwith (rwith (rwith (rwith (r 4) 2 true) 4 false) 3 false) 5 false))).set_ 5 (.int .u16 z))
  have k1 := ((K13.out.far (p := ⟨w.heap.size, 4, none⟩) (by show w.heap.size + 1 ≠ w.heap.size; omega) (.int .u8 (rwith (rwith (rwith (rwith (r 4) 2 true) 4 false) 3 false) 5 false))).far (p := ⟨w.heap.size, 5, none⟩) (by show w.heap.size + 1 ≠ w.heap.size; omega) (.int .u16 z))
  have hB := ((HB3.out.setCell (p := ⟨w.heap.size, 4, none⟩) (Nat.le_refl _) (.int .u8 (rwith (rwith (rwith (rwith (r 4) 2 true) 4 false) 3 false) 5 false))).setCell (p := ⟨w.heap.size, 5, none⟩) (Nat.le_refl _) (.int .u16 z))
  have hsR := stA_size (entP k r z)
  have hone := stA_one (entP k r z)
  obtain ⟨SX, hSX⟩ : ∃ y, stA (entP k r z) = y := ⟨_, rfl⟩
  rw [hSX] at kk hsR hone
  generalize ((w3.setCell ⟨w.heap.size, 4, none⟩ (.int .u8 (rwith (rwith (rwith (rwith (r 4) 2 true) 4 false) 3 false) 5 false))).setCell ⟨w.heap.size, 5, none⟩ (.int .u16 z)) = w6 at *
  have KK := Lib.hid kk
  have hst := k1.run_store (P := Tryz.prog) SX hsR.symm hone
  have HD := Lib.hid ((k1.row SX).run_load (P := Tryz.prog) Tryz.underlying32 rfl (by rw [hsR]; exact size_state))
  have B5 := Lib.hid (below_setRow hB (show w.heap.size ≤ w.heap.size + 1 by omega) SX)
  have H9 : Hid ((Tryz.prog.info? 32).map (·.size) = some SX.size) := Lib.hid (by rw [hsR]; exact size_state)
  have HE := Lib.hid hSX
  clear kk k1 hB hSX hone f4 f5 c4 c5
  have kk := KK.out
  go_wp2_with (refine wpList_load_row rfl 32 (.tmp 4) rfl w.heap.size (by rfl) 32 SX (0, 0) _ kk Tryz.underlying32 rfl H9.out ?_)
  (try simp only [Exit.inBlock, Exit.then])
  refine bodyPost_ret (results_cell (a := ⟨w.heap.size + 1, 0, none⟩) Tryz.results56 (by rfl) HD.out) rfl ?_
  exact ⟨by rw [HE.out], B5.out⟩
theorem rafter_any (k : Nat) (r : Nat → Int) (z : Int) (w : World) (r0 : 0 ≤ r 4) (r1 : r 4 ≤ 255) : Calls Tryz.prog 56 #[.int .u8 k, .agg (stA r), .int .u16 z] w fun e w' => e = .returned (.agg (stA (entP k r z))) ∧ Below w.heap.size w w' := by
  by_cases hk : 1 ≤ k ∧ k ≤ 5
  · by_cases h1 : k = 1
    · subst h1; exact rafter_res r z w r0 r1
    · exact rafter_on k r z w r0 r1 hk h1
  · rw [entP_no r z (by omega)]; exact rafter_no k r z w hk
set_option maxHeartbeats 8000000 in
theorem ebegin_any (w : World) : Calls Tryz.prog 32 #[] w fun e w' => e = .returned (.agg (stA fun i => if i = 4 then 4 else 0)) ∧ Below w.heap.size w w' := by
  have k1 : Blk (w.alloc (.cells #[.int .u8 0, .int .u8 0, .int .u8 0, .int .u8 0, .int .u8 0, .int .u16 0, .int .u8 0, .int .u8 0, .int .u8 0, .int .u8 0, .int .u8 0, .int .u8 0, .int .u8 0, .int .u8 0, .int .u8 0, .bool false] 32)) w.heap.size 32 #[.int .u8 0, .int .u8 0, .int .u8 0, .int .u8 0, .int .u8 0, .int .u16 0, .int .u8 0, .int .u8 0, .int .u8 0, .int .u8 0, .int .u8 0, .int .u8 0, .int .u8 0, .int .u8 0, .int .u8 0, .bool false] := Blk.new w _ _
  have hb : Below w.heap.size w (w.alloc (.cells #[.int .u8 0, .int .u8 0, .int .u8 0, .int .u8 0, .int .u8 0, .int .u16 0, .int .u8 0, .int .u8 0, .int .u8 0, .int .u8 0, .int .u8 0, .int .u8 0, .int .u8 0, .int .u8 0, .int .u8 0, .bool false] 32)) := (Below.refl _ w).alloc (Nat.le_refl _) _
  obtain ⟨w1, hw1⟩ : ∃ w1, w.alloc (.cells #[.int .u8 0, .int .u8 0, .int .u8 0, .int .u8 0, .int .u8 0, .int .u16 0, .int .u8 0, .int .u8 0, .int .u8 0, .int .u8 0, .int .u8 0, .int .u8 0, .int .u8 0, .int .u8 0, .int .u8 0, .bool false] 32) = w1 := ⟨_, rfl⟩
  rw [hw1] at k1 hb
  have HW1 := Lib.hid hw1
  have K1 := Lib.hid k1
  have HB := Lib.hid hb
  clear hw1 k1 hb
  have c0 : w1.cell? ⟨w.heap.size, 0, none⟩ = some (.int .u8 0) := K1.out.cell 0
  have f0 : w1.frozen? ⟨w.heap.size, 0, none⟩ = false := K1.out.frozen 0
  have c1 : w1.cell? ⟨w.heap.size, 1, none⟩ = some (.int .u8 0) := K1.out.cell 1
  have f1 : w1.frozen? ⟨w.heap.size, 1, none⟩ = false := K1.out.frozen 1
  have c2 : w1.cell? ⟨w.heap.size, 2, none⟩ = some (.int .u8 0) := K1.out.cell 2
  have f2 : w1.frozen? ⟨w.heap.size, 2, none⟩ = false := K1.out.frozen 2
  have c3 : w1.cell? ⟨w.heap.size, 3, none⟩ = some (.int .u8 0) := K1.out.cell 3
  have f3 : w1.frozen? ⟨w.heap.size, 3, none⟩ = false := K1.out.frozen 3
  have c4 : w1.cell? ⟨w.heap.size, 4, none⟩ = some (.int .u8 0) := K1.out.cell 4
  have f4 : w1.frozen? ⟨w.heap.size, 4, none⟩ = false := K1.out.frozen 4
  have c5 : w1.cell? ⟨w.heap.size, 5, none⟩ = some (.int .u16 0) := K1.out.cell 5
  have f5 : w1.frozen? ⟨w.heap.size, 5, none⟩ = false := K1.out.frozen 5
  have c6 : w1.cell? ⟨w.heap.size, 6, none⟩ = some (.int .u8 0) := K1.out.cell 6
  have f6 : w1.frozen? ⟨w.heap.size, 6, none⟩ = false := K1.out.frozen 6
  have c7 : w1.cell? ⟨w.heap.size, 7, none⟩ = some (.int .u8 0) := K1.out.cell 7
  have f7 : w1.frozen? ⟨w.heap.size, 7, none⟩ = false := K1.out.frozen 7
  have c8 : w1.cell? ⟨w.heap.size, 8, none⟩ = some (.int .u8 0) := K1.out.cell 8
  have f8 : w1.frozen? ⟨w.heap.size, 8, none⟩ = false := K1.out.frozen 8
  have c9 : w1.cell? ⟨w.heap.size, 9, none⟩ = some (.int .u8 0) := K1.out.cell 9
  have f9 : w1.frozen? ⟨w.heap.size, 9, none⟩ = false := K1.out.frozen 9
  have c10 : w1.cell? ⟨w.heap.size, 10, none⟩ = some (.int .u8 0) := K1.out.cell 10
  have f10 : w1.frozen? ⟨w.heap.size, 10, none⟩ = false := K1.out.frozen 10
  have c11 : w1.cell? ⟨w.heap.size, 11, none⟩ = some (.int .u8 0) := K1.out.cell 11
  have f11 : w1.frozen? ⟨w.heap.size, 11, none⟩ = false := K1.out.frozen 11
  have c12 : w1.cell? ⟨w.heap.size, 12, none⟩ = some (.int .u8 0) := K1.out.cell 12
  have f12 : w1.frozen? ⟨w.heap.size, 12, none⟩ = false := K1.out.frozen 12
  have c13 : w1.cell? ⟨w.heap.size, 13, none⟩ = some (.int .u8 0) := K1.out.cell 13
  have f13 : w1.frozen? ⟨w.heap.size, 13, none⟩ = false := K1.out.frozen 13
  have c14 : w1.cell? ⟨w.heap.size, 14, none⟩ = some (.int .u8 0) := K1.out.cell 14
  have f14 : w1.frozen? ⟨w.heap.size, 14, none⟩ = false := K1.out.frozen 14
  have c15 : w1.cell? ⟨w.heap.size, 15, none⟩ = some (.bool false) := K1.out.cell 15
  have f15 : w1.frozen? ⟨w.heap.size, 15, none⟩ = false := K1.out.frozen 15
  have HK : Hid (Blk ((((((((((((((((w1.setCell ⟨w.heap.size, 0, none⟩ (.int .u8 0)).setCell ⟨w.heap.size, 1, none⟩ (.int .u8 0)).setCell ⟨w.heap.size, 2, none⟩ (.int .u8 0)).setCell ⟨w.heap.size, 3, none⟩ (.int .u8 0)).setCell ⟨w.heap.size, 4, none⟩ (.int .u8 4)).setCell ⟨w.heap.size, 5, none⟩ (.int .u16 0)).setCell ⟨w.heap.size, 6, none⟩ (.int .u8 0)).setCell ⟨w.heap.size, 7, none⟩ (.int .u8 0)).setCell ⟨w.heap.size, 8, none⟩ (.int .u8 0)).setCell ⟨w.heap.size, 9, none⟩ (.int .u8 0)).setCell ⟨w.heap.size, 10, none⟩ (.int .u8 0)).setCell ⟨w.heap.size, 11, none⟩ (.int .u8 0)).setCell ⟨w.heap.size, 12, none⟩ (.int .u8 0)).setCell ⟨w.heap.size, 13, none⟩ (.int .u8 0)).setCell ⟨w.heap.size, 14, none⟩ (.int .u8 0)).setCell ⟨w.heap.size, 15, none⟩ (.bool false)) w.heap.size 32 #[.int .u8 0, .int .u8 0, .int .u8 0, .int .u8 0, .int .u8 4, .int .u16 0, .int .u8 0, .int .u8 0, .int .u8 0, .int .u8 0, .int .u8 0, .int .u8 0, .int .u8 0, .int .u8 0, .int .u8 0, .bool false]) := Lib.hid ((((((((((((((((K1.out.set_ 0 (.int .u8 0)).set_ 1 (.int .u8 0)).set_ 2 (.int .u8 0)).set_ 3 (.int .u8 0)).set_ 4 (.int .u8 4)).set_ 5 (.int .u16 0)).set_ 6 (.int .u8 0)).set_ 7 (.int .u8 0)).set_ 8 (.int .u8 0)).set_ 9 (.int .u8 0)).set_ 10 (.int .u8 0)).set_ 11 (.int .u8 0)).set_ 12 (.int .u8 0)).set_ 13 (.int .u8 0)).set_ 14 (.int .u8 0)).set_ 15 (.bool false))
  have HD := Lib.hid (HK.out.run_load (P := Tryz.prog) Tryz.underlying32 rfl size_state)
  have B5 := Lib.hid ((((((((((((((((HB.out.setCell (p := ⟨w.heap.size, 0, none⟩) (Nat.le_refl _) (.int .u8 0)).setCell (p := ⟨w.heap.size, 1, none⟩) (Nat.le_refl _) (.int .u8 0)).setCell (p := ⟨w.heap.size, 2, none⟩) (Nat.le_refl _) (.int .u8 0)).setCell (p := ⟨w.heap.size, 3, none⟩) (Nat.le_refl _) (.int .u8 0)).setCell (p := ⟨w.heap.size, 4, none⟩) (Nat.le_refl _) (.int .u8 4)).setCell (p := ⟨w.heap.size, 5, none⟩) (Nat.le_refl _) (.int .u16 0)).setCell (p := ⟨w.heap.size, 6, none⟩) (Nat.le_refl _) (.int .u8 0)).setCell (p := ⟨w.heap.size, 7, none⟩) (Nat.le_refl _) (.int .u8 0)).setCell (p := ⟨w.heap.size, 8, none⟩) (Nat.le_refl _) (.int .u8 0)).setCell (p := ⟨w.heap.size, 9, none⟩) (Nat.le_refl _) (.int .u8 0)).setCell (p := ⟨w.heap.size, 10, none⟩) (Nat.le_refl _) (.int .u8 0)).setCell (p := ⟨w.heap.size, 11, none⟩) (Nat.le_refl _) (.int .u8 0)).setCell (p := ⟨w.heap.size, 12, none⟩) (Nat.le_refl _) (.int .u8 0)).setCell (p := ⟨w.heap.size, 13, none⟩) (Nat.le_refl _) (.int .u8 0)).setCell (p := ⟨w.heap.size, 14, none⟩) (Nat.le_refl _) (.int .u8 0)).setCell (p := ⟨w.heap.size, 15, none⟩) (Nat.le_refl _) (.bool false))
  go_enter Tryz.func32, Tryz.ntmps32
  go_upto_region 1 with fail
  rw [HW1.out]
  go_wp2_with fail
  (try simp only [Exit.inBlock, Exit.then])
  refine bodyPost_ret (results_cell (a := ⟨w.heap.size, 0, none⟩) Tryz.results32 (by rfl) HD.out) rfl ?_
  exact ⟨rfl, B5.out⟩
end Go.Proofs.YtndhkdcdhpfajaaGreat
