/-
  Opcode: the reference's cell, columns 0,3,4,6,8,10,11,12,14.
-/
import Derived.Test.YtleofglnlfpoeaaDoorRop3
import Derived.Test.YtleofglnlfpoeaaDoorG1
import Derived.BigQuiet
import Derived.WalkSmall
import Derived.BigGuard
import Derived.BigCall
import Derived.CellFam
import Derived.Deep.Draws
import Derived.Deep.QuietTactic
namespace Go.Proofs.YtleofglnlfpoeaaDoor
open Go.RowKit
set_option linter.unusedVariables false
set_option linter.unusedSimpArgs false
set_option maxRecDepth 100000
set_option maxHeartbeats 8000000 in
theorem rcell_0_0 (u : Nat) (hu : u < 8) (w : World) : Calls Tryd.prog 44 #[.int .u8 ((16 * (2 * u + 0) + 0 : Nat) : Int)] w fun e w' => e = .returned (rcV (16 * (2 * u + 0) + 0)) ∧ Below w.heap.size w w' := by
  have hBl : ∀ q, Below w.heap.size w ((w.alloc (.cells #[.string ⟨#[79, 82, 65]⟩, .string ⟨#[65, 78, 68]⟩, .string ⟨#[69, 79, 82]⟩, .string ⟨#[65, 68, 67]⟩, .string ⟨#[83, 84, 65]⟩, .string ⟨#[76, 68, 65]⟩, .string ⟨#[67, 77, 80]⟩, .string ⟨#[83, 66, 67]⟩] 96)).drewN q) := fun q => below_drewN ((Below.refl _ w).alloc (Nat.le_refl _) _) q
  obtain ⟨N, hN⟩ : ∃ N, mkS (rnL (16 * (2 * u + 0) + 0)) = N := ⟨_, rfl⟩
  obtain ⟨L, hL⟩ : ∃ L, mkS ((opC (16 * (2 * u + 0) + 0)).drop 4) = L := ⟨_, rfl⟩
  unfold rcV
  rw [hN, hL]
  obtain ⟨B, hB⟩ : ∃ B : Int, ((16 * (2 * u + 0) + 0 : Nat) : Int) = B := ⟨_, rfl⟩
  have b0 : 0 ≤ B := by omega
  have hq : B.tdiv 16 = 2 * (u : Int) := by rw [Int.tdiv_eq_ediv_of_nonneg b0]; omega
  have hm : B.tmod 16 = 0 := by rw [Int.tmod_eq_emod_of_nonneg b0]; omega
  have hq1 : B / 16 = 2 * (u : Int) := by omega
  have hm1 : B % 16 = 0 := by omega
  have hq2 : (2 * (u : Int)) / 2 = u := by omega
  have hm2 : (2 * (u : Int)) % 2 = 0 := by omega
  have u0 : (0 : Int) ≤ u := by omega
  have u1 : (u : Int) < 8 := by omega
  have hT := fun W => rcolumn0_any (2 * u + 0) (by omega) W
  rw [show ((2 * u + 0 : Nat) : Int) = 2 * (u : Int) by omega] at hT
  unfold rcV at hT
  rw [hN, hL] at hT
  rw [hB]
  have HBl := Lib.hid hBl
  clear hB hN hBl
  try clear hL
  go_enter Tryd.func44, Tryd.ntmps44
  go_wp2_with fail
  refine (hT _).mono ?_
  rintro e w' ⟨rfl, rfl⟩
  go_wp2
  go_ret2
  exact ⟨rfl, HBl.out 0⟩
set_option maxHeartbeats 8000000 in
theorem rcell_0_1 (u : Nat) (hu : u < 8) (w : World) : Calls Tryd.prog 44 #[.int .u8 ((16 * (2 * u + 1) + 0 : Nat) : Int)] w fun e w' => e = .returned (rcV (16 * (2 * u + 1) + 0)) ∧ Below w.heap.size w w' := by
  have hBl : ∀ q, Below w.heap.size w ((w.alloc (.cells #[.string ⟨#[79, 82, 65]⟩, .string ⟨#[65, 78, 68]⟩, .string ⟨#[69, 79, 82]⟩, .string ⟨#[65, 68, 67]⟩, .string ⟨#[83, 84, 65]⟩, .string ⟨#[76, 68, 65]⟩, .string ⟨#[67, 77, 80]⟩, .string ⟨#[83, 66, 67]⟩] 96)).drewN q) := fun q => below_drewN ((Below.refl _ w).alloc (Nat.le_refl _) _) q
  obtain ⟨N, hN⟩ : ∃ N, mkS (rnL (16 * (2 * u + 1) + 0)) = N := ⟨_, rfl⟩
  obtain ⟨L, hL⟩ : ∃ L, mkS ((opC (16 * (2 * u + 1) + 0)).drop 4) = L := ⟨_, rfl⟩
  unfold rcV
  rw [hN, hL]
  obtain ⟨B, hB⟩ : ∃ B : Int, ((16 * (2 * u + 1) + 0 : Nat) : Int) = B := ⟨_, rfl⟩
  have b0 : 0 ≤ B := by omega
  have hq : B.tdiv 16 = 2 * (u : Int) + 1 := by rw [Int.tdiv_eq_ediv_of_nonneg b0]; omega
  have hm : B.tmod 16 = 0 := by rw [Int.tmod_eq_emod_of_nonneg b0]; omega
  have hq1 : B / 16 = 2 * (u : Int) + 1 := by omega
  have hm1 : B % 16 = 0 := by omega
  have hq2 : (2 * (u : Int) + 1) / 2 = u := by omega
  have hm2 : (2 * (u : Int) + 1) % 2 = 1 := by omega
  have u0 : (0 : Int) ≤ u := by omega
  have u1 : (u : Int) < 8 := by omega
  have hT := fun W => rcolumn0_any (2 * u + 1) (by omega) W
  rw [show ((2 * u + 1 : Nat) : Int) = 2 * (u : Int) + 1 by omega] at hT
  unfold rcV at hT
  rw [hN, hL] at hT
  rw [hB]
  have HBl := Lib.hid hBl
  clear hB hN hBl
  try clear hL
  go_enter Tryd.func44, Tryd.ntmps44
  go_wp2_with fail
  refine (hT _).mono ?_
  rintro e w' ⟨rfl, rfl⟩
  go_wp2
  go_ret2
  exact ⟨rfl, HBl.out 0⟩
set_option maxHeartbeats 8000000 in
theorem rcell_3_0 (u : Nat) (hu : u < 8) (w : World) : Calls Tryd.prog 44 #[.int .u8 ((16 * (2 * u + 0) + 3 : Nat) : Int)] w fun e w' => e = .returned (rcV (16 * (2 * u + 0) + 3)) ∧ Below w.heap.size w w' := by
  have hBl : ∀ q, Below w.heap.size w ((w.alloc (.cells #[.string ⟨#[79, 82, 65]⟩, .string ⟨#[65, 78, 68]⟩, .string ⟨#[69, 79, 82]⟩, .string ⟨#[65, 68, 67]⟩, .string ⟨#[83, 84, 65]⟩, .string ⟨#[76, 68, 65]⟩, .string ⟨#[67, 77, 80]⟩, .string ⟨#[83, 66, 67]⟩] 96)).drewN q) := fun q => below_drewN ((Below.refl _ w).alloc (Nat.le_refl _) _) q
  obtain ⟨N, hN⟩ : ∃ N, mkS (rnL (16 * (2 * u + 0) + 3)) = N := ⟨_, rfl⟩
  obtain ⟨L, hL⟩ : ∃ L, mkS ((opC (16 * (2 * u + 0) + 3)).drop 4) = L := ⟨_, rfl⟩
  unfold rcV
  rw [hN, hL]
  obtain ⟨B, hB⟩ : ∃ B : Int, ((16 * (2 * u + 0) + 3 : Nat) : Int) = B := ⟨_, rfl⟩
  have b0 : 0 ≤ B := by omega
  have hq : B.tdiv 16 = 2 * (u : Int) := by rw [Int.tdiv_eq_ediv_of_nonneg b0]; omega
  have hm : B.tmod 16 = 3 := by rw [Int.tmod_eq_emod_of_nonneg b0]; omega
  have hq1 : B / 16 = 2 * (u : Int) := by omega
  have hm1 : B % 16 = 3 := by omega
  have hq2 : (2 * (u : Int)) / 2 = u := by omega
  have hm2 : (2 * (u : Int)) % 2 = 0 := by omega
  have u0 : (0 : Int) ≤ u := by omega
  have u1 : (u : Int) < 8 := by omega
  have hT := fun W => rcolumn3_any (2 * u + 0) (by omega) W
  rw [show ((2 * u + 0 : Nat) : Int) = 2 * (u : Int) by omega] at hT
  unfold rcV at hT
  rw [hN, hL] at hT
  rw [hB]
  have HBl := Lib.hid hBl
  clear hB hN hBl
  try clear hL
  go_enter Tryd.func44, Tryd.ntmps44
  go_wp2_with fail
  refine (hT _).mono ?_
  rintro e w' ⟨rfl, rfl⟩
  go_wp2
  go_ret2
  exact ⟨rfl, HBl.out 0⟩
set_option maxHeartbeats 8000000 in
theorem rcell_3_1 (u : Nat) (hu : u < 8) (w : World) : Calls Tryd.prog 44 #[.int .u8 ((16 * (2 * u + 1) + 3 : Nat) : Int)] w fun e w' => e = .returned (rcV (16 * (2 * u + 1) + 3)) ∧ Below w.heap.size w w' := by
  have hBl : ∀ q, Below w.heap.size w ((w.alloc (.cells #[.string ⟨#[79, 82, 65]⟩, .string ⟨#[65, 78, 68]⟩, .string ⟨#[69, 79, 82]⟩, .string ⟨#[65, 68, 67]⟩, .string ⟨#[83, 84, 65]⟩, .string ⟨#[76, 68, 65]⟩, .string ⟨#[67, 77, 80]⟩, .string ⟨#[83, 66, 67]⟩] 96)).drewN q) := fun q => below_drewN ((Below.refl _ w).alloc (Nat.le_refl _) _) q
  obtain ⟨N, hN⟩ : ∃ N, mkS (rnL (16 * (2 * u + 1) + 3)) = N := ⟨_, rfl⟩
  obtain ⟨L, hL⟩ : ∃ L, mkS ((opC (16 * (2 * u + 1) + 3)).drop 4) = L := ⟨_, rfl⟩
  unfold rcV
  rw [hN, hL]
  obtain ⟨B, hB⟩ : ∃ B : Int, ((16 * (2 * u + 1) + 3 : Nat) : Int) = B := ⟨_, rfl⟩
  have b0 : 0 ≤ B := by omega
  have hq : B.tdiv 16 = 2 * (u : Int) + 1 := by rw [Int.tdiv_eq_ediv_of_nonneg b0]; omega
  have hm : B.tmod 16 = 3 := by rw [Int.tmod_eq_emod_of_nonneg b0]; omega
  have hq1 : B / 16 = 2 * (u : Int) + 1 := by omega
  have hm1 : B % 16 = 3 := by omega
  have hq2 : (2 * (u : Int) + 1) / 2 = u := by omega
  have hm2 : (2 * (u : Int) + 1) % 2 = 1 := by omega
  have u0 : (0 : Int) ≤ u := by omega
  have u1 : (u : Int) < 8 := by omega
  have hT := fun W => rcolumn3_any (2 * u + 1) (by omega) W
  rw [show ((2 * u + 1 : Nat) : Int) = 2 * (u : Int) + 1 by omega] at hT
  unfold rcV at hT
  rw [hN, hL] at hT
  rw [hB]
  have HBl := Lib.hid hBl
  clear hB hN hBl
  try clear hL
  go_enter Tryd.func44, Tryd.ntmps44
  go_wp2_with fail
  refine (hT _).mono ?_
  rintro e w' ⟨rfl, rfl⟩
  go_wp2
  go_ret2
  exact ⟨rfl, HBl.out 0⟩
set_option maxHeartbeats 8000000 in
theorem rcell_4_0 (u : Nat) (hu : u < 8) (w : World) : Calls Tryd.prog 44 #[.int .u8 ((16 * (2 * u + 0) + 4 : Nat) : Int)] w fun e w' => e = .returned (rcV (16 * (2 * u + 0) + 4)) ∧ Below w.heap.size w w' := by
  have hBl : ∀ q, Below w.heap.size w ((w.alloc (.cells #[.string ⟨#[79, 82, 65]⟩, .string ⟨#[65, 78, 68]⟩, .string ⟨#[69, 79, 82]⟩, .string ⟨#[65, 68, 67]⟩, .string ⟨#[83, 84, 65]⟩, .string ⟨#[76, 68, 65]⟩, .string ⟨#[67, 77, 80]⟩, .string ⟨#[83, 66, 67]⟩] 96)).drewN q) := fun q => below_drewN ((Below.refl _ w).alloc (Nat.le_refl _) _) q
  obtain ⟨N, hN⟩ : ∃ N, mkS (rnL (16 * (2 * u + 0) + 4)) = N := ⟨_, rfl⟩
  obtain ⟨L, hL⟩ : ∃ L, mkS ((opC (16 * (2 * u + 0) + 4)).drop 4) = L := ⟨_, rfl⟩
  unfold rcV
  rw [hN, hL]
  obtain ⟨B, hB⟩ : ∃ B : Int, ((16 * (2 * u + 0) + 4 : Nat) : Int) = B := ⟨_, rfl⟩
  have b0 : 0 ≤ B := by omega
  have hq : B.tdiv 16 = 2 * (u : Int) := by rw [Int.tdiv_eq_ediv_of_nonneg b0]; omega
  have hm : B.tmod 16 = 4 := by rw [Int.tmod_eq_emod_of_nonneg b0]; omega
  have hq1 : B / 16 = 2 * (u : Int) := by omega
  have hm1 : B % 16 = 4 := by omega
  have hq2 : (2 * (u : Int)) / 2 = u := by omega
  have hm2 : (2 * (u : Int)) % 2 = 0 := by omega
  have u0 : (0 : Int) ≤ u := by omega
  have u1 : (u : Int) < 8 := by omega
  have hT := fun W => rcolumn4_any (2 * u + 0) (by omega) W
  rw [show ((2 * u + 0 : Nat) : Int) = 2 * (u : Int) by omega] at hT
  unfold rcV at hT
  rw [hN, hL] at hT
  rw [hB]
  have HBl := Lib.hid hBl
  clear hB hN hBl
  try clear hL
  go_enter Tryd.func44, Tryd.ntmps44
  go_wp2_with fail
  refine (hT _).mono ?_
  rintro e w' ⟨rfl, rfl⟩
  go_wp2
  go_ret2
  exact ⟨rfl, HBl.out 0⟩
set_option maxHeartbeats 8000000 in
theorem rcell_4_1 (u : Nat) (hu : u < 8) (w : World) : Calls Tryd.prog 44 #[.int .u8 ((16 * (2 * u + 1) + 4 : Nat) : Int)] w fun e w' => e = .returned (rcV (16 * (2 * u + 1) + 4)) ∧ Below w.heap.size w w' := by
  have hBl : ∀ q, Below w.heap.size w ((w.alloc (.cells #[.string ⟨#[79, 82, 65]⟩, .string ⟨#[65, 78, 68]⟩, .string ⟨#[69, 79, 82]⟩, .string ⟨#[65, 68, 67]⟩, .string ⟨#[83, 84, 65]⟩, .string ⟨#[76, 68, 65]⟩, .string ⟨#[67, 77, 80]⟩, .string ⟨#[83, 66, 67]⟩] 96)).drewN q) := fun q => below_drewN ((Below.refl _ w).alloc (Nat.le_refl _) _) q
  obtain ⟨N, hN⟩ : ∃ N, mkS (rnL (16 * (2 * u + 1) + 4)) = N := ⟨_, rfl⟩
  obtain ⟨L, hL⟩ : ∃ L, mkS ((opC (16 * (2 * u + 1) + 4)).drop 4) = L := ⟨_, rfl⟩
  unfold rcV
  rw [hN, hL]
  obtain ⟨B, hB⟩ : ∃ B : Int, ((16 * (2 * u + 1) + 4 : Nat) : Int) = B := ⟨_, rfl⟩
  have b0 : 0 ≤ B := by omega
  have hq : B.tdiv 16 = 2 * (u : Int) + 1 := by rw [Int.tdiv_eq_ediv_of_nonneg b0]; omega
  have hm : B.tmod 16 = 4 := by rw [Int.tmod_eq_emod_of_nonneg b0]; omega
  have hq1 : B / 16 = 2 * (u : Int) + 1 := by omega
  have hm1 : B % 16 = 4 := by omega
  have hq2 : (2 * (u : Int) + 1) / 2 = u := by omega
  have hm2 : (2 * (u : Int) + 1) % 2 = 1 := by omega
  have u0 : (0 : Int) ≤ u := by omega
  have u1 : (u : Int) < 8 := by omega
  have hT := fun W => rcolumn4_any (2 * u + 1) (by omega) W
  rw [show ((2 * u + 1 : Nat) : Int) = 2 * (u : Int) + 1 by omega] at hT
  unfold rcV at hT
  rw [hN, hL] at hT
  rw [hB]
  have HBl := Lib.hid hBl
  clear hB hN hBl
  try clear hL
  go_enter Tryd.func44, Tryd.ntmps44
  go_wp2_with fail
  refine (hT _).mono ?_
  rintro e w' ⟨rfl, rfl⟩
  go_wp2
  go_ret2
  exact ⟨rfl, HBl.out 0⟩
set_option maxHeartbeats 8000000 in
theorem rcell_6_0 (u : Nat) (hu : u < 8) (w : World) : Calls Tryd.prog 44 #[.int .u8 ((16 * (2 * u + 0) + 6 : Nat) : Int)] w fun e w' => e = .returned (rcV (16 * (2 * u + 0) + 6)) ∧ Below w.heap.size w w' := by
  have hBl : ∀ q, Below w.heap.size w ((w.alloc (.cells #[.string ⟨#[79, 82, 65]⟩, .string ⟨#[65, 78, 68]⟩, .string ⟨#[69, 79, 82]⟩, .string ⟨#[65, 68, 67]⟩, .string ⟨#[83, 84, 65]⟩, .string ⟨#[76, 68, 65]⟩, .string ⟨#[67, 77, 80]⟩, .string ⟨#[83, 66, 67]⟩] 96)).drewN q) := fun q => below_drewN ((Below.refl _ w).alloc (Nat.le_refl _) _) q
  obtain ⟨N, hN⟩ : ∃ N, mkS (rnL (16 * (2 * u + 0) + 6)) = N := ⟨_, rfl⟩
  obtain ⟨L, hL⟩ : ∃ L, mkS ((opC (16 * (2 * u + 0) + 6)).drop 4) = L := ⟨_, rfl⟩
  unfold rcV
  rw [hN, hL]
  obtain ⟨B, hB⟩ : ∃ B : Int, ((16 * (2 * u + 0) + 6 : Nat) : Int) = B := ⟨_, rfl⟩
  have b0 : 0 ≤ B := by omega
  have hq : B.tdiv 16 = 2 * (u : Int) := by rw [Int.tdiv_eq_ediv_of_nonneg b0]; omega
  have hm : B.tmod 16 = 6 := by rw [Int.tmod_eq_emod_of_nonneg b0]; omega
  have hq1 : B / 16 = 2 * (u : Int) := by omega
  have hm1 : B % 16 = 6 := by omega
  have hq2 : (2 * (u : Int)) / 2 = u := by omega
  have hm2 : (2 * (u : Int)) % 2 = 0 := by omega
  have u0 : (0 : Int) ≤ u := by omega
  have u1 : (u : Int) < 8 := by omega
  have hT := fun W => rturns_00 u hu W
  unfold rcV at hT
  rw [hN, hL] at hT
  rw [hB]
  have HBl := Lib.hid hBl
  clear hB hN hBl
  try clear hL
  go_enter Tryd.func44, Tryd.ntmps44
  go_wp2_with fail
  refine (hT _).mono ?_
  rintro e w' ⟨rfl, rfl⟩
  go_wp2
  go_ret2
  exact ⟨rfl, HBl.out 0⟩
set_option maxHeartbeats 8000000 in
theorem rcell_6_1 (u : Nat) (hu : u < 8) (w : World) : Calls Tryd.prog 44 #[.int .u8 ((16 * (2 * u + 1) + 6 : Nat) : Int)] w fun e w' => e = .returned (rcV (16 * (2 * u + 1) + 6)) ∧ Below w.heap.size w w' := by
  have hBl : ∀ q, Below w.heap.size w ((w.alloc (.cells #[.string ⟨#[79, 82, 65]⟩, .string ⟨#[65, 78, 68]⟩, .string ⟨#[69, 79, 82]⟩, .string ⟨#[65, 68, 67]⟩, .string ⟨#[83, 84, 65]⟩, .string ⟨#[76, 68, 65]⟩, .string ⟨#[67, 77, 80]⟩, .string ⟨#[83, 66, 67]⟩] 96)).drewN q) := fun q => below_drewN ((Below.refl _ w).alloc (Nat.le_refl _) _) q
  obtain ⟨N, hN⟩ : ∃ N, mkS (rnL (16 * (2 * u + 1) + 6)) = N := ⟨_, rfl⟩
  obtain ⟨L, hL⟩ : ∃ L, mkS ((opC (16 * (2 * u + 1) + 6)).drop 4) = L := ⟨_, rfl⟩
  unfold rcV
  rw [hN, hL]
  obtain ⟨B, hB⟩ : ∃ B : Int, ((16 * (2 * u + 1) + 6 : Nat) : Int) = B := ⟨_, rfl⟩
  have b0 : 0 ≤ B := by omega
  have hq : B.tdiv 16 = 2 * (u : Int) + 1 := by rw [Int.tdiv_eq_ediv_of_nonneg b0]; omega
  have hm : B.tmod 16 = 6 := by rw [Int.tmod_eq_emod_of_nonneg b0]; omega
  have hq1 : B / 16 = 2 * (u : Int) + 1 := by omega
  have hm1 : B % 16 = 6 := by omega
  have hq2 : (2 * (u : Int) + 1) / 2 = u := by omega
  have hm2 : (2 * (u : Int) + 1) % 2 = 1 := by omega
  have u0 : (0 : Int) ≤ u := by omega
  have u1 : (u : Int) < 8 := by omega
  have hT := fun W => rturns_10 u hu W
  unfold rcV at hT
  rw [hN, hL] at hT
  rw [hB]
  have HBl := Lib.hid hBl
  clear hB hN hBl
  try clear hL
  go_enter Tryd.func44, Tryd.ntmps44
  go_wp2_with fail
  refine (hT _).mono ?_
  rintro e w' ⟨rfl, rfl⟩
  go_wp2
  go_ret2
  exact ⟨rfl, HBl.out 0⟩
set_option maxHeartbeats 8000000 in
theorem rcell_8_0 (u : Nat) (hu : u < 8) (w : World) : Calls Tryd.prog 44 #[.int .u8 ((16 * (2 * u + 0) + 8 : Nat) : Int)] w fun e w' => e = .returned (rcV (16 * (2 * u + 0) + 8)) ∧ Below w.heap.size w w' := by
  have hBl : ∀ q, Below w.heap.size w ((w.alloc (.cells #[.string ⟨#[79, 82, 65]⟩, .string ⟨#[65, 78, 68]⟩, .string ⟨#[69, 79, 82]⟩, .string ⟨#[65, 68, 67]⟩, .string ⟨#[83, 84, 65]⟩, .string ⟨#[76, 68, 65]⟩, .string ⟨#[67, 77, 80]⟩, .string ⟨#[83, 66, 67]⟩] 96)).drewN q) := fun q => below_drewN ((Below.refl _ w).alloc (Nat.le_refl _) _) q
  obtain ⟨N, hN⟩ : ∃ N, mkS (rnL (16 * (2 * u + 0) + 8)) = N := ⟨_, rfl⟩
  obtain ⟨L, hL⟩ : ∃ L, mkS ((opC (16 * (2 * u + 0) + 8)).drop 4) = L := ⟨_, rfl⟩
  unfold rcV
  rw [hN, hL]
  obtain ⟨B, hB⟩ : ∃ B : Int, ((16 * (2 * u + 0) + 8 : Nat) : Int) = B := ⟨_, rfl⟩
  have b0 : 0 ≤ B := by omega
  have hq : B.tdiv 16 = 2 * (u : Int) := by rw [Int.tdiv_eq_ediv_of_nonneg b0]; omega
  have hm : B.tmod 16 = 8 := by rw [Int.tmod_eq_emod_of_nonneg b0]; omega
  have hq1 : B / 16 = 2 * (u : Int) := by omega
  have hm1 : B % 16 = 8 := by omega
  have hq2 : (2 * (u : Int)) / 2 = u := by omega
  have hm2 : (2 * (u : Int)) % 2 = 0 := by omega
  have u0 : (0 : Int) ≤ u := by omega
  have u1 : (u : Int) < 8 := by omega
  have hT : ∀ W : World, (Instr.index 100 (.agg #[.string ⟨#[80, 72, 80]⟩, .string ⟨#[67, 76, 67]⟩, .string ⟨#[80, 76, 80]⟩, .string ⟨#[83, 69, 67]⟩, .string ⟨#[80, 72, 65]⟩, .string ⟨#[67, 76, 73]⟩, .string ⟨#[80, 76, 65]⟩, .string ⟨#[83, 69, 73]⟩, .string ⟨#[68, 69, 89]⟩, .string ⟨#[84, 89, 65]⟩, .string ⟨#[84, 65, 89]⟩, .string ⟨#[67, 76, 86]⟩, .string ⟨#[73, 78, 89]⟩, .string ⟨#[67, 76, 68]⟩, .string ⟨#[73, 78, 88]⟩, .string ⟨#[83, 69, 68]⟩]) (.int .i64 (2 * (u : Int)))).run Tryd.prog W = .ok (.string N) W := fun W => by
    have := idx_agg Tryd.underlying100 (by kernel_rfl) #[.string ⟨#[80, 72, 80]⟩, .string ⟨#[67, 76, 67]⟩, .string ⟨#[80, 76, 80]⟩, .string ⟨#[83, 69, 67]⟩, .string ⟨#[80, 72, 65]⟩, .string ⟨#[67, 76, 73]⟩, .string ⟨#[80, 76, 65]⟩, .string ⟨#[83, 69, 73]⟩, .string ⟨#[68, 69, 89]⟩, .string ⟨#[84, 89, 65]⟩, .string ⟨#[84, 65, 89]⟩, .string ⟨#[67, 76, 86]⟩, .string ⟨#[73, 78, 89]⟩, .string ⟨#[67, 76, 68]⟩, .string ⟨#[73, 78, 88]⟩, .string ⟨#[83, 69, 68]⟩] (2 * u + 0) (by omega) (.string N) (by rw [← hN]; clear hN hL; rcases lt8 hu with rfl | rfl | rfl | rfl | rfl | rfl | rfl | rfl <;> kernel_rfl) W
    rwa [show ((2 * u + 0 : Nat) : Int) = 2 * (u : Int) by omega] at this
  obtain rfl : L = ⟨#[46, 46]⟩ := by rw [← hL]; clear hL; rcases lt8 hu with rfl | rfl | rfl | rfl | rfl | rfl | rfl | rfl <;> kernel_rfl
  rw [hB]
  have HBl := Lib.hid hBl
  clear hB hN hBl
  try clear hL
  go_enter Tryd.func44, Tryd.ntmps44
  go_wp2
  go_ret2
  exact ⟨rfl, HBl.out 0⟩
set_option maxHeartbeats 8000000 in
theorem rcell_8_1 (u : Nat) (hu : u < 8) (w : World) : Calls Tryd.prog 44 #[.int .u8 ((16 * (2 * u + 1) + 8 : Nat) : Int)] w fun e w' => e = .returned (rcV (16 * (2 * u + 1) + 8)) ∧ Below w.heap.size w w' := by
  have hBl : ∀ q, Below w.heap.size w ((w.alloc (.cells #[.string ⟨#[79, 82, 65]⟩, .string ⟨#[65, 78, 68]⟩, .string ⟨#[69, 79, 82]⟩, .string ⟨#[65, 68, 67]⟩, .string ⟨#[83, 84, 65]⟩, .string ⟨#[76, 68, 65]⟩, .string ⟨#[67, 77, 80]⟩, .string ⟨#[83, 66, 67]⟩] 96)).drewN q) := fun q => below_drewN ((Below.refl _ w).alloc (Nat.le_refl _) _) q
  obtain ⟨N, hN⟩ : ∃ N, mkS (rnL (16 * (2 * u + 1) + 8)) = N := ⟨_, rfl⟩
  obtain ⟨L, hL⟩ : ∃ L, mkS ((opC (16 * (2 * u + 1) + 8)).drop 4) = L := ⟨_, rfl⟩
  unfold rcV
  rw [hN, hL]
  obtain ⟨B, hB⟩ : ∃ B : Int, ((16 * (2 * u + 1) + 8 : Nat) : Int) = B := ⟨_, rfl⟩
  have b0 : 0 ≤ B := by omega
  have hq : B.tdiv 16 = 2 * (u : Int) + 1 := by rw [Int.tdiv_eq_ediv_of_nonneg b0]; omega
  have hm : B.tmod 16 = 8 := by rw [Int.tmod_eq_emod_of_nonneg b0]; omega
  have hq1 : B / 16 = 2 * (u : Int) + 1 := by omega
  have hm1 : B % 16 = 8 := by omega
  have hq2 : (2 * (u : Int) + 1) / 2 = u := by omega
  have hm2 : (2 * (u : Int) + 1) % 2 = 1 := by omega
  have u0 : (0 : Int) ≤ u := by omega
  have u1 : (u : Int) < 8 := by omega
  have hT : ∀ W : World, (Instr.index 100 (.agg #[.string ⟨#[80, 72, 80]⟩, .string ⟨#[67, 76, 67]⟩, .string ⟨#[80, 76, 80]⟩, .string ⟨#[83, 69, 67]⟩, .string ⟨#[80, 72, 65]⟩, .string ⟨#[67, 76, 73]⟩, .string ⟨#[80, 76, 65]⟩, .string ⟨#[83, 69, 73]⟩, .string ⟨#[68, 69, 89]⟩, .string ⟨#[84, 89, 65]⟩, .string ⟨#[84, 65, 89]⟩, .string ⟨#[67, 76, 86]⟩, .string ⟨#[73, 78, 89]⟩, .string ⟨#[67, 76, 68]⟩, .string ⟨#[73, 78, 88]⟩, .string ⟨#[83, 69, 68]⟩]) (.int .i64 (2 * (u : Int) + 1))).run Tryd.prog W = .ok (.string N) W := fun W => by
    have := idx_agg Tryd.underlying100 (by kernel_rfl) #[.string ⟨#[80, 72, 80]⟩, .string ⟨#[67, 76, 67]⟩, .string ⟨#[80, 76, 80]⟩, .string ⟨#[83, 69, 67]⟩, .string ⟨#[80, 72, 65]⟩, .string ⟨#[67, 76, 73]⟩, .string ⟨#[80, 76, 65]⟩, .string ⟨#[83, 69, 73]⟩, .string ⟨#[68, 69, 89]⟩, .string ⟨#[84, 89, 65]⟩, .string ⟨#[84, 65, 89]⟩, .string ⟨#[67, 76, 86]⟩, .string ⟨#[73, 78, 89]⟩, .string ⟨#[67, 76, 68]⟩, .string ⟨#[73, 78, 88]⟩, .string ⟨#[83, 69, 68]⟩] (2 * u + 1) (by omega) (.string N) (by rw [← hN]; clear hN hL; rcases lt8 hu with rfl | rfl | rfl | rfl | rfl | rfl | rfl | rfl <;> kernel_rfl) W
    rwa [show ((2 * u + 1 : Nat) : Int) = 2 * (u : Int) + 1 by omega] at this
  obtain rfl : L = ⟨#[46, 46]⟩ := by rw [← hL]; clear hL; rcases lt8 hu with rfl | rfl | rfl | rfl | rfl | rfl | rfl | rfl <;> kernel_rfl
  rw [hB]
  have HBl := Lib.hid hBl
  clear hB hN hBl
  try clear hL
  go_enter Tryd.func44, Tryd.ntmps44
  go_wp2
  go_ret2
  exact ⟨rfl, HBl.out 0⟩
set_option maxHeartbeats 8000000 in
theorem rcell_10_0 (u : Nat) (hu : u < 8) (w : World) : Calls Tryd.prog 44 #[.int .u8 ((16 * (2 * u + 0) + 10 : Nat) : Int)] w fun e w' => e = .returned (rcV (16 * (2 * u + 0) + 10)) ∧ Below w.heap.size w w' := by
  have hBl : ∀ q, Below w.heap.size w ((w.alloc (.cells #[.string ⟨#[79, 82, 65]⟩, .string ⟨#[65, 78, 68]⟩, .string ⟨#[69, 79, 82]⟩, .string ⟨#[65, 68, 67]⟩, .string ⟨#[83, 84, 65]⟩, .string ⟨#[76, 68, 65]⟩, .string ⟨#[67, 77, 80]⟩, .string ⟨#[83, 66, 67]⟩] 96)).drewN q) := fun q => below_drewN ((Below.refl _ w).alloc (Nat.le_refl _) _) q
  obtain ⟨N, hN⟩ : ∃ N, mkS (rnL (16 * (2 * u + 0) + 10)) = N := ⟨_, rfl⟩
  obtain ⟨L, hL⟩ : ∃ L, mkS ((opC (16 * (2 * u + 0) + 10)).drop 4) = L := ⟨_, rfl⟩
  unfold rcV
  rw [hN, hL]
  obtain ⟨B, hB⟩ : ∃ B : Int, ((16 * (2 * u + 0) + 10 : Nat) : Int) = B := ⟨_, rfl⟩
  have b0 : 0 ≤ B := by omega
  have hq : B.tdiv 16 = 2 * (u : Int) := by rw [Int.tdiv_eq_ediv_of_nonneg b0]; omega
  have hm : B.tmod 16 = 10 := by rw [Int.tmod_eq_emod_of_nonneg b0]; omega
  have hq1 : B / 16 = 2 * (u : Int) := by omega
  have hm1 : B % 16 = 10 := by omega
  have hq2 : (2 * (u : Int)) / 2 = u := by omega
  have hm2 : (2 * (u : Int)) % 2 = 0 := by omega
  have u0 : (0 : Int) ≤ u := by omega
  have u1 : (u : Int) < 8 := by omega
  have hT : ∀ W : World, (Instr.index 100 (.agg #[.string ⟨#[65, 83, 76]⟩, .string ⟨#[73, 78, 67]⟩, .string ⟨#[82, 79, 76]⟩, .string ⟨#[68, 69, 67]⟩, .string ⟨#[76, 83, 82]⟩, .string ⟨#[80, 72, 89]⟩, .string ⟨#[82, 79, 82]⟩, .string ⟨#[80, 76, 89]⟩, .string ⟨#[84, 88, 65]⟩, .string ⟨#[84, 88, 83]⟩, .string ⟨#[84, 65, 88]⟩, .string ⟨#[84, 83, 88]⟩, .string ⟨#[68, 69, 88]⟩, .string ⟨#[80, 72, 88]⟩, .string ⟨#[78, 79, 80]⟩, .string ⟨#[80, 76, 88]⟩]) (.int .i64 (2 * (u : Int)))).run Tryd.prog W = .ok (.string N) W := fun W => by
    have := idx_agg Tryd.underlying100 (by kernel_rfl) #[.string ⟨#[65, 83, 76]⟩, .string ⟨#[73, 78, 67]⟩, .string ⟨#[82, 79, 76]⟩, .string ⟨#[68, 69, 67]⟩, .string ⟨#[76, 83, 82]⟩, .string ⟨#[80, 72, 89]⟩, .string ⟨#[82, 79, 82]⟩, .string ⟨#[80, 76, 89]⟩, .string ⟨#[84, 88, 65]⟩, .string ⟨#[84, 88, 83]⟩, .string ⟨#[84, 65, 88]⟩, .string ⟨#[84, 83, 88]⟩, .string ⟨#[68, 69, 88]⟩, .string ⟨#[80, 72, 88]⟩, .string ⟨#[78, 79, 80]⟩, .string ⟨#[80, 76, 88]⟩] (2 * u + 0) (by omega) (.string N) (by rw [← hN]; clear hN hL; rcases lt8 hu with rfl | rfl | rfl | rfl | rfl | rfl | rfl | rfl <;> kernel_rfl) W
    rwa [show ((2 * u + 0 : Nat) : Int) = 2 * (u : Int) by omega] at this
  obtain rfl : L = ⟨#[46, 46]⟩ := by rw [← hL]; clear hL; rcases lt8 hu with rfl | rfl | rfl | rfl | rfl | rfl | rfl | rfl <;> kernel_rfl
  rw [hB]
  have HBl := Lib.hid hBl
  clear hB hN hBl
  try clear hL
  go_enter Tryd.func44, Tryd.ntmps44
  go_wp2
  go_ret2
  exact ⟨rfl, HBl.out 0⟩
set_option maxHeartbeats 8000000 in
theorem rcell_10_1 (u : Nat) (hu : u < 8) (w : World) : Calls Tryd.prog 44 #[.int .u8 ((16 * (2 * u + 1) + 10 : Nat) : Int)] w fun e w' => e = .returned (rcV (16 * (2 * u + 1) + 10)) ∧ Below w.heap.size w w' := by
  have hBl : ∀ q, Below w.heap.size w ((w.alloc (.cells #[.string ⟨#[79, 82, 65]⟩, .string ⟨#[65, 78, 68]⟩, .string ⟨#[69, 79, 82]⟩, .string ⟨#[65, 68, 67]⟩, .string ⟨#[83, 84, 65]⟩, .string ⟨#[76, 68, 65]⟩, .string ⟨#[67, 77, 80]⟩, .string ⟨#[83, 66, 67]⟩] 96)).drewN q) := fun q => below_drewN ((Below.refl _ w).alloc (Nat.le_refl _) _) q
  obtain ⟨N, hN⟩ : ∃ N, mkS (rnL (16 * (2 * u + 1) + 10)) = N := ⟨_, rfl⟩
  obtain ⟨L, hL⟩ : ∃ L, mkS ((opC (16 * (2 * u + 1) + 10)).drop 4) = L := ⟨_, rfl⟩
  unfold rcV
  rw [hN, hL]
  obtain ⟨B, hB⟩ : ∃ B : Int, ((16 * (2 * u + 1) + 10 : Nat) : Int) = B := ⟨_, rfl⟩
  have b0 : 0 ≤ B := by omega
  have hq : B.tdiv 16 = 2 * (u : Int) + 1 := by rw [Int.tdiv_eq_ediv_of_nonneg b0]; omega
  have hm : B.tmod 16 = 10 := by rw [Int.tmod_eq_emod_of_nonneg b0]; omega
  have hq1 : B / 16 = 2 * (u : Int) + 1 := by omega
  have hm1 : B % 16 = 10 := by omega
  have hq2 : (2 * (u : Int) + 1) / 2 = u := by omega
  have hm2 : (2 * (u : Int) + 1) % 2 = 1 := by omega
  have u0 : (0 : Int) ≤ u := by omega
  have u1 : (u : Int) < 8 := by omega
  have hT : ∀ W : World, (Instr.index 100 (.agg #[.string ⟨#[65, 83, 76]⟩, .string ⟨#[73, 78, 67]⟩, .string ⟨#[82, 79, 76]⟩, .string ⟨#[68, 69, 67]⟩, .string ⟨#[76, 83, 82]⟩, .string ⟨#[80, 72, 89]⟩, .string ⟨#[82, 79, 82]⟩, .string ⟨#[80, 76, 89]⟩, .string ⟨#[84, 88, 65]⟩, .string ⟨#[84, 88, 83]⟩, .string ⟨#[84, 65, 88]⟩, .string ⟨#[84, 83, 88]⟩, .string ⟨#[68, 69, 88]⟩, .string ⟨#[80, 72, 88]⟩, .string ⟨#[78, 79, 80]⟩, .string ⟨#[80, 76, 88]⟩]) (.int .i64 (2 * (u : Int) + 1))).run Tryd.prog W = .ok (.string N) W := fun W => by
    have := idx_agg Tryd.underlying100 (by kernel_rfl) #[.string ⟨#[65, 83, 76]⟩, .string ⟨#[73, 78, 67]⟩, .string ⟨#[82, 79, 76]⟩, .string ⟨#[68, 69, 67]⟩, .string ⟨#[76, 83, 82]⟩, .string ⟨#[80, 72, 89]⟩, .string ⟨#[82, 79, 82]⟩, .string ⟨#[80, 76, 89]⟩, .string ⟨#[84, 88, 65]⟩, .string ⟨#[84, 88, 83]⟩, .string ⟨#[84, 65, 88]⟩, .string ⟨#[84, 83, 88]⟩, .string ⟨#[68, 69, 88]⟩, .string ⟨#[80, 72, 88]⟩, .string ⟨#[78, 79, 80]⟩, .string ⟨#[80, 76, 88]⟩] (2 * u + 1) (by omega) (.string N) (by rw [← hN]; clear hN hL; rcases lt8 hu with rfl | rfl | rfl | rfl | rfl | rfl | rfl | rfl <;> kernel_rfl) W
    rwa [show ((2 * u + 1 : Nat) : Int) = 2 * (u : Int) + 1 by omega] at this
  obtain rfl : L = ⟨#[46, 46]⟩ := by rw [← hL]; clear hL; rcases lt8 hu with rfl | rfl | rfl | rfl | rfl | rfl | rfl | rfl <;> kernel_rfl
  rw [hB]
  have HBl := Lib.hid hBl
  clear hB hN hBl
  try clear hL
  go_enter Tryd.func44, Tryd.ntmps44
  go_wp2
  go_ret2
  exact ⟨rfl, HBl.out 0⟩
set_option maxHeartbeats 8000000 in
theorem rcell_11_0 (u : Nat) (hu : u < 8) (w : World) : Calls Tryd.prog 44 #[.int .u8 ((16 * (2 * u + 0) + 11 : Nat) : Int)] w fun e w' => e = .returned (rcV (16 * (2 * u + 0) + 11)) ∧ Below w.heap.size w w' := by
  have hBl : ∀ q, Below w.heap.size w ((w.alloc (.cells #[.string ⟨#[79, 82, 65]⟩, .string ⟨#[65, 78, 68]⟩, .string ⟨#[69, 79, 82]⟩, .string ⟨#[65, 68, 67]⟩, .string ⟨#[83, 84, 65]⟩, .string ⟨#[76, 68, 65]⟩, .string ⟨#[67, 77, 80]⟩, .string ⟨#[83, 66, 67]⟩] 96)).drewN q) := fun q => below_drewN ((Below.refl _ w).alloc (Nat.le_refl _) _) q
  obtain ⟨N, hN⟩ : ∃ N, mkS (rnL (16 * (2 * u + 0) + 11)) = N := ⟨_, rfl⟩
  obtain ⟨L, hL⟩ : ∃ L, mkS ((opC (16 * (2 * u + 0) + 11)).drop 4) = L := ⟨_, rfl⟩
  unfold rcV
  rw [hN, hL]
  obtain ⟨B, hB⟩ : ∃ B : Int, ((16 * (2 * u + 0) + 11 : Nat) : Int) = B := ⟨_, rfl⟩
  have b0 : 0 ≤ B := by omega
  have hq : B.tdiv 16 = 2 * (u : Int) := by rw [Int.tdiv_eq_ediv_of_nonneg b0]; omega
  have hm : B.tmod 16 = 11 := by rw [Int.tmod_eq_emod_of_nonneg b0]; omega
  have hq1 : B / 16 = 2 * (u : Int) := by omega
  have hm1 : B % 16 = 11 := by omega
  have hq2 : (2 * (u : Int)) / 2 = u := by omega
  have hm2 : (2 * (u : Int)) % 2 = 0 := by omega
  have u0 : (0 : Int) ≤ u := by omega
  have u1 : (u : Int) < 8 := by omega
  obtain rfl : N = ⟨#[]⟩ := by rw [← hN]; clear hN hL; rcases lt8 hu with rfl | rfl | rfl | rfl | rfl | rfl | rfl | rfl <;> kernel_rfl
  obtain rfl : L = ⟨#[46, 46]⟩ := by rw [← hL]; clear hL; rcases lt8 hu with rfl | rfl | rfl | rfl | rfl | rfl | rfl | rfl <;> kernel_rfl
  rw [hB]
  have HBl := Lib.hid hBl
  clear hB hN hBl
  try clear hL
  go_enter Tryd.func44, Tryd.ntmps44
  go_wp2
  go_ret2
  exact ⟨rfl, HBl.out 0⟩
set_option maxHeartbeats 8000000 in
theorem rcell_11_1 (u : Nat) (hu : u < 8) (w : World) : Calls Tryd.prog 44 #[.int .u8 ((16 * (2 * u + 1) + 11 : Nat) : Int)] w fun e w' => e = .returned (rcV (16 * (2 * u + 1) + 11)) ∧ Below w.heap.size w w' := by
  have hBl : ∀ q, Below w.heap.size w ((w.alloc (.cells #[.string ⟨#[79, 82, 65]⟩, .string ⟨#[65, 78, 68]⟩, .string ⟨#[69, 79, 82]⟩, .string ⟨#[65, 68, 67]⟩, .string ⟨#[83, 84, 65]⟩, .string ⟨#[76, 68, 65]⟩, .string ⟨#[67, 77, 80]⟩, .string ⟨#[83, 66, 67]⟩] 96)).drewN q) := fun q => below_drewN ((Below.refl _ w).alloc (Nat.le_refl _) _) q
  obtain ⟨N, hN⟩ : ∃ N, mkS (rnL (16 * (2 * u + 1) + 11)) = N := ⟨_, rfl⟩
  obtain ⟨L, hL⟩ : ∃ L, mkS ((opC (16 * (2 * u + 1) + 11)).drop 4) = L := ⟨_, rfl⟩
  unfold rcV
  rw [hN, hL]
  obtain ⟨B, hB⟩ : ∃ B : Int, ((16 * (2 * u + 1) + 11 : Nat) : Int) = B := ⟨_, rfl⟩
  have b0 : 0 ≤ B := by omega
  have hq : B.tdiv 16 = 2 * (u : Int) + 1 := by rw [Int.tdiv_eq_ediv_of_nonneg b0]; omega
  have hm : B.tmod 16 = 11 := by rw [Int.tmod_eq_emod_of_nonneg b0]; omega
  have hq1 : B / 16 = 2 * (u : Int) + 1 := by omega
  have hm1 : B % 16 = 11 := by omega
  have hq2 : (2 * (u : Int) + 1) / 2 = u := by omega
  have hm2 : (2 * (u : Int) + 1) % 2 = 1 := by omega
  have u0 : (0 : Int) ≤ u := by omega
  have u1 : (u : Int) < 8 := by omega
  obtain rfl : N = ⟨#[]⟩ := by rw [← hN]; clear hN hL; rcases lt8 hu with rfl | rfl | rfl | rfl | rfl | rfl | rfl | rfl <;> kernel_rfl
  obtain rfl : L = ⟨#[46, 46]⟩ := by rw [← hL]; clear hL; rcases lt8 hu with rfl | rfl | rfl | rfl | rfl | rfl | rfl | rfl <;> kernel_rfl
  rw [hB]
  have HBl := Lib.hid hBl
  clear hB hN hBl
  try clear hL
  go_enter Tryd.func44, Tryd.ntmps44
  go_wp2
  go_ret2
  exact ⟨rfl, HBl.out 0⟩
set_option maxHeartbeats 8000000 in
theorem rcell_12_0 (u : Nat) (hu : u < 8) (w : World) : Calls Tryd.prog 44 #[.int .u8 ((16 * (2 * u + 0) + 12 : Nat) : Int)] w fun e w' => e = .returned (rcV (16 * (2 * u + 0) + 12)) ∧ Below w.heap.size w w' := by
  have hBl : ∀ q, Below w.heap.size w ((w.alloc (.cells #[.string ⟨#[79, 82, 65]⟩, .string ⟨#[65, 78, 68]⟩, .string ⟨#[69, 79, 82]⟩, .string ⟨#[65, 68, 67]⟩, .string ⟨#[83, 84, 65]⟩, .string ⟨#[76, 68, 65]⟩, .string ⟨#[67, 77, 80]⟩, .string ⟨#[83, 66, 67]⟩] 96)).drewN q) := fun q => below_drewN ((Below.refl _ w).alloc (Nat.le_refl _) _) q
  obtain ⟨N, hN⟩ : ∃ N, mkS (rnL (16 * (2 * u + 0) + 12)) = N := ⟨_, rfl⟩
  obtain ⟨L, hL⟩ : ∃ L, mkS ((opC (16 * (2 * u + 0) + 12)).drop 4) = L := ⟨_, rfl⟩
  unfold rcV
  rw [hN, hL]
  obtain ⟨B, hB⟩ : ∃ B : Int, ((16 * (2 * u + 0) + 12 : Nat) : Int) = B := ⟨_, rfl⟩
  have b0 : 0 ≤ B := by omega
  have hq : B.tdiv 16 = 2 * (u : Int) := by rw [Int.tdiv_eq_ediv_of_nonneg b0]; omega
  have hm : B.tmod 16 = 12 := by rw [Int.tmod_eq_emod_of_nonneg b0]; omega
  have hq1 : B / 16 = 2 * (u : Int) := by omega
  have hm1 : B % 16 = 12 := by omega
  have hq2 : (2 * (u : Int)) / 2 = u := by omega
  have hm2 : (2 * (u : Int)) % 2 = 0 := by omega
  have u0 : (0 : Int) ≤ u := by omega
  have u1 : (u : Int) < 8 := by omega
  have hT := fun W => rcolumn12_any (2 * u + 0) (by omega) W
  rw [show ((2 * u + 0 : Nat) : Int) = 2 * (u : Int) by omega] at hT
  unfold rcV at hT
  rw [hN, hL] at hT
  rw [hB]
  have HBl := Lib.hid hBl
  clear hB hN hBl
  try clear hL
  go_enter Tryd.func44, Tryd.ntmps44
  go_wp2_with fail
  refine (hT _).mono ?_
  rintro e w' ⟨rfl, rfl⟩
  go_wp2
  go_ret2
  exact ⟨rfl, HBl.out 0⟩
set_option maxHeartbeats 8000000 in
theorem rcell_12_1 (u : Nat) (hu : u < 8) (w : World) : Calls Tryd.prog 44 #[.int .u8 ((16 * (2 * u + 1) + 12 : Nat) : Int)] w fun e w' => e = .returned (rcV (16 * (2 * u + 1) + 12)) ∧ Below w.heap.size w w' := by
  have hBl : ∀ q, Below w.heap.size w ((w.alloc (.cells #[.string ⟨#[79, 82, 65]⟩, .string ⟨#[65, 78, 68]⟩, .string ⟨#[69, 79, 82]⟩, .string ⟨#[65, 68, 67]⟩, .string ⟨#[83, 84, 65]⟩, .string ⟨#[76, 68, 65]⟩, .string ⟨#[67, 77, 80]⟩, .string ⟨#[83, 66, 67]⟩] 96)).drewN q) := fun q => below_drewN ((Below.refl _ w).alloc (Nat.le_refl _) _) q
  obtain ⟨N, hN⟩ : ∃ N, mkS (rnL (16 * (2 * u + 1) + 12)) = N := ⟨_, rfl⟩
  obtain ⟨L, hL⟩ : ∃ L, mkS ((opC (16 * (2 * u + 1) + 12)).drop 4) = L := ⟨_, rfl⟩
  unfold rcV
  rw [hN, hL]
  obtain ⟨B, hB⟩ : ∃ B : Int, ((16 * (2 * u + 1) + 12 : Nat) : Int) = B := ⟨_, rfl⟩
  have b0 : 0 ≤ B := by omega
  have hq : B.tdiv 16 = 2 * (u : Int) + 1 := by rw [Int.tdiv_eq_ediv_of_nonneg b0]; omega
  have hm : B.tmod 16 = 12 := by rw [Int.tmod_eq_emod_of_nonneg b0]; omega
  have hq1 : B / 16 = 2 * (u : Int) + 1 := by omega
  have hm1 : B % 16 = 12 := by omega
  have hq2 : (2 * (u : Int) + 1) / 2 = u := by omega
  have hm2 : (2 * (u : Int) + 1) % 2 = 1 := by omega
  have u0 : (0 : Int) ≤ u := by omega
  have u1 : (u : Int) < 8 := by omega
  have hT := fun W => rcolumn12_any (2 * u + 1) (by omega) W
  rw [show ((2 * u + 1 : Nat) : Int) = 2 * (u : Int) + 1 by omega] at hT
  unfold rcV at hT
  rw [hN, hL] at hT
  rw [hB]
  have HBl := Lib.hid hBl
  clear hB hN hBl
  try clear hL
  go_enter Tryd.func44, Tryd.ntmps44
  go_wp2_with fail
  refine (hT _).mono ?_
  rintro e w' ⟨rfl, rfl⟩
  go_wp2
  go_ret2
  exact ⟨rfl, HBl.out 0⟩
set_option maxHeartbeats 8000000 in
theorem rcell_14_0 (u : Nat) (hu : u < 8) (w : World) : Calls Tryd.prog 44 #[.int .u8 ((16 * (2 * u + 0) + 14 : Nat) : Int)] w fun e w' => e = .returned (rcV (16 * (2 * u + 0) + 14)) ∧ Below w.heap.size w w' := by
  have hBl : ∀ q, Below w.heap.size w ((w.alloc (.cells #[.string ⟨#[79, 82, 65]⟩, .string ⟨#[65, 78, 68]⟩, .string ⟨#[69, 79, 82]⟩, .string ⟨#[65, 68, 67]⟩, .string ⟨#[83, 84, 65]⟩, .string ⟨#[76, 68, 65]⟩, .string ⟨#[67, 77, 80]⟩, .string ⟨#[83, 66, 67]⟩] 96)).drewN q) := fun q => below_drewN ((Below.refl _ w).alloc (Nat.le_refl _) _) q
  obtain ⟨N, hN⟩ : ∃ N, mkS (rnL (16 * (2 * u + 0) + 14)) = N := ⟨_, rfl⟩
  obtain ⟨L, hL⟩ : ∃ L, mkS ((opC (16 * (2 * u + 0) + 14)).drop 4) = L := ⟨_, rfl⟩
  unfold rcV
  rw [hN, hL]
  obtain ⟨B, hB⟩ : ∃ B : Int, ((16 * (2 * u + 0) + 14 : Nat) : Int) = B := ⟨_, rfl⟩
  have b0 : 0 ≤ B := by omega
  have hq : B.tdiv 16 = 2 * (u : Int) := by rw [Int.tdiv_eq_ediv_of_nonneg b0]; omega
  have hm : B.tmod 16 = 14 := by rw [Int.tmod_eq_emod_of_nonneg b0]; omega
  have hq1 : B / 16 = 2 * (u : Int) := by omega
  have hm1 : B % 16 = 14 := by omega
  have hq2 : (2 * (u : Int)) / 2 = u := by omega
  have hm2 : (2 * (u : Int)) % 2 = 0 := by omega
  have u0 : (0 : Int) ≤ u := by omega
  have u1 : (u : Int) < 8 := by omega
  have hT := fun W => rturns_01 u hu W
  unfold rcV at hT
  rw [hN, hL] at hT
  rw [hB]
  have HBl := Lib.hid hBl
  clear hB hN hBl
  try clear hL
  go_enter Tryd.func44, Tryd.ntmps44
  go_wp2_with fail
  refine (hT _).mono ?_
  rintro e w' ⟨rfl, rfl⟩
  go_wp2
  go_ret2
  exact ⟨rfl, HBl.out 0⟩
set_option maxHeartbeats 8000000 in
theorem rcell_14_1 (u : Nat) (hu : u < 8) (w : World) : Calls Tryd.prog 44 #[.int .u8 ((16 * (2 * u + 1) + 14 : Nat) : Int)] w fun e w' => e = .returned (rcV (16 * (2 * u + 1) + 14)) ∧ Below w.heap.size w w' := by
  have hBl : ∀ q, Below w.heap.size w ((w.alloc (.cells #[.string ⟨#[79, 82, 65]⟩, .string ⟨#[65, 78, 68]⟩, .string ⟨#[69, 79, 82]⟩, .string ⟨#[65, 68, 67]⟩, .string ⟨#[83, 84, 65]⟩, .string ⟨#[76, 68, 65]⟩, .string ⟨#[67, 77, 80]⟩, .string ⟨#[83, 66, 67]⟩] 96)).drewN q) := fun q => below_drewN ((Below.refl _ w).alloc (Nat.le_refl _) _) q
  obtain ⟨N, hN⟩ : ∃ N, mkS (rnL (16 * (2 * u + 1) + 14)) = N := ⟨_, rfl⟩
  obtain ⟨L, hL⟩ : ∃ L, mkS ((opC (16 * (2 * u + 1) + 14)).drop 4) = L := ⟨_, rfl⟩
  unfold rcV
  rw [hN, hL]
  obtain ⟨B, hB⟩ : ∃ B : Int, ((16 * (2 * u + 1) + 14 : Nat) : Int) = B := ⟨_, rfl⟩
  have b0 : 0 ≤ B := by omega
  have hq : B.tdiv 16 = 2 * (u : Int) + 1 := by rw [Int.tdiv_eq_ediv_of_nonneg b0]; omega
  have hm : B.tmod 16 = 14 := by rw [Int.tmod_eq_emod_of_nonneg b0]; omega
  have hq1 : B / 16 = 2 * (u : Int) + 1 := by omega
  have hm1 : B % 16 = 14 := by omega
  have hq2 : (2 * (u : Int) + 1) / 2 = u := by omega
  have hm2 : (2 * (u : Int) + 1) % 2 = 1 := by omega
  have u0 : (0 : Int) ≤ u := by omega
  have u1 : (u : Int) < 8 := by omega
  have hT := fun W => rturns_11 u hu W
  unfold rcV at hT
  rw [hN, hL] at hT
  rw [hB]
  have HBl := Lib.hid hBl
  clear hB hN hBl
  try clear hL
  go_enter Tryd.func44, Tryd.ntmps44
  go_wp2_with fail
  refine (hT _).mono ?_
  rintro e w' ⟨rfl, rfl⟩
  go_wp2
  go_ret2
  exact ⟨rfl, HBl.out 0⟩
end Go.Proofs.YtleofglnlfpoeaaDoor
