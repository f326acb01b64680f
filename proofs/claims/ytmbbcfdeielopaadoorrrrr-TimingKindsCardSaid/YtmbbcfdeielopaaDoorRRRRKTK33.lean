/-
  Texts of these proofs, one behind the other: Rop4, Rop5.
-/
import Derived.Test.YtmbbcfdeielopaaDoorRRRRKTK32
import Derived.Test.YtmbbcfdeielopaaDoorRRRRKTK15
import Derived.BigQuiet
import Derived.WalkSmall
import Derived.BigGuard
import Derived.BigCall
import Derived.CellFam
import Derived.Deep.Draws
import Derived.Deep.QuietTactic
namespace Go.Proofs.YtmbbcfdeielopaaDoorRRRR
open Go.RowKit
set_option linter.unusedVariables false
set_option linter.unusedSimpArgs false
set_option maxRecDepth 100000
set_option maxHeartbeats 8000000 in
theorem rcell_0_0 (u : Nat) (hu : u < 8) (w : World) : Calls Tryd.prog 24 #[.int .u8 ((16 * (2 * u + 0) + 0 : Nat) : Int)] w fun e w' => e = .returned (rcV (16 * (2 * u + 0) + 0)) ∧ Below w.heap.size w w' := by
  have hBl : ∀ q, Below w.heap.size w ((w.alloc (.cells #[.string ⟨#[79, 82, 65]⟩, .string ⟨#[65, 78, 68]⟩, .string ⟨#[69, 79, 82]⟩, .string ⟨#[65, 68, 67]⟩, .string ⟨#[83, 84, 65]⟩, .string ⟨#[76, 68, 65]⟩, .string ⟨#[67, 77, 80]⟩, .string ⟨#[83, 66, 67]⟩] 87)).drewN q) := fun q => below_drewN ((Below.refl _ w).alloc (Nat.le_refl _) _) q
  obtain ⟨N, hN⟩ : ∃ N, mkS (rnL (16 * (2 * u + 0) + 0)) = N := ⟨_, rfl⟩
  obtain ⟨L, hL⟩ : ∃ L, mkS ((opC (16 * (2 * u + 0) + 0)).drop 4) = L := ⟨_, rfl⟩
  unfold rcV
  rw [hN, hL]
  obtain ⟨B, hB⟩ : ∃ B : Int, ((16 * (2 * u + 0) + 0 : Nat) : Int) = B := ⟨_, rfl⟩
  have b0 : 0 ≤ B := by omega
  have hq : B.tdiv 16 = 2 * (u : Int) := by rw [Int.tdiv_eq_ediv_of_nonneg b0]; omega
  have hm : B.tmod 16 = 0 := by rw [Int.tmod_eq_emod_of_nonneg b0]; omega
  have hq1 : B / 16 = 2 * (u : Int) := by omega
  have hm1 : B % 16 = 0 := by omega
  have hq2 : (2 * (u : Int)) / 2 = u := by omega
  have hm2 : (2 * (u : Int)) % 2 = 0 := by omega
  have u0 : (0 : Int) ≤ u := by omega
  have u1 : (u : Int) < 8 := by omega
  have hT := fun W => rcolumn0_any (2 * u + 0) (by omega) W
  rw [show ((2 * u + 0 : Nat) : Int) = 2 * (u : Int) by omega] at hT
  unfold rcV at hT
  rw [hN, hL] at hT
  rw [hB]
  have HBl := Lib.hid hBl
  clear hB hN hBl
  try clear hL
  go_enter Tryd.func24, Tryd.ntmps24
  go_wp2_with fail
  refine (hT _).mono ?_
  rintro e w' ⟨rfl, rfl⟩
  go_wp2
  go_ret2
  exact ⟨rfl, HBl.out 0⟩
set_option maxHeartbeats 8000000 in
theorem rcell_0_1 (u : Nat) (hu : u < 8) (w : World) : Calls Tryd.prog 24 #[.int .u8 ((16 * (2 * u + 1) + 0 : Nat) : Int)] w fun e w' => e = .returned (rcV (16 * (2 * u + 1) + 0)) ∧ Below w.heap.size w w' := by
  have hBl : ∀ q, Below w.heap.size w ((w.alloc (.cells #[.string ⟨#[79, 82, 65]⟩, .string ⟨#[65, 78, 68]⟩, .string ⟨#[69, 79, 82]⟩, .string ⟨#[65, 68, 67]⟩, .string ⟨#[83, 84, 65]⟩, .string ⟨#[76, 68, 65]⟩, .string ⟨#[67, 77, 80]⟩, .string ⟨#[83, 66, 67]⟩] 87)).drewN q) := fun q => below_drewN ((Below.refl _ w).alloc (Nat.le_refl _) _) q
  obtain ⟨N, hN⟩ : ∃ N, mkS (rnL (16 * (2 * u + 1) + 0)) = N := ⟨_, rfl⟩
  obtain ⟨L, hL⟩ : ∃ L, mkS ((opC (16 * (2 * u + 1) + 0)).drop 4) = L := ⟨_, rfl⟩
  unfold rcV
  rw [hN, hL]
  obtain ⟨B, hB⟩ : ∃ B : Int, ((16 * (2 * u + 1) + 0 : Nat) : Int) = B := ⟨_, rfl⟩
  have b0 : 0 ≤ B := by omega
  have hq : B.tdiv 16 = 2 * (u : Int) + 1 := by rw [Int.tdiv_eq_ediv_of_nonneg b0]; omega
  have hm : B.tmod 16 = 0 := by rw [Int.tmod_eq_emod_of_nonneg b0]; omega
  have hq1 : B / 16 = 2 * (u : Int) + 1 := by omega
  have hm1 : B % 16 = 0 := by omega
  have hq2 : (2 * (u : Int) + 1) / 2 = u := by omega
  have hm2 : (2 * (u : Int) + 1) % 2 = 1 := by omega
  have u0 : (0 : Int) ≤ u := by omega
  have u1 : (u : Int) < 8 := by omega
  have hT := fun W => rcolumn0_any (2 * u + 1) (by omega) W
  rw [show ((2 * u + 1 : Nat) : Int) = 2 * (u : Int) + 1 by omega] at hT
  unfold rcV at hT
  rw [hN, hL] at hT
  rw [hB]
  have HBl := Lib.hid hBl
  clear hB hN hBl
  try clear hL
  go_enter Tryd.func24, Tryd.ntmps24
  go_wp2_with fail
  refine (hT _).mono ?_
  rintro e w' ⟨rfl, rfl⟩
  go_wp2
  go_ret2
  exact ⟨rfl, HBl.out 0⟩
set_option maxHeartbeats 8000000 in
theorem rcell_3_0 (u : Nat) (hu : u < 8) (w : World) : Calls Tryd.prog 24 #[.int .u8 ((16 * (2 * u + 0) + 3 : Nat) : Int)] w fun e w' => e = .returned (rcV (16 * (2 * u + 0) + 3)) ∧ Below w.heap.size w w' := by
  have hBl : ∀ q, Below w.heap.size w ((w.alloc (.cells #[.string ⟨#[79, 82, 65]⟩, .string ⟨#[65, 78, 68]⟩, .string ⟨#[69, 79, 82]⟩, .string ⟨#[65, 68, 67]⟩, .string ⟨#[83, 84, 65]⟩, .string ⟨#[76, 68, 65]⟩, .string ⟨#[67, 77, 80]⟩, .string ⟨#[83, 66, 67]⟩] 87)).drewN q) := fun q => below_drewN ((Below.refl _ w).alloc (Nat.le_refl _) _) q
  obtain ⟨N, hN⟩ : ∃ N, mkS (rnL (16 * (2 * u + 0) + 3)) = N := ⟨_, rfl⟩
  obtain ⟨L, hL⟩ : ∃ L, mkS ((opC (16 * (2 * u + 0) + 3)).drop 4) = L := ⟨_, rfl⟩
  unfold rcV
  rw [hN, hL]
  obtain ⟨B, hB⟩ : ∃ B : Int, ((16 * (2 * u + 0) + 3 : Nat) : Int) = B := ⟨_, rfl⟩
  have b0 : 0 ≤ B := by omega
  have hq : B.tdiv 16 = 2 * (u : Int) := by rw [Int.tdiv_eq_ediv_of_nonneg b0]; omega
  have hm : B.tmod 16 = 3 := by rw [Int.tmod_eq_emod_of_nonneg b0]; omega
  have hq1 : B / 16 = 2 * (u : Int) := by omega
  have hm1 : B % 16 = 3 := by omega
  have hq2 : (2 * (u : Int)) / 2 = u := by omega
  have hm2 : (2 * (u : Int)) % 2 = 0 := by omega
  have u0 : (0 : Int) ≤ u := by omega
  have u1 : (u : Int) < 8 := by omega
  have hT := fun W => rcolumn3_any (2 * u + 0) (by omega) W
  rw [show ((2 * u + 0 : Nat) : Int) = 2 * (u : Int) by omega] at hT
  unfold rcV at hT
  rw [hN, hL] at hT
  rw [hB]
  have HBl := Lib.hid hBl
  clear hB hN hBl
  try clear hL
  go_enter Tryd.func24, Tryd.ntmps24
  go_wp2_with fail
  refine (hT _).mono ?_
  rintro e w' ⟨rfl, rfl⟩
  go_wp2
  go_ret2
  exact ⟨rfl, HBl.out 0⟩
set_option maxHeartbeats 8000000 in
theorem rcell_3_1 (u : Nat) (hu : u < 8) (w : World) : Calls Tryd.prog 24 #[.int .u8 ((16 * (2 * u + 1) + 3 : Nat) : Int)] w fun e w' => e = .returned (rcV (16 * (2 * u + 1) + 3)) ∧ Below w.heap.size w w' := by
  have hBl : ∀ q, Below w.heap.size w ((w.alloc (.cells #[.string ⟨#[79, 82, 65]⟩, .string ⟨#[65, 78, 68]⟩, .string ⟨#[69, 79, 82]⟩, .string ⟨#[65, 68, 67]⟩, .string ⟨#[83, 84, 65]⟩, .string ⟨#[76, 68, 65]⟩, .string ⟨#[67, 77, 80]⟩, .string ⟨#[83, 66, 67]⟩] 87)).drewN q) := fun q => below_drewN ((Below.refl _ w).alloc (Nat.le_refl _) _) q
  obtain ⟨N, hN⟩ : ∃ N, mkS (rnL (16 * (2 * u + 1) + 3)) = N := ⟨_, rfl⟩
  obtain ⟨L, hL⟩ : ∃ L, mkS ((opC (16 * (2 * u + 1) + 3)).drop 4) = L := ⟨_, rfl⟩
  unfold rcV
  rw [hN, hL]
  obtain ⟨B, hB⟩ : ∃ B : Int, ((16 * (2 * u + 1) + 3 : Nat) : Int) = B := ⟨_, rfl⟩
  have b0 : 0 ≤ B := by omega
  have hq : B.tdiv 16 = 2 * (u : Int) + 1 := by rw [Int.tdiv_eq_ediv_of_nonneg b0]; omega
  have hm : B.tmod 16 = 3 := by rw [Int.tmod_eq_emod_of_nonneg b0]; omega
  have hq1 : B / 16 = 2 * (u : Int) + 1 := by omega
  have hm1 : B % 16 = 3 := by omega
  have hq2 : (2 * (u : Int) + 1) / 2 = u := by omega
  have hm2 : (2 * (u : Int) + 1) % 2 = 1 := by omega
  have u0 : (0 : Int) ≤ u := by omega
  have u1 : (u : Int) < 8 := by omega
  have hT := fun W => rcolumn3_any (2 * u + 1) (by omega) W
  rw [show ((2 * u + 1 : Nat) : Int) = 2 * (u : Int) + 1 by omega] at hT
  unfold rcV at hT
  rw [hN, hL] at hT
  rw [hB]
  have HBl := Lib.hid hBl
  clear hB hN hBl
  try clear hL
  go_enter Tryd.func24, Tryd.ntmps24
  go_wp2_with fail
  refine (hT _).mono ?_
  rintro e w' ⟨rfl, rfl⟩
  go_wp2
  go_ret2
  exact ⟨rfl, HBl.out 0⟩
set_option maxHeartbeats 8000000 in
theorem rcell_4_0 (u : Nat) (hu : u < 8) (w : World) : Calls Tryd.prog 24 #[.int .u8 ((16 * (2 * u + 0) + 4 : Nat) : Int)] w fun e w' => e = .returned (rcV (16 * (2 * u + 0) + 4)) ∧ Below w.heap.size w w' := by
  have hBl : ∀ q, Below w.heap.size w ((w.alloc (.cells #[.string ⟨#[79, 82, 65]⟩, .string ⟨#[65, 78, 68]⟩, .string ⟨#[69, 79, 82]⟩, .string ⟨#[65, 68, 67]⟩, .string ⟨#[83, 84, 65]⟩, .string ⟨#[76, 68, 65]⟩, .string ⟨#[67, 77, 80]⟩, .string ⟨#[83, 66, 67]⟩] 87)).drewN q) := fun q => below_drewN ((Below.refl _ w).alloc (Nat.le_refl _) _) q
  obtain ⟨N, hN⟩ : ∃ N, mkS (rnL (16 * (2 * u + 0) + 4)) = N := ⟨_, rfl⟩
  obtain ⟨L, hL⟩ : ∃ L, mkS ((opC (16 * (2 * u + 0) + 4)).drop 4) = L := ⟨_, rfl⟩
  unfold rcV
  rw [hN, hL]
  obtain ⟨B, hB⟩ : ∃ B : Int, ((16 * (2 * u + 0) + 4 : Nat) : Int) = B := ⟨_, rfl⟩
  have b0 : 0 ≤ B := by omega
  have hq : B.tdiv 16 = 2 * (u : Int) := by rw [Int.tdiv_eq_ediv_of_nonneg b0]; omega
  have hm : B.tmod 16 = 4 := by rw [Int.tmod_eq_emod_of_nonneg b0]; omega
  have hq1 : B / 16 = 2 * (u : Int) := by omega
  have hm1 : B % 16 = 4 := by omega
  have hq2 : (2 * (u : Int)) / 2 = u := by omega
  have hm2 : (2 * (u : Int)) % 2 = 0 := by omega
  have u0 : (0 : Int) ≤ u := by omega
  have u1 : (u : Int) < 8 := by omega
  have hT := fun W => rcolumn4_any (2 * u + 0) (by omega) W
  rw [show ((2 * u + 0 : Nat) : Int) = 2 * (u : Int) by omega] at hT
  unfold rcV at hT
  rw [hN, hL] at hT
  rw [hB]
  have HBl := Lib.hid hBl
  clear hB hN hBl
  try clear hL
  go_enter Tryd.func24, Tryd.ntmps24
  go_wp2_with fail
  refine (hT _).mono ?_
  rintro e w' ⟨rfl, rfl⟩
  go_wp2
  go_ret2
  exact ⟨rfl, HBl.out 0⟩
set_option maxHeartbeats 8000000 in
theorem rcell_4_1 (u : Nat) (hu : u < 8) (w : World) : Calls Tryd.prog 24 #[.int .u8 ((16 * (2 * u + 1) + 4 : Nat) : Int)] w fun e w' => e = .returned (rcV (16 * (2 * u + 1) + 4)) ∧ Below w.heap.size w w' := by
  have hBl : ∀ q, Below w.heap.size w ((w.alloc (.cells #[.string ⟨#[79, 82, 65]⟩, .string ⟨#[65, 78, 68]⟩, .string ⟨#[69, 79, 82]⟩, .string ⟨#[65, 68, 67]⟩, .string ⟨#[83, 84, 65]⟩, .string ⟨#[76, 68, 65]⟩, .string ⟨#[67, 77, 80]⟩, .string ⟨#[83, 66, 67]⟩] 87)).drewN q) := fun q => below_drewN ((Below.refl _ w).alloc (Nat.le_refl _) _) q
  obtain ⟨N, hN⟩ : ∃ N, mkS (rnL (16 * (2 * u + 1) + 4)) = N := ⟨_, rfl⟩
  obtain ⟨L, hL⟩ : ∃ L, mkS ((opC (16 * (2 * u + 1) + 4)).drop 4) = L := ⟨_, rfl⟩
  unfold rcV
  rw [hN, hL]
  obtain ⟨B, hB⟩ : ∃ B : Int, ((16 * (2 * u + 1) + 4 : Nat) : Int) = B := ⟨_, rfl⟩
  have b0 : 0 ≤ B := by omega
  have hq : B.tdiv 16 = 2 * (u : Int) + 1 := by rw [Int.tdiv_eq_ediv_of_nonneg b0]; omega
  have hm : B.tmod 16 = 4 := by rw [Int.tmod_eq_emod_of_nonneg b0]; omega
  have hq1 : B / 16 = 2 * (u : Int) + 1 := by omega
  have hm1 : B % 16 = 4 := by omega
  have hq2 : (2 * (u : Int) + 1) / 2 = u := by omega
  have hm2 : (2 * (u : Int) + 1) % 2 = 1 := by omega
  have u0 : (0 : Int) ≤ u := by omega
  have u1 : (u : Int) < 8 := by omega
  have hT := fun W => rcolumn4_any (2 * u + 1) (by omega) W
  rw [show ((2 * u + 1 : Nat) : Int) = 2 * (u : Int) + 1 by omega] at hT
  unfold rcV at hT
  rw [hN, hL] at hT
  rw [hB]
  have HBl := Lib.hid hBl
  clear hB hN hBl
  try clear hL
  go_enter Tryd.func24, Tryd.ntmps24
  go_wp2_with fail
  refine (hT _).mono ?_
  rintro e w' ⟨rfl, rfl⟩
  go_wp2
  go_ret2
  exact ⟨rfl, HBl.out 0⟩
set_option maxHeartbeats 8000000 in
theorem rcell_6_0 (u : Nat) (hu : u < 8) (w : World) : Calls Tryd.prog 24 #[.int .u8 ((16 * (2 * u + 0) + 6 : Nat) : Int)] w fun e w' => e = .returned (rcV (16 * (2 * u + 0) + 6)) ∧ Below w.heap.size w w' := by
  have hBl : ∀ q, Below w.heap.size w ((w.alloc (.cells #[.string ⟨#[79, 82, 65]⟩, .string ⟨#[65, 78, 68]⟩, .string ⟨#[69, 79, 82]⟩, .string ⟨#[65, 68, 67]⟩, .string ⟨#[83, 84, 65]⟩, .string ⟨#[76, 68, 65]⟩, .string ⟨#[67, 77, 80]⟩, .string ⟨#[83, 66, 67]⟩] 87)).drewN q) := fun q => below_drewN ((Below.refl _ w).alloc (Nat.le_refl _) _) q
  obtain ⟨N, hN⟩ : ∃ N, mkS (rnL (16 * (2 * u + 0) + 6)) = N := ⟨_, rfl⟩
  obtain ⟨L, hL⟩ : ∃ L, mkS ((opC (16 * (2 * u + 0) + 6)).drop 4) = L := ⟨_, rfl⟩
  unfold rcV
  rw [hN, hL]
  obtain ⟨B, hB⟩ : ∃ B : Int, ((16 * (2 * u + 0) + 6 : Nat) : Int) = B := ⟨_, rfl⟩
  have b0 : 0 ≤ B := by omega
  have hq : B.tdiv 16 = 2 * (u : Int) := by rw [Int.tdiv_eq_ediv_of_nonneg b0]; omega
  have hm : B.tmod 16 = 6 := by rw [Int.tmod_eq_emod_of_nonneg b0]; omega
  have hq1 : B / 16 = 2 * (u : Int) := by omega
  have hm1 : B % 16 = 6 := by omega
  have hq2 : (2 * (u : Int)) / 2 = u := by omega
  have hm2 : (2 * (u : Int)) % 2 = 0 := by omega
  have u0 : (0 : Int) ≤ u := by omega
  have u1 : (u : Int) < 8 := by omega
  have hT := fun W => rturns_00 u hu W
  unfold rcV at hT
  rw [hN, hL] at hT
  rw [hB]
  have HBl := Lib.hid hBl
  clear hB hN hBl
  try clear hL
  go_enter Tryd.func24, Tryd.ntmps24
  go_wp2_with fail
  refine (hT _).mono ?_
  rintro e w' ⟨rfl, rfl⟩
  go_wp2
  go_ret2
  exact ⟨rfl, HBl.out 0⟩
set_option maxHeartbeats 8000000 in
theorem rcell_6_1 (u : Nat) (hu : u < 8) (w : World) : Calls Tryd.prog 24 #[.int .u8 ((16 * (2 * u + 1) + 6 : Nat) : Int)] w fun e w' => e = .returned (rcV (16 * (2 * u + 1) + 6)) ∧ Below w.heap.size w w' := by
  have hBl : ∀ q, Below w.heap.size w ((w.alloc (.cells #[.string ⟨#[79, 82, 65]⟩, .string ⟨#[65, 78, 68]⟩, .string ⟨#[69, 79, 82]⟩, .string ⟨#[65, 68, 67]⟩, .string ⟨#[83, 84, 65]⟩, .string ⟨#[76, 68, 65]⟩, .string ⟨#[67, 77, 80]⟩, .string ⟨#[83, 66, 67]⟩] 87)).drewN q) := fun q => below_drewN ((Below.refl _ w).alloc (Nat.le_refl _) _) q
  obtain ⟨N, hN⟩ : ∃ N, mkS (rnL (16 * (2 * u + 1) + 6)) = N := ⟨_, rfl⟩
  obtain ⟨L, hL⟩ : ∃ L, mkS ((opC (16 * (2 * u + 1) + 6)).drop 4) = L := ⟨_, rfl⟩
  unfold rcV
  rw [hN, hL]
  obtain ⟨B, hB⟩ : ∃ B : Int, ((16 * (2 * u + 1) + 6 : Nat) : Int) = B := ⟨_, rfl⟩
  have b0 : 0 ≤ B := by omega
  have hq : B.tdiv 16 = 2 * (u : Int) + 1 := by rw [Int.tdiv_eq_ediv_of_nonneg b0]; omega
  have hm : B.tmod 16 = 6 := by rw [Int.tmod_eq_emod_of_nonneg b0]; omega
  have hq1 : B / 16 = 2 * (u : Int) + 1 := by omega
  have hm1 : B % 16 = 6 := by omega
  have hq2 : (2 * (u : Int) + 1) / 2 = u := by omega
  have hm2 : (2 * (u : Int) + 1) % 2 = 1 := by omega
  have u0 : (0 : Int) ≤ u := by omega
  have u1 : (u : Int) < 8 := by omega
  have hT := fun W => rturns_10 u hu W
  unfold rcV at hT
  rw [hN, hL] at hT
  rw [hB]
  have HBl := Lib.hid hBl
  clear hB hN hBl
  try clear hL
  go_enter Tryd.func24, Tryd.ntmps24
  go_wp2_with fail
  refine (hT _).mono ?_
  rintro e w' ⟨rfl, rfl⟩
  go_wp2
  go_ret2
  exact ⟨rfl, HBl.out 0⟩
set_option maxHeartbeats 8000000 in
theorem rcell_8_0 (u : Nat) (hu : u < 8) (w : World) : Calls Tryd.prog 24 #[.int .u8 ((16 * (2 * u + 0) + 8 : Nat) : Int)] w fun e w' => e = .returned (rcV (16 * (2 * u + 0) + 8)) ∧ Below w.heap.size w w' := by
  have hBl : ∀ q, Below w.heap.size w ((w.alloc (.cells #[.string ⟨#[79, 82, 65]⟩, .string ⟨#[65, 78, 68]⟩, .string ⟨#[69, 79, 82]⟩, .string ⟨#[65, 68, 67]⟩, .string ⟨#[83, 84, 65]⟩, .string ⟨#[76, 68, 65]⟩, .string ⟨#[67, 77, 80]⟩, .string ⟨#[83, 66, 67]⟩] 87)).drewN q) := fun q => below_drewN ((Below.refl _ w).alloc (Nat.le_refl _) _) q
  obtain ⟨N, hN⟩ : ∃ N, mkS (rnL (16 * (2 * u + 0) + 8)) = N := ⟨_, rfl⟩
  obtain ⟨L, hL⟩ : ∃ L, mkS ((opC (16 * (2 * u + 0) + 8)).drop 4) = L := ⟨_, rfl⟩
  unfold rcV
  rw [hN, hL]
  obtain ⟨B, hB⟩ : ∃ B : Int, ((16 * (2 * u + 0) + 8 : Nat) : Int) = B := ⟨_, rfl⟩
  have b0 : 0 ≤ B := by omega
  have hq : B.tdiv 16 = 2 * (u : Int) := by rw [Int.tdiv_eq_ediv_of_nonneg b0]; omega
  have hm : B.tmod 16 = 8 := by rw [Int.tmod_eq_emod_of_nonneg b0]; omega
  have hq1 : B / 16 = 2 * (u : Int) := by omega
  have hm1 : B % 16 = 8 := by omega
  have hq2 : (2 * (u : Int)) / 2 = u := by omega
  have hm2 : (2 * (u : Int)) % 2 = 0 := by omega
  have u0 : (0 : Int) ≤ u := by omega
  have u1 : (u : Int) < 8 := by omega
  have hT : ∀ W : World, (Instr.index 91 (.agg #[.string ⟨#[80, 72, 80]⟩, .string ⟨#[67, 76, 67]⟩, .string ⟨#[80, 76, 80]⟩, .string ⟨#[83, 69, 67]⟩, .string ⟨#[80, 72, 65]⟩, .string ⟨#[67, 76, 73]⟩, .string ⟨#[80, 76, 65]⟩, .string ⟨#[83, 69, 73]⟩, .string ⟨#[68, 69, 89]⟩, .string ⟨#[84, 89, 65]⟩, .string ⟨#[84, 65, 89]⟩, .string ⟨#[67, 76, 86]⟩, .string ⟨#[73, 78, 89]⟩, .string ⟨#[67, 76, 68]⟩, .string ⟨#[73, 78, 88]⟩, .string ⟨#[83, 69, 68]⟩]) (.int .i64 (2 * (u : Int)))).run Tryd.prog W = .ok (.string N) W := fun W => by
    have := idx_agg Tryd.underlying91 (by kernel_rfl) #[.string ⟨#[80, 72, 80]⟩, .string ⟨#[67, 76, 67]⟩, .string ⟨#[80, 76, 80]⟩, .string ⟨#[83, 69, 67]⟩, .string ⟨#[80, 72, 65]⟩, .string ⟨#[67, 76, 73]⟩, .string ⟨#[80, 76, 65]⟩, .string ⟨#[83, 69, 73]⟩, .string ⟨#[68, 69, 89]⟩, .string ⟨#[84, 89, 65]⟩, .string ⟨#[84, 65, 89]⟩, .string ⟨#[67, 76, 86]⟩, .string ⟨#[73, 78, 89]⟩, .string ⟨#[67, 76, 68]⟩, .string ⟨#[73, 78, 88]⟩, .string ⟨#[83, 69, 68]⟩] (2 * u + 0) (by omega) (.string N) (by rw [← hN]; clear hN hL; rcases lt8 hu with rfl | rfl | rfl | rfl | rfl | rfl | rfl | rfl <;> kernel_rfl) W
    rwa [show ((2 * u + 0 : Nat) : Int) = 2 * (u : Int) by omega] at this
  obtain rfl : L = ⟨#[46, 46]⟩ := by rw [← hL]; clear hL; rcases lt8 hu with rfl | rfl | rfl | rfl | rfl | rfl | rfl | rfl <;> kernel_rfl
  rw [hB]
  have HBl := Lib.hid hBl
  clear hB hN hBl
  try clear hL
  go_enter Tryd.func24, Tryd.ntmps24
  go_wp2
  go_ret2
  exact ⟨rfl, HBl.out 0⟩
set_option maxHeartbeats 8000000 in
theorem rcell_8_1 (u : Nat) (hu : u < 8) (w : World) : Calls Tryd.prog 24 #[.int .u8 ((16 * (2 * u + 1) + 8 : Nat) : Int)] w fun e w' => e = .returned (rcV (16 * (2 * u + 1) + 8)) ∧ Below w.heap.size w w' := by
  have hBl : ∀ q, Below w.heap.size w ((w.alloc (.cells #[.string ⟨#[79, 82, 65]⟩, .string ⟨#[65, 78, 68]⟩, .string ⟨#[69, 79, 82]⟩, .string ⟨#[65, 68, 67]⟩, .string ⟨#[83, 84, 65]⟩, .string ⟨#[76, 68, 65]⟩, .string ⟨#[67, 77, 80]⟩, .string ⟨#[83, 66, 67]⟩] 87)).drewN q) := fun q => below_drewN ((Below.refl _ w).alloc (Nat.le_refl _) _) q
  obtain ⟨N, hN⟩ : ∃ N, mkS (rnL (16 * (2 * u + 1) + 8)) = N := ⟨_, rfl⟩
  obtain ⟨L, hL⟩ : ∃ L, mkS ((opC (16 * (2 * u + 1) + 8)).drop 4) = L := ⟨_, rfl⟩
  unfold rcV
  rw [hN, hL]
  obtain ⟨B, hB⟩ : ∃ B : Int, ((16 * (2 * u + 1) + 8 : Nat) : Int) = B := ⟨_, rfl⟩
  have b0 : 0 ≤ B := by omega
  have hq : B.tdiv 16 = 2 * (u : Int) + 1 := by rw [Int.tdiv_eq_ediv_of_nonneg b0]; omega
  have hm : B.tmod 16 = 8 := by rw [Int.tmod_eq_emod_of_nonneg b0]; omega
  have hq1 : B / 16 = 2 * (u : Int) + 1 := by omega
  have hm1 : B % 16 = 8 := by omega
  have hq2 : (2 * (u : Int) + 1) / 2 = u := by omega
  have hm2 : (2 * (u : Int) + 1) % 2 = 1 := by omega
  have u0 : (0 : Int) ≤ u := by omega
  have u1 : (u : Int) < 8 := by omega
  have hT : ∀ W : World, (Instr.index 91 (.agg #[.string ⟨#[80, 72, 80]⟩, .string ⟨#[67, 76, 67]⟩, .string ⟨#[80, 76, 80]⟩, .string ⟨#[83, 69, 67]⟩, .string ⟨#[80, 72, 65]⟩, .string ⟨#[67, 76, 73]⟩, .string ⟨#[80, 76, 65]⟩, .string ⟨#[83, 69, 73]⟩, .string ⟨#[68, 69, 89]⟩, .string ⟨#[84, 89, 65]⟩, .string ⟨#[84, 65, 89]⟩, .string ⟨#[67, 76, 86]⟩, .string ⟨#[73, 78, 89]⟩, .string ⟨#[67, 76, 68]⟩, .string ⟨#[73, 78, 88]⟩, .string ⟨#[83, 69, 68]⟩]) (.int .i64 (2 * (u : Int) + 1))).run Tryd.prog W = .ok (.string N) W := fun W => by
    have := idx_agg Tryd.underlying91 (by kernel_rfl) #[.string ⟨#[80, 72, 80]⟩, .string ⟨#[67, 76, 67]⟩, .string ⟨#[80, 76, 80]⟩, .string ⟨#[83, 69, 67]⟩, .string ⟨#[80, 72, 65]⟩, .string ⟨#[67, 76, 73]⟩, .string ⟨#[80, 76, 65]⟩, .string ⟨#[83, 69, 73]⟩, .string ⟨#[68, 69, 89]⟩, .string ⟨#[84, 89, 65]⟩, .string ⟨#[84, 65, 89]⟩, .string ⟨#[67, 76, 86]⟩, .string ⟨#[73, 78, 89]⟩, .string ⟨#[67, 76, 68]⟩, .string ⟨#[73, 78, 88]⟩, .string ⟨#[83, 69, 68]⟩] (2 * u + 1) (by omega) (.string N) (by rw [← hN]; clear hN hL; rcases lt8 hu with rfl | rfl | rfl | rfl | rfl | rfl | rfl | rfl <;> kernel_rfl) W
    rwa [show ((2 * u + 1 : Nat) : Int) = 2 * (u : Int) + 1 by omega] at this
  obtain rfl : L = ⟨#[46, 46]⟩ := by rw [← hL]; clear hL; rcases lt8 hu with rfl | rfl | rfl | rfl | rfl | rfl | rfl | rfl <;> kernel_rfl
  rw [hB]
  have HBl := Lib.hid hBl
  clear hB hN hBl
  try clear hL
  go_enter Tryd.func24, Tryd.ntmps24
  go_wp2
  go_ret2
  exact ⟨rfl, HBl.out 0⟩
set_option maxHeartbeats 8000000 in
theorem rcell_10_0 (u : Nat) (hu : u < 8) (w : World) : Calls Tryd.prog 24 #[.int .u8 ((16 * (2 * u + 0) + 10 : Nat) : Int)] w fun e w' => e = .returned (rcV (16 * (2 * u + 0) + 10)) ∧ Below w.heap.size w w' := by
  have hBl : ∀ q, Below w.heap.size w ((w.alloc (.cells #[.string ⟨#[79, 82, 65]⟩, .string ⟨#[65, 78, 68]⟩, .string ⟨#[69, 79, 82]⟩, .string ⟨#[65, 68, 67]⟩, .string ⟨#[83, 84, 65]⟩, .string ⟨#[76, 68, 65]⟩, .string ⟨#[67, 77, 80]⟩, .string ⟨#[83, 66, 67]⟩] 87)).drewN q) := fun q => below_drewN ((Below.refl _ w).alloc (Nat.le_refl _) _) q
  obtain ⟨N, hN⟩ : ∃ N, mkS (rnL (16 * (2 * u + 0) + 10)) = N := ⟨_, rfl⟩
  obtain ⟨L, hL⟩ : ∃ L, mkS ((opC (16 * (2 * u + 0) + 10)).drop 4) = L := ⟨_, rfl⟩
  unfold rcV
  rw [hN, hL]
  obtain ⟨B, hB⟩ : ∃ B : Int, ((16 * (2 * u + 0) + 10 : Nat) : Int) = B := ⟨_, rfl⟩
  have b0 : 0 ≤ B := by omega
  have hq : B.tdiv 16 = 2 * (u : Int) := by rw [Int.tdiv_eq_ediv_of_nonneg b0]; omega
  have hm : B.tmod 16 = 10 := by rw [Int.tmod_eq_emod_of_nonneg b0]; omega
  have hq1 : B / 16 = 2 * (u : Int) := by omega
  have hm1 : B % 16 = 10 := by omega
  have hq2 : (2 * (u : Int)) / 2 = u := by omega
  have hm2 : (2 * (u : Int)) % 2 = 0 := by omega
  have u0 : (0 : Int) ≤ u := by omega
  have u1 : (u : Int) < 8 := by omega
  have hT : ∀ W : World, (Instr.index 91 (.agg #[.string ⟨#[65, 83, 76]⟩, .string ⟨#[73, 78, 67]⟩, .string ⟨#[82, 79, 76]⟩, .string ⟨#[68, 69, 67]⟩, .string ⟨#[76, 83, 82]⟩, .string ⟨#[80, 72, 89]⟩, .string ⟨#[82, 79, 82]⟩, .string ⟨#[80, 76, 89]⟩, .string ⟨#[84, 88, 65]⟩, .string ⟨#[84, 88, 83]⟩, .string ⟨#[84, 65, 88]⟩, .string ⟨#[84, 83, 88]⟩, .string ⟨#[68, 69, 88]⟩, .string ⟨#[80, 72, 88]⟩, .string ⟨#[78, 79, 80]⟩, .string ⟨#[80, 76, 88]⟩]) (.int .i64 (2 * (u : Int)))).run Tryd.prog W = .ok (.string N) W := fun W => by
    have := idx_agg Tryd.underlying91 (by kernel_rfl) #[.string ⟨#[65, 83, 76]⟩, .string ⟨#[73, 78, 67]⟩, .string ⟨#[82, 79, 76]⟩, .string ⟨#[68, 69, 67]⟩, .string ⟨#[76, 83, 82]⟩, .string ⟨#[80, 72, 89]⟩, .string ⟨#[82, 79, 82]⟩, .string ⟨#[80, 76, 89]⟩, .string ⟨#[84, 88, 65]⟩, .string ⟨#[84, 88, 83]⟩, .string ⟨#[84, 65, 88]⟩, .string ⟨#[84, 83, 88]⟩, .string ⟨#[68, 69, 88]⟩, .string ⟨#[80, 72, 88]⟩, .string ⟨#[78, 79, 80]⟩, .string ⟨#[80, 76, 88]⟩] (2 * u + 0) (by omega) (.string N) (by rw [← hN]; clear hN hL; rcases lt8 hu with rfl | rfl | rfl | rfl | rfl | rfl | rfl | rfl <;> kernel_rfl) W
    rwa [show ((2 * u + 0 : Nat) : Int) = 2 * (u : Int) by omega] at this
  obtain rfl : L = ⟨#[46, 46]⟩ := by rw [← hL]; clear hL; rcases lt8 hu with rfl | rfl | rfl | rfl | rfl | rfl | rfl | rfl <;> kernel_rfl
  rw [hB]
  have HBl := Lib.hid hBl
  clear hB hN hBl
  try clear hL
  go_enter Tryd.func24, Tryd.ntmps24
  go_wp2
  go_ret2
  exact ⟨rfl, HBl.out 0⟩
set_option maxHeartbeats 8000000 in
theorem rcell_10_1 (u : Nat) (hu : u < 8) (w : World) : Calls Tryd.prog 24 #[.int .u8 ((16 * (2 * u + 1) + 10 : Nat) : Int)] w fun e w' => e = .returned (rcV (16 * (2 * u + 1) + 10)) ∧ Below w.heap.size w w' := by
  have hBl : ∀ q, Below w.heap.size w ((w.alloc (.cells #[.string ⟨#[79, 82, 65]⟩, .string ⟨#[65, 78, 68]⟩, .string ⟨#[69, 79, 82]⟩, .string ⟨#[65, 68, 67]⟩, .string ⟨#[83, 84, 65]⟩, .string ⟨#[76, 68, 65]⟩, .string ⟨#[67, 77, 80]⟩, .string ⟨#[83, 66, 67]⟩] 87)).drewN q) := fun q => below_drewN ((Below.refl _ w).alloc (Nat.le_refl _) _) q
  obtain ⟨N, hN⟩ : ∃ N, mkS (rnL (16 * (2 * u + 1) + 10)) = N := ⟨_, rfl⟩
  obtain ⟨L, hL⟩ : ∃ L, mkS ((opC (16 * (2 * u + 1) + 10)).drop 4) = L := ⟨_, rfl⟩
  unfold rcV
  rw [hN, hL]
  obtain ⟨B, hB⟩ : ∃ B : Int, ((16 * (2 * u + 1) + 10 : Nat) : Int) = B := ⟨_, rfl⟩
  have b0 : 0 ≤ B := by omega
  have hq : B.tdiv 16 = 2 * (u : Int) + 1 := by rw [Int.tdiv_eq_ediv_of_nonneg b0]; omega
  have hm : B.tmod 16 = 10 := by rw [Int.tmod_eq_emod_of_nonneg b0]; omega
  have hq1 : B / 16 = 2 * (u : Int) + 1 := by omega
  have hm1 : B % 16 = 10 := by omega
  have hq2 : (2 * (u : Int) + 1) / 2 = u := by omega
  have hm2 : (2 * (u : Int) + 1) % 2 = 1 := by omega
  have u0 : (0 : Int) ≤ u := by omega
  have u1 : (u : Int) < 8 := by omega
  have hT : ∀ W : World, (Instr.index 91 (.agg #[.string ⟨#[65, 83, 76]⟩, .string ⟨#[73, 78, 67]⟩, .string ⟨#[82, 79, 76]⟩, .string ⟨#[68, 69, 67]⟩, .string ⟨#[76, 83, 82]⟩, .string ⟨#[80, 72, 89]⟩, .string ⟨#[82, 79, 82]⟩, .string ⟨#[80, 76, 89]⟩, .string ⟨#[84, 88, 65]⟩, .string ⟨#[84, 88, 83]⟩, .string ⟨#[84, 65, 88]⟩, .string ⟨#[84, 83, 88]⟩, .string ⟨#[68, 69, 88]⟩, .string ⟨#[80, 72, 88]⟩, .string ⟨#[78, 79, 80]⟩, .string ⟨#[80, 76, 88]⟩]) (.int .i64 (2 * (u : Int) + 1))).run Tryd.prog W = .ok (.string N) W := fun W => by
    have := idx_agg Tryd.underlying91 (by kernel_rfl) #[.string ⟨#[65, 83, 76]⟩, .string ⟨#[73, 78, 67]⟩, .string ⟨#[82, 79, 76]⟩, .string ⟨#[68, 69, 67]⟩, .string ⟨#[76, 83, 82]⟩, .string ⟨#[80, 72, 89]⟩, .string ⟨#[82, 79, 82]⟩, .string ⟨#[80, 76, 89]⟩, .string ⟨#[84, 88, 65]⟩, .string ⟨#[84, 88, 83]⟩, .string ⟨#[84, 65, 88]⟩, .string ⟨#[84, 83, 88]⟩, .string ⟨#[68, 69, 88]⟩, .string ⟨#[80, 72, 88]⟩, .string ⟨#[78, 79, 80]⟩, .string ⟨#[80, 76, 88]⟩] (2 * u + 1) (by omega) (.string N) (by rw [← hN]; clear hN hL; rcases lt8 hu with rfl | rfl | rfl | rfl | rfl | rfl | rfl | rfl <;> kernel_rfl) W
    rwa [show ((2 * u + 1 : Nat) : Int) = 2 * (u : Int) + 1 by omega] at this
  obtain rfl : L = ⟨#[46, 46]⟩ := by rw [← hL]; clear hL; rcases lt8 hu with rfl | rfl | rfl | rfl | rfl | rfl | rfl | rfl <;> kernel_rfl
  rw [hB]
  have HBl := Lib.hid hBl
  clear hB hN hBl
  try clear hL
  go_enter Tryd.func24, Tryd.ntmps24
  go_wp2
  go_ret2
  exact ⟨rfl, HBl.out 0⟩
set_option maxHeartbeats 8000000 in
theorem rcell_11_0 (u : Nat) (hu : u < 8) (w : World) : Calls Tryd.prog 24 #[.int .u8 ((16 * (2 * u + 0) + 11 : Nat) : Int)] w fun e w' => e = .returned (rcV (16 * (2 * u + 0) + 11)) ∧ Below w.heap.size w w' := by
  have hBl : ∀ q, Below w.heap.size w ((w.alloc (.cells #[.string ⟨#[79, 82, 65]⟩, .string ⟨#[65, 78, 68]⟩, .string ⟨#[69, 79, 82]⟩, .string ⟨#[65, 68, 67]⟩, .string ⟨#[83, 84, 65]⟩, .string ⟨#[76, 68, 65]⟩, .string ⟨#[67, 77, 80]⟩, .string ⟨#[83, 66, 67]⟩] 87)).drewN q) := fun q => below_drewN ((Below.refl _ w).alloc (Nat.le_refl _) _) q
  obtain ⟨N, hN⟩ : ∃ N, mkS (rnL (16 * (2 * u + 0) + 11)) = N := ⟨_, rfl⟩
  obtain ⟨L, hL⟩ : ∃ L, mkS ((opC (16 * (2 * u + 0) + 11)).drop 4) = L := ⟨_, rfl⟩
  unfold rcV
  rw [hN, hL]
  obtain ⟨B, hB⟩ : ∃ B : Int, ((16 * (2 * u + 0) + 11 : Nat) : Int) = B := ⟨_, rfl⟩
  have b0 : 0 ≤ B := by omega
  have hq : B.tdiv 16 = 2 * (u : Int) := by rw [Int.tdiv_eq_ediv_of_nonneg b0]; omega
  have hm : B.tmod 16 = 11 := by rw [Int.tmod_eq_emod_of_nonneg b0]; omega
  have hq1 : B / 16 = 2 * (u : Int) := by omega
  have hm1 : B % 16 = 11 := by omega
  have hq2 : (2 * (u : Int)) / 2 = u := by omega
  have hm2 : (2 * (u : Int)) % 2 = 0 := by omega
  have u0 : (0 : Int) ≤ u := by omega
  have u1 : (u : Int) < 8 := by omega
  obtain rfl : N = ⟨#[]⟩ := by rw [← hN]; clear hN hL; rcases lt8 hu with rfl | rfl | rfl | rfl | rfl | rfl | rfl | rfl <;> kernel_rfl
  obtain rfl : L = ⟨#[46, 46]⟩ := by rw [← hL]; clear hL; rcases lt8 hu with rfl | rfl | rfl | rfl | rfl | rfl | rfl | rfl <;> kernel_rfl
  rw [hB]
  have HBl := Lib.hid hBl
  clear hB hN hBl
  try clear hL
  go_enter Tryd.func24, Tryd.ntmps24
  go_wp2
  go_ret2
  exact ⟨rfl, HBl.out 0⟩
set_option maxHeartbeats 8000000 in
theorem rcell_11_1 (u : Nat) (hu : u < 8) (w : World) : Calls Tryd.prog 24 #[.int .u8 ((16 * (2 * u + 1) + 11 : Nat) : Int)] w fun e w' => e = .returned (rcV (16 * (2 * u + 1) + 11)) ∧ Below w.heap.size w w' := by
  have hBl : ∀ q, Below w.heap.size w ((w.alloc (.cells #[.string ⟨#[79, 82, 65]⟩, .string ⟨#[65, 78, 68]⟩, .string ⟨#[69, 79, 82]⟩, .string ⟨#[65, 68, 67]⟩, .string ⟨#[83, 84, 65]⟩, .string ⟨#[76, 68, 65]⟩, .string ⟨#[67, 77, 80]⟩, .string ⟨#[83, 66, 67]⟩] 87)).drewN q) := fun q => below_drewN ((Below.refl _ w).alloc (Nat.le_refl _) _) q
  obtain ⟨N, hN⟩ : ∃ N, mkS (rnL (16 * (2 * u + 1) + 11)) = N := ⟨_, rfl⟩
  obtain ⟨L, hL⟩ : ∃ L, mkS ((opC (16 * (2 * u + 1) + 11)).drop 4) = L := ⟨_, rfl⟩
  unfold rcV
  rw [hN, hL]
  obtain ⟨B, hB⟩ : ∃ B : Int, ((16 * (2 * u + 1) + 11 : Nat) : Int) = B := ⟨_, rfl⟩
  have b0 : 0 ≤ B := by omega
  have hq : B.tdiv 16 = 2 * (u : Int) + 1 := by rw [Int.tdiv_eq_ediv_of_nonneg b0]; omega
  have hm : B.tmod 16 = 11 := by rw [Int.tmod_eq_emod_of_nonneg b0]; omega
  have hq1 : B / 16 = 2 * (u : Int) + 1 := by omega
  have hm1 : B % 16 = 11 := by omega
  have hq2 : (2 * (u : Int) + 1) / 2 = u := by omega
  have hm2 : (2 * (u : Int) + 1) % 2 = 1 := by omega
  have u0 : (0 : Int) ≤ u := by omega
  have u1 : (u : Int) < 8 := by omega
  obtain rfl : N = ⟨#[]⟩ := by rw [← hN]; clear hN hL; rcases lt8 hu with rfl | rfl | rfl | rfl | rfl | rfl | rfl | rfl <;> kernel_rfl
  obtain rfl : L = ⟨#[46, 46]⟩ := by rw [← hL]; clear hL; rcases lt8 hu with rfl | rfl | rfl | rfl | rfl | rfl | rfl | rfl <;> kernel_rfl
  rw [hB]
  have HBl := Lib.hid hBl
  clear hB hN hBl
  try clear hL
  go_enter Tryd.func24, Tryd.ntmps24
  go_wp2
  go_ret2
  exact ⟨rfl, HBl.out 0⟩
set_option maxHeartbeats 8000000 in
theorem rcell_12_0 (u : Nat) (hu : u < 8) (w : World) : Calls Tryd.prog 24 #[.int .u8 ((16 * (2 * u + 0) + 12 : Nat) : Int)] w fun e w' => e = .returned (rcV (16 * (2 * u + 0) + 12)) ∧ Below w.heap.size w w' := by
  have hBl : ∀ q, Below w.heap.size w ((w.alloc (.cells #[.string ⟨#[79, 82, 65]⟩, .string ⟨#[65, 78, 68]⟩, .string ⟨#[69, 79, 82]⟩, .string ⟨#[65, 68, 67]⟩, .string ⟨#[83, 84, 65]⟩, .string ⟨#[76, 68, 65]⟩, .string ⟨#[67, 77, 80]⟩, .string ⟨#[83, 66, 67]⟩] 87)).drewN q) := fun q => below_drewN ((Below.refl _ w).alloc (Nat.le_refl _) _) q
  obtain ⟨N, hN⟩ : ∃ N, mkS (rnL (16 * (2 * u + 0) + 12)) = N := ⟨_, rfl⟩
  obtain ⟨L, hL⟩ : ∃ L, mkS ((opC (16 * (2 * u + 0) + 12)).drop 4) = L := ⟨_, rfl⟩
  unfold rcV
  rw [hN, hL]
  obtain ⟨B, hB⟩ : ∃ B : Int, ((16 * (2 * u + 0) + 12 : Nat) : Int) = B := ⟨_, rfl⟩
  have b0 : 0 ≤ B := by omega
  have hq : B.tdiv 16 = 2 * (u : Int) := by rw [Int.tdiv_eq_ediv_of_nonneg b0]; omega
  have hm : B.tmod 16 = 12 := by rw [Int.tmod_eq_emod_of_nonneg b0]; omega
  have hq1 : B / 16 = 2 * (u : Int) := by omega
  have hm1 : B % 16 = 12 := by omega
  have hq2 : (2 * (u : Int)) / 2 = u := by omega
  have hm2 : (2 * (u : Int)) % 2 = 0 := by omega
  have u0 : (0 : Int) ≤ u := by omega
  have u1 : (u : Int) < 8 := by omega
  have hT := fun W => rcolumn12_any (2 * u + 0) (by omega) W
  rw [show ((2 * u + 0 : Nat) : Int) = 2 * (u : Int) by omega] at hT
  unfold rcV at hT
  rw [hN, hL] at hT
  rw [hB]
  have HBl := Lib.hid hBl
  clear hB hN hBl
  try clear hL
  go_enter Tryd.func24, Tryd.ntmps24
  go_wp2_with fail
  refine (hT _).mono ?_
  rintro e w' ⟨rfl, rfl⟩
  go_wp2
  go_ret2
  exact ⟨rfl, HBl.out 0⟩
set_option maxHeartbeats 8000000 in
theorem rcell_12_1 (u : Nat) (hu : u < 8) (w : World) : Calls Tryd.prog 24 #[.int .u8 ((16 * (2 * u + 1) + 12 : Nat) : Int)] w fun e w' => e = .returned (rcV (16 * (2 * u + 1) + 12)) ∧ Below w.heap.size w w' := by
  have hBl : ∀ q, Below w.heap.size w ((w.alloc (.cells #[.string ⟨#[79, 82, 65]⟩, .string ⟨#[65, 78, 68]⟩, .string ⟨#[69, 79, 82]⟩, .string ⟨#[65, 68, 67]⟩, .string ⟨#[83, 84, 65]⟩, .string ⟨#[76, 68, 65]⟩, .string ⟨#[67, 77, 80]⟩, .string ⟨#[83, 66, 67]⟩] 87)).drewN q) := fun q => below_drewN ((Below.refl _ w).alloc (Nat.le_refl _) _) q
  obtain ⟨N, hN⟩ : ∃ N, mkS (rnL (16 * (2 * u + 1) + 12)) = N := ⟨_, rfl⟩
  obtain ⟨L, hL⟩ : ∃ L, mkS ((opC (16 * (2 * u + 1) + 12)).drop 4) = L := ⟨_, rfl⟩
  unfold rcV
  rw [hN, hL]
  obtain ⟨B, hB⟩ : ∃ B : Int, ((16 * (2 * u + 1) + 12 : Nat) : Int) = B := ⟨_, rfl⟩
  have b0 : 0 ≤ B := by omega
  have hq : B.tdiv 16 = 2 * (u : Int) + 1 := by rw [Int.tdiv_eq_ediv_of_nonneg b0]; omega
  have hm : B.tmod 16 = 12 := by rw [Int.tmod_eq_emod_of_nonneg b0]; omega
  have hq1 : B / 16 = 2 * (u : Int) + 1 := by omega
  have hm1 : B % 16 = 12 := by omega
  have hq2 : (2 * (u : Int) + 1) / 2 = u := by omega
  have hm2 : (2 * (u : Int) + 1) % 2 = 1 := by omega
  have u0 : (0 : Int) ≤ u := by omega
  have u1 : (u : Int) < 8 := by omega
  have hT := fun W => rcolumn12_any (2 * u + 1) (by omega) W
  rw [show ((2 * u + 1 : Nat) : Int) = 2 * (u : Int) + 1 by omega] at hT
  unfold rcV at hT
  rw [hN, hL] at hT
  rw [hB]
  have HBl := Lib.hid hBl
  clear hB hN hBl
  try clear hL
  go_enter Tryd.func24, Tryd.ntmps24
  go_wp2_with fail
  refine (hT _).mono ?_
  rintro e w' ⟨rfl, rfl⟩
  go_wp2
  go_ret2
  exact ⟨rfl, HBl.out 0⟩
set_option maxHeartbeats 8000000 in
theorem rcell_14_0 (u : Nat) (hu : u < 8) (w : World) : Calls Tryd.prog 24 #[.int .u8 ((16 * (2 * u + 0) + 14 : Nat) : Int)] w fun e w' => e = .returned (rcV (16 * (2 * u + 0) + 14)) ∧ Below w.heap.size w w' := by
  have hBl : ∀ q, Below w.heap.size w ((w.alloc (.cells #[.string ⟨#[79, 82, 65]⟩, .string ⟨#[65, 78, 68]⟩, .string ⟨#[69, 79, 82]⟩, .string ⟨#[65, 68, 67]⟩, .string ⟨#[83, 84, 65]⟩, .string ⟨#[76, 68, 65]⟩, .string ⟨#[67, 77, 80]⟩, .string ⟨#[83, 66, 67]⟩] 87)).drewN q) := fun q => below_drewN ((Below.refl _ w).alloc (Nat.le_refl _) _) q
  obtain ⟨N, hN⟩ : ∃ N, mkS (rnL (16 * (2 * u + 0) + 14)) = N := ⟨_, rfl⟩
  obtain ⟨L, hL⟩ : ∃ L, mkS ((opC (16 * (2 * u + 0) + 14)).drop 4) = L := ⟨_, rfl⟩
  unfold rcV
  rw [hN, hL]
  obtain ⟨B, hB⟩ : ∃ B : Int, ((16 * (2 * u + 0) + 14 : Nat) : Int) = B := ⟨_, rfl⟩
  have b0 : 0 ≤ B := by omega
  have hq : B.tdiv 16 = 2 * (u : Int) := by rw [Int.tdiv_eq_ediv_of_nonneg b0]; omega
  have hm : B.tmod 16 = 14 := by rw [Int.tmod_eq_emod_of_nonneg b0]; omega
  have hq1 : B / 16 = 2 * (u : Int) := by omega
  have hm1 : B % 16 = 14 := by omega
  have hq2 : (2 * (u : Int)) / 2 = u := by omega
  have hm2 : (2 * (u : Int)) % 2 = 0 := by omega
  have u0 : (0 : Int) ≤ u := by omega
  have u1 : (u : Int) < 8 := by omega
  have hT := fun W => rturns_01 u hu W
  unfold rcV at hT
  rw [hN, hL] at hT
  rw [hB]
  have HBl := Lib.hid hBl
  clear hB hN hBl
  try clear hL
  go_enter Tryd.func24, Tryd.ntmps24
  go_wp2_with fail
  refine (hT _).mono ?_
  rintro e w' ⟨rfl, rfl⟩
  go_wp2
  go_ret2
  exact ⟨rfl, HBl.out 0⟩
set_option maxHeartbeats 8000000 in
theorem rcell_14_1 (u : Nat) (hu : u < 8) (w : World) : Calls Tryd.prog 24 #[.int .u8 ((16 * (2 * u + 1) + 14 : Nat) : Int)] w fun e w' => e = .returned (rcV (16 * (2 * u + 1) + 14)) ∧ Below w.heap.size w w' := by
  have hBl : ∀ q, Below w.heap.size w ((w.alloc (.cells #[.string ⟨#[79, 82, 65]⟩, .string ⟨#[65, 78, 68]⟩, .string ⟨#[69, 79, 82]⟩, .string ⟨#[65, 68, 67]⟩, .string ⟨#[83, 84, 65]⟩, .string ⟨#[76, 68, 65]⟩, .string ⟨#[67, 77, 80]⟩, .string ⟨#[83, 66, 67]⟩] 87)).drewN q) := fun q => below_drewN ((Below.refl _ w).alloc (Nat.le_refl _) _) q
  obtain ⟨N, hN⟩ : ∃ N, mkS (rnL (16 * (2 * u + 1) + 14)) = N := ⟨_, rfl⟩
  obtain ⟨L, hL⟩ : ∃ L, mkS ((opC (16 * (2 * u + 1) + 14)).drop 4) = L := ⟨_, rfl⟩
  unfold rcV
  rw [hN, hL]
  obtain ⟨B, hB⟩ : ∃ B : Int, ((16 * (2 * u + 1) + 14 : Nat) : Int) = B := ⟨_, rfl⟩
  have b0 : 0 ≤ B := by omega
  have hq : B.tdiv 16 = 2 * (u : Int) + 1 := by rw [Int.tdiv_eq_ediv_of_nonneg b0]; omega
  have hm : B.tmod 16 = 14 := by rw [Int.tmod_eq_emod_of_nonneg b0]; omega
  have hq1 : B / 16 = 2 * (u : Int) + 1 := by omega
  have hm1 : B % 16 = 14 := by omega
  have hq2 : (2 * (u : Int) + 1) / 2 = u := by omega
  have hm2 : (2 * (u : Int) + 1) % 2 = 1 := by omega
  have u0 : (0 : Int) ≤ u := by omega
  have u1 : (u : Int) < 8 := by omega
  have hT := fun W => rturns_11 u hu W
  unfold rcV at hT
  rw [hN, hL] at hT
  rw [hB]
  have HBl := Lib.hid hBl
  clear hB hN hBl
  try clear hL
  go_enter Tryd.func24, Tryd.ntmps24
  go_wp2_with fail
  refine (hT _).mono ?_
  rintro e w' ⟨rfl, rfl⟩
  go_wp2
  go_ret2
  exact ⟨rfl, HBl.out 0⟩
end Go.Proofs.YtmbbcfdeielopaaDoorRRRR
namespace Go.Proofs.YtmbbcfdeielopaaDoorRRRR
open Go.RowKit
set_option linter.unusedVariables false
set_option linter.unusedSimpArgs false
set_option maxRecDepth 100000
theorem mkS_app (a b : List UInt8) : mkS (a ++ b) = mkS a ++ mkS b := by apply ByteArray.ext; apply Array.ext'; simp [mkS]
theorem digs_cut (m : Nat) (h : m < 8) : (⟨#[48, 49, 50, 51, 52, 53, 54, 55]⟩ : ByteArray).extract m (m + 1) = mkS [48 + UInt8.ofNat m] := by
  show (mkS [48, 49, 50, 51, 52, 53, 54, 55]).extract m (m + 1) = _
  rw [mkS_ext, show m + 1 - m = 1 by omega]
  congr 1
  revert m
  decide +kernel
theorem dig_7_1 : ∀ r : Fin 16,  r.val < 8 → rnL (16 * r.val + 7) = [82, 77, 66] ++ [48 + UInt8.ofNat (r.val % 8)] := by decide +kernel
theorem dig_7_0 : ∀ r : Fin 16, ¬ r.val < 8 → rnL (16 * r.val + 7) = [83, 77, 66] ++ [48 + UInt8.ofNat (r.val % 8)] := by decide +kernel
theorem dig_15_1 : ∀ r : Fin 16,  r.val < 8 → rnL (16 * r.val + 15) = [66, 66, 82] ++ [48 + UInt8.ofNat (r.val % 8)] := by decide +kernel
theorem dig_15_0 : ∀ r : Fin 16, ¬ r.val < 8 → rnL (16 * r.val + 15) = [66, 66, 83] ++ [48 + UInt8.ofNat (r.val % 8)] := by decide +kernel
set_option maxHeartbeats 8000000 in
theorem rcell_1_0 (u : Nat) (hu : u < 8) (w : World) : Calls Tryd.prog 24 #[.int .u8 ((16 * (2 * u + 0) + 1 : Nat) : Int)] w fun e w' => e = .returned (rcV (16 * (2 * u + 0) + 1)) ∧ Below w.heap.size w w' := by
  have hBl : ∀ q, Below w.heap.size w ((w.alloc (.cells #[.string ⟨#[79, 82, 65]⟩, .string ⟨#[65, 78, 68]⟩, .string ⟨#[69, 79, 82]⟩, .string ⟨#[65, 68, 67]⟩, .string ⟨#[83, 84, 65]⟩, .string ⟨#[76, 68, 65]⟩, .string ⟨#[67, 77, 80]⟩, .string ⟨#[83, 66, 67]⟩] 87)).drewN q) := fun q => below_drewN ((Below.refl _ w).alloc (Nat.le_refl _) _) q
  obtain ⟨N, hN⟩ : ∃ N, mkS (rnL (16 * (2 * u + 0) + 1)) = N := ⟨_, rfl⟩
  obtain ⟨L, hL⟩ : ∃ L, mkS ((opC (16 * (2 * u + 0) + 1)).drop 4) = L := ⟨_, rfl⟩
  unfold rcV
  rw [hN, hL]
  obtain ⟨B, hB⟩ : ∃ B : Int, ((16 * (2 * u + 0) + 1 : Nat) : Int) = B := ⟨_, rfl⟩
  have b0 : 0 ≤ B := by omega
  have hq : B.tdiv 16 = 2 * (u : Int) := by rw [Int.tdiv_eq_ediv_of_nonneg b0]; omega
  have hm : B.tmod 16 = 1 := by rw [Int.tmod_eq_emod_of_nonneg b0]; omega
  have hq1 : B / 16 = 2 * (u : Int) := by omega
  have hm1 : B % 16 = 1 := by omega
  have hq2 : (2 * (u : Int)) / 2 = u := by omega
  have hm2 : (2 * (u : Int)) % 2 = 0 := by omega
  have u0 : (0 : Int) ≤ u := by omega
  have u1 : (u : Int) < 8 := by omega
  obtain ⟨E, hce, hE⟩ : ∃ E : ByteArray, (∀ W : World, (W.alloc (.cells #[.string ⟨#[79, 82, 65]⟩, .string ⟨#[65, 78, 68]⟩, .string ⟨#[69, 79, 82]⟩, .string ⟨#[65, 68, 67]⟩, .string ⟨#[83, 84, 65]⟩, .string ⟨#[76, 68, 65]⟩, .string ⟨#[67, 77, 80]⟩, .string ⟨#[83, 66, 67]⟩] 87)).cell? ⟨W.heap.size, u, none⟩ = some (.string E)) ∧ N = E := by
    refine ⟨mkS ([[79, 82, 65], [65, 78, 68], [69, 79, 82], [65, 68, 67], [83, 84, 65], [76, 68, 65], [67, 77, 80], [83, 66, 67]].getD u []), fun W => ?_, ?_⟩
    · rw [(Blk.new W 87 #[.string ⟨#[79, 82, 65]⟩, .string ⟨#[65, 78, 68]⟩, .string ⟨#[69, 79, 82]⟩, .string ⟨#[65, 68, 67]⟩, .string ⟨#[83, 84, 65]⟩, .string ⟨#[76, 68, 65]⟩, .string ⟨#[67, 77, 80]⟩, .string ⟨#[83, 66, 67]⟩]).cell u]; rcases lt8 hu with rfl | rfl | rfl | rfl | rfl | rfl | rfl | rfl <;> kernel_rfl
    · rw [← hN]; clear hN hL; rcases lt8 hu with rfl | rfl | rfl | rfl | rfl | rfl | rfl | rfl <;> kernel_rfl
  have hc := hce w
  obtain rfl : L = ⟨#[105, 120]⟩ := by rw [← hL]; clear hL; rcases lt8 hu with rfl | rfl | rfl | rfl | rfl | rfl | rfl | rfl <;> kernel_rfl
  subst hE
  clear hce
  rw [hB]
  have HBl := Lib.hid hBl
  clear hB hN hBl
  try clear hL
  go_enter Tryd.func24, Tryd.ntmps24
  go_wp2
  go_quiet (first | (go_at_call 53; refine Calls.quiet_of_same (rpick_any _ _ _ _)))
  go_wp2
  go_ret2
  exact ⟨rfl, HBl.out nq⟩
set_option maxHeartbeats 8000000 in
theorem rcell_1_1 (u : Nat) (hu : u < 8) (w : World) : Calls Tryd.prog 24 #[.int .u8 ((16 * (2 * u + 1) + 1 : Nat) : Int)] w fun e w' => e = .returned (rcV (16 * (2 * u + 1) + 1)) ∧ Below w.heap.size w w' := by
  have hBl : ∀ q, Below w.heap.size w ((w.alloc (.cells #[.string ⟨#[79, 82, 65]⟩, .string ⟨#[65, 78, 68]⟩, .string ⟨#[69, 79, 82]⟩, .string ⟨#[65, 68, 67]⟩, .string ⟨#[83, 84, 65]⟩, .string ⟨#[76, 68, 65]⟩, .string ⟨#[67, 77, 80]⟩, .string ⟨#[83, 66, 67]⟩] 87)).drewN q) := fun q => below_drewN ((Below.refl _ w).alloc (Nat.le_refl _) _) q
  obtain ⟨N, hN⟩ : ∃ N, mkS (rnL (16 * (2 * u + 1) + 1)) = N := ⟨_, rfl⟩
  obtain ⟨L, hL⟩ : ∃ L, mkS ((opC (16 * (2 * u + 1) + 1)).drop 4) = L := ⟨_, rfl⟩
  unfold rcV
  rw [hN, hL]
  obtain ⟨B, hB⟩ : ∃ B : Int, ((16 * (2 * u + 1) + 1 : Nat) : Int) = B := ⟨_, rfl⟩
  have b0 : 0 ≤ B := by omega
  have hq : B.tdiv 16 = 2 * (u : Int) + 1 := by rw [Int.tdiv_eq_ediv_of_nonneg b0]; omega
  have hm : B.tmod 16 = 1 := by rw [Int.tmod_eq_emod_of_nonneg b0]; omega
  have hq1 : B / 16 = 2 * (u : Int) + 1 := by omega
  have hm1 : B % 16 = 1 := by omega
  have hq2 : (2 * (u : Int) + 1) / 2 = u := by omega
  have hm2 : (2 * (u : Int) + 1) % 2 = 1 := by omega
  have u0 : (0 : Int) ≤ u := by omega
  have u1 : (u : Int) < 8 := by omega
  obtain ⟨E, hce, hE⟩ : ∃ E : ByteArray, (∀ W : World, (W.alloc (.cells #[.string ⟨#[79, 82, 65]⟩, .string ⟨#[65, 78, 68]⟩, .string ⟨#[69, 79, 82]⟩, .string ⟨#[65, 68, 67]⟩, .string ⟨#[83, 84, 65]⟩, .string ⟨#[76, 68, 65]⟩, .string ⟨#[67, 77, 80]⟩, .string ⟨#[83, 66, 67]⟩] 87)).cell? ⟨W.heap.size, u, none⟩ = some (.string E)) ∧ N = E := by
    refine ⟨mkS ([[79, 82, 65], [65, 78, 68], [69, 79, 82], [65, 68, 67], [83, 84, 65], [76, 68, 65], [67, 77, 80], [83, 66, 67]].getD u []), fun W => ?_, ?_⟩
    · rw [(Blk.new W 87 #[.string ⟨#[79, 82, 65]⟩, .string ⟨#[65, 78, 68]⟩, .string ⟨#[69, 79, 82]⟩, .string ⟨#[65, 68, 67]⟩, .string ⟨#[83, 84, 65]⟩, .string ⟨#[76, 68, 65]⟩, .string ⟨#[67, 77, 80]⟩, .string ⟨#[83, 66, 67]⟩]).cell u]; rcases lt8 hu with rfl | rfl | rfl | rfl | rfl | rfl | rfl | rfl <;> kernel_rfl
    · rw [← hN]; clear hN hL; rcases lt8 hu with rfl | rfl | rfl | rfl | rfl | rfl | rfl | rfl <;> kernel_rfl
  have hc := hce w
  obtain rfl : L = ⟨#[105, 121]⟩ := by rw [← hL]; clear hL; rcases lt8 hu with rfl | rfl | rfl | rfl | rfl | rfl | rfl | rfl <;> kernel_rfl
  subst hE
  clear hce
  rw [hB]
  have HBl := Lib.hid hBl
  clear hB hN hBl
  try clear hL
  go_enter Tryd.func24, Tryd.ntmps24
  go_wp2
  go_quiet (first | (go_at_call 53; refine Calls.quiet_of_same (rpick_any _ _ _ _)))
  go_wp2
  go_ret2
  exact ⟨rfl, HBl.out nq⟩
set_option maxHeartbeats 8000000 in
theorem rcell_2_0 (u : Nat) (hu : u < 8) (w : World) : Calls Tryd.prog 24 #[.int .u8 ((16 * (2 * u + 0) + 2 : Nat) : Int)] w fun e w' => e = .returned (rcV (16 * (2 * u + 0) + 2)) ∧ Below w.heap.size w w' := by
  have hBl : ∀ q, Below w.heap.size w ((w.alloc (.cells #[.string ⟨#[79, 82, 65]⟩, .string ⟨#[65, 78, 68]⟩, .string ⟨#[69, 79, 82]⟩, .string ⟨#[65, 68, 67]⟩, .string ⟨#[83, 84, 65]⟩, .string ⟨#[76, 68, 65]⟩, .string ⟨#[67, 77, 80]⟩, .string ⟨#[83, 66, 67]⟩] 87)).drewN q) := fun q => below_drewN ((Below.refl _ w).alloc (Nat.le_refl _) _) q
  obtain ⟨N, hN⟩ : ∃ N, mkS (rnL (16 * (2 * u + 0) + 2)) = N := ⟨_, rfl⟩
  obtain ⟨L, hL⟩ : ∃ L, mkS ((opC (16 * (2 * u + 0) + 2)).drop 4) = L := ⟨_, rfl⟩
  unfold rcV
  rw [hN, hL]
  obtain ⟨B, hB⟩ : ∃ B : Int, ((16 * (2 * u + 0) + 2 : Nat) : Int) = B := ⟨_, rfl⟩
  have b0 : 0 ≤ B := by omega
  have hq : B.tdiv 16 = 2 * (u : Int) := by rw [Int.tdiv_eq_ediv_of_nonneg b0]; omega
  have hm : B.tmod 16 = 2 := by rw [Int.tmod_eq_emod_of_nonneg b0]; omega
  have hq1 : B / 16 = 2 * (u : Int) := by omega
  have hm1 : B % 16 = 2 := by omega
  have hq2 : (2 * (u : Int)) / 2 = u := by omega
  have hm2 : (2 * (u : Int)) % 2 = 0 := by omega
  have u0 : (0 : Int) ≤ u := by omega
  have u1 : (u : Int) < 8 := by omega
  have hT : ∀ W : World, (Instr.index 87 (.agg #[.string ⟨#[83, 88, 89]⟩, .string ⟨#[83, 65, 88]⟩, .string ⟨#[83, 65, 89]⟩, .string ⟨#[67, 76, 65]⟩, .string ⟨#[67, 76, 88]⟩, .string ⟨#[76, 68, 88]⟩, .string ⟨#[67, 76, 89]⟩, .string ⟨#[]⟩]) (.int .i64 (u : Int))).run Tryd.prog W = .ok (.string N) W := fun W => idx_agg Tryd.underlying87 (by kernel_rfl) _ u hu _ (by rw [← hN]; clear hN hL; rcases lt8 hu with rfl | rfl | rfl | rfl | rfl | rfl | rfl | rfl <;> kernel_rfl) W
  have hK : L = if ((u : Int) == 5) = true then ⟨#[35, 35]⟩ else ⟨#[46, 46]⟩ := by rw [← hL]; clear hN hL hT; rcases lt8 hu with rfl | rfl | rfl | rfl | rfl | rfl | rfl | rfl <;> kernel_rfl
  rw [hB]
  have HBl := Lib.hid hBl
  clear hB hN hBl
  try clear hL
  by_cases h5 : (u : Int) = 5
  · skip
    have h6 : ((u : Int) == 5) = true := by rw [beq_iff_eq]; exact h5
    rw [h6] at hK
    obtain rfl : L = ⟨#[35, 35]⟩ := hK
    clear h5
    go_enter Tryd.func24, Tryd.ntmps24
    go_wp2
    go_quiet (first | (go_at_call 53; refine Calls.quiet_of_same (rpick_any _ _ _ _)))
    go_wp2
    go_ret2
    exact ⟨rfl, HBl.out _⟩
  · skip
    have h6 : ((u : Int) == 5) = false := by rw [beq_eq_false_iff_ne]; exact h5
    rw [h6] at hK
    obtain rfl : L = ⟨#[46, 46]⟩ := hK
    clear h5
    go_enter Tryd.func24, Tryd.ntmps24
    go_wp2
    go_quiet (first | (go_at_call 53; refine Calls.quiet_of_same (rpick_any _ _ _ _)))
    go_wp2
    go_ret2
    exact ⟨rfl, HBl.out _⟩
set_option maxHeartbeats 8000000 in
theorem rcell_2_1 (u : Nat) (hu : u < 8) (w : World) : Calls Tryd.prog 24 #[.int .u8 ((16 * (2 * u + 1) + 2 : Nat) : Int)] w fun e w' => e = .returned (rcV (16 * (2 * u + 1) + 2)) ∧ Below w.heap.size w w' := by
  have hBl : ∀ q, Below w.heap.size w ((w.alloc (.cells #[.string ⟨#[79, 82, 65]⟩, .string ⟨#[65, 78, 68]⟩, .string ⟨#[69, 79, 82]⟩, .string ⟨#[65, 68, 67]⟩, .string ⟨#[83, 84, 65]⟩, .string ⟨#[76, 68, 65]⟩, .string ⟨#[67, 77, 80]⟩, .string ⟨#[83, 66, 67]⟩] 87)).drewN q) := fun q => below_drewN ((Below.refl _ w).alloc (Nat.le_refl _) _) q
  obtain ⟨N, hN⟩ : ∃ N, mkS (rnL (16 * (2 * u + 1) + 2)) = N := ⟨_, rfl⟩
  obtain ⟨L, hL⟩ : ∃ L, mkS ((opC (16 * (2 * u + 1) + 2)).drop 4) = L := ⟨_, rfl⟩
  unfold rcV
  rw [hN, hL]
  obtain ⟨B, hB⟩ : ∃ B : Int, ((16 * (2 * u + 1) + 2 : Nat) : Int) = B := ⟨_, rfl⟩
  have b0 : 0 ≤ B := by omega
  have hq : B.tdiv 16 = 2 * (u : Int) + 1 := by rw [Int.tdiv_eq_ediv_of_nonneg b0]; omega
  have hm : B.tmod 16 = 2 := by rw [Int.tmod_eq_emod_of_nonneg b0]; omega
  have hq1 : B / 16 = 2 * (u : Int) + 1 := by omega
  have hm1 : B % 16 = 2 := by omega
  have hq2 : (2 * (u : Int) + 1) / 2 = u := by omega
  have hm2 : (2 * (u : Int) + 1) % 2 = 1 := by omega
  have u0 : (0 : Int) ≤ u := by omega
  have u1 : (u : Int) < 8 := by omega
  obtain ⟨E, hce, hE⟩ : ∃ E : ByteArray, (∀ W : World, (W.alloc (.cells #[.string ⟨#[79, 82, 65]⟩, .string ⟨#[65, 78, 68]⟩, .string ⟨#[69, 79, 82]⟩, .string ⟨#[65, 68, 67]⟩, .string ⟨#[83, 84, 65]⟩, .string ⟨#[76, 68, 65]⟩, .string ⟨#[67, 77, 80]⟩, .string ⟨#[83, 66, 67]⟩] 87)).cell? ⟨W.heap.size, u, none⟩ = some (.string E)) ∧ N = E := by
    refine ⟨mkS ([[79, 82, 65], [65, 78, 68], [69, 79, 82], [65, 68, 67], [83, 84, 65], [76, 68, 65], [67, 77, 80], [83, 66, 67]].getD u []), fun W => ?_, ?_⟩
    · rw [(Blk.new W 87 #[.string ⟨#[79, 82, 65]⟩, .string ⟨#[65, 78, 68]⟩, .string ⟨#[69, 79, 82]⟩, .string ⟨#[65, 68, 67]⟩, .string ⟨#[83, 84, 65]⟩, .string ⟨#[76, 68, 65]⟩, .string ⟨#[67, 77, 80]⟩, .string ⟨#[83, 66, 67]⟩]).cell u]; rcases lt8 hu with rfl | rfl | rfl | rfl | rfl | rfl | rfl | rfl <;> kernel_rfl
    · rw [← hN]; clear hN hL; rcases lt8 hu with rfl | rfl | rfl | rfl | rfl | rfl | rfl | rfl <;> kernel_rfl
  have hc := hce w
  obtain rfl : L = ⟨#[105, 110]⟩ := by rw [← hL]; clear hL; rcases lt8 hu with rfl | rfl | rfl | rfl | rfl | rfl | rfl | rfl <;> kernel_rfl
  subst hE
  clear hce
  rw [hB]
  have HBl := Lib.hid hBl
  clear hB hN hBl
  try clear hL
  go_enter Tryd.func24, Tryd.ntmps24
  go_wp2
  go_ret2
  exact ⟨rfl, HBl.out 0⟩
set_option maxHeartbeats 8000000 in
theorem rcell_5_0 (u : Nat) (hu : u < 8) (w : World) : Calls Tryd.prog 24 #[.int .u8 ((16 * (2 * u + 0) + 5 : Nat) : Int)] w fun e w' => e = .returned (rcV (16 * (2 * u + 0) + 5)) ∧ Below w.heap.size w w' := by
  have hBl : ∀ q, Below w.heap.size w ((w.alloc (.cells #[.string ⟨#[79, 82, 65]⟩, .string ⟨#[65, 78, 68]⟩, .string ⟨#[69, 79, 82]⟩, .string ⟨#[65, 68, 67]⟩, .string ⟨#[83, 84, 65]⟩, .string ⟨#[76, 68, 65]⟩, .string ⟨#[67, 77, 80]⟩, .string ⟨#[83, 66, 67]⟩] 87)).drewN q) := fun q => below_drewN ((Below.refl _ w).alloc (Nat.le_refl _) _) q
  obtain ⟨N, hN⟩ : ∃ N, mkS (rnL (16 * (2 * u + 0) + 5)) = N := ⟨_, rfl⟩
  obtain ⟨L, hL⟩ : ∃ L, mkS ((opC (16 * (2 * u + 0) + 5)).drop 4) = L := ⟨_, rfl⟩
  unfold rcV
  rw [hN, hL]
  obtain ⟨B, hB⟩ : ∃ B : Int, ((16 * (2 * u + 0) + 5 : Nat) : Int) = B := ⟨_, rfl⟩
  have b0 : 0 ≤ B := by omega
  have hq : B.tdiv 16 = 2 * (u : Int) := by rw [Int.tdiv_eq_ediv_of_nonneg b0]; omega
  have hm : B.tmod 16 = 5 := by rw [Int.tmod_eq_emod_of_nonneg b0]; omega
  have hq1 : B / 16 = 2 * (u : Int) := by omega
  have hm1 : B % 16 = 5 := by omega
  have hq2 : (2 * (u : Int)) / 2 = u := by omega
  have hm2 : (2 * (u : Int)) % 2 = 0 := by omega
  have u0 : (0 : Int) ≤ u := by omega
  have u1 : (u : Int) < 8 := by omega
  obtain ⟨E, hce, hE⟩ : ∃ E : ByteArray, (∀ W : World, (W.alloc (.cells #[.string ⟨#[79, 82, 65]⟩, .string ⟨#[65, 78, 68]⟩, .string ⟨#[69, 79, 82]⟩, .string ⟨#[65, 68, 67]⟩, .string ⟨#[83, 84, 65]⟩, .string ⟨#[76, 68, 65]⟩, .string ⟨#[67, 77, 80]⟩, .string ⟨#[83, 66, 67]⟩] 87)).cell? ⟨W.heap.size, u, none⟩ = some (.string E)) ∧ N = E := by
    refine ⟨mkS ([[79, 82, 65], [65, 78, 68], [69, 79, 82], [65, 68, 67], [83, 84, 65], [76, 68, 65], [67, 77, 80], [83, 66, 67]].getD u []), fun W => ?_, ?_⟩
    · rw [(Blk.new W 87 #[.string ⟨#[79, 82, 65]⟩, .string ⟨#[65, 78, 68]⟩, .string ⟨#[69, 79, 82]⟩, .string ⟨#[65, 68, 67]⟩, .string ⟨#[83, 84, 65]⟩, .string ⟨#[76, 68, 65]⟩, .string ⟨#[67, 77, 80]⟩, .string ⟨#[83, 66, 67]⟩]).cell u]; rcases lt8 hu with rfl | rfl | rfl | rfl | rfl | rfl | rfl | rfl <;> kernel_rfl
    · rw [← hN]; clear hN hL; rcases lt8 hu with rfl | rfl | rfl | rfl | rfl | rfl | rfl | rfl <;> kernel_rfl
  have hc := hce w
  obtain rfl : L = ⟨#[122, 112]⟩ := by rw [← hL]; clear hL; rcases lt8 hu with rfl | rfl | rfl | rfl | rfl | rfl | rfl | rfl <;> kernel_rfl
  subst hE
  clear hce
  rw [hB]
  have HBl := Lib.hid hBl
  clear hB hN hBl
  try clear hL
  go_enter Tryd.func24, Tryd.ntmps24
  go_wp2
  go_quiet (first | (go_at_call 53; refine Calls.quiet_of_same (rpick_any _ _ _ _)))
  go_wp2
  go_ret2
  exact ⟨rfl, HBl.out nq⟩
set_option maxHeartbeats 8000000 in
theorem rcell_5_1 (u : Nat) (hu : u < 8) (w : World) : Calls Tryd.prog 24 #[.int .u8 ((16 * (2 * u + 1) + 5 : Nat) : Int)] w fun e w' => e = .returned (rcV (16 * (2 * u + 1) + 5)) ∧ Below w.heap.size w w' := by
  have hBl : ∀ q, Below w.heap.size w ((w.alloc (.cells #[.string ⟨#[79, 82, 65]⟩, .string ⟨#[65, 78, 68]⟩, .string ⟨#[69, 79, 82]⟩, .string ⟨#[65, 68, 67]⟩, .string ⟨#[83, 84, 65]⟩, .string ⟨#[76, 68, 65]⟩, .string ⟨#[67, 77, 80]⟩, .string ⟨#[83, 66, 67]⟩] 87)).drewN q) := fun q => below_drewN ((Below.refl _ w).alloc (Nat.le_refl _) _) q
  obtain ⟨N, hN⟩ : ∃ N, mkS (rnL (16 * (2 * u + 1) + 5)) = N := ⟨_, rfl⟩
  obtain ⟨L, hL⟩ : ∃ L, mkS ((opC (16 * (2 * u + 1) + 5)).drop 4) = L := ⟨_, rfl⟩
  unfold rcV
  rw [hN, hL]
  obtain ⟨B, hB⟩ : ∃ B : Int, ((16 * (2 * u + 1) + 5 : Nat) : Int) = B := ⟨_, rfl⟩
  have b0 : 0 ≤ B := by omega
  have hq : B.tdiv 16 = 2 * (u : Int) + 1 := by rw [Int.tdiv_eq_ediv_of_nonneg b0]; omega
  have hm : B.tmod 16 = 5 := by rw [Int.tmod_eq_emod_of_nonneg b0]; omega
  have hq1 : B / 16 = 2 * (u : Int) + 1 := by omega
  have hm1 : B % 16 = 5 := by omega
  have hq2 : (2 * (u : Int) + 1) / 2 = u := by omega
  have hm2 : (2 * (u : Int) + 1) % 2 = 1 := by omega
  have u0 : (0 : Int) ≤ u := by omega
  have u1 : (u : Int) < 8 := by omega
  obtain ⟨E, hce, hE⟩ : ∃ E : ByteArray, (∀ W : World, (W.alloc (.cells #[.string ⟨#[79, 82, 65]⟩, .string ⟨#[65, 78, 68]⟩, .string ⟨#[69, 79, 82]⟩, .string ⟨#[65, 68, 67]⟩, .string ⟨#[83, 84, 65]⟩, .string ⟨#[76, 68, 65]⟩, .string ⟨#[67, 77, 80]⟩, .string ⟨#[83, 66, 67]⟩] 87)).cell? ⟨W.heap.size, u, none⟩ = some (.string E)) ∧ N = E := by
    refine ⟨mkS ([[79, 82, 65], [65, 78, 68], [69, 79, 82], [65, 68, 67], [83, 84, 65], [76, 68, 65], [67, 77, 80], [83, 66, 67]].getD u []), fun W => ?_, ?_⟩
    · rw [(Blk.new W 87 #[.string ⟨#[79, 82, 65]⟩, .string ⟨#[65, 78, 68]⟩, .string ⟨#[69, 79, 82]⟩, .string ⟨#[65, 68, 67]⟩, .string ⟨#[83, 84, 65]⟩, .string ⟨#[76, 68, 65]⟩, .string ⟨#[67, 77, 80]⟩, .string ⟨#[83, 66, 67]⟩]).cell u]; rcases lt8 hu with rfl | rfl | rfl | rfl | rfl | rfl | rfl | rfl <;> kernel_rfl
    · rw [← hN]; clear hN hL; rcases lt8 hu with rfl | rfl | rfl | rfl | rfl | rfl | rfl | rfl <;> kernel_rfl
  have hc := hce w
  obtain rfl : L = ⟨#[122, 120]⟩ := by rw [← hL]; clear hL; rcases lt8 hu with rfl | rfl | rfl | rfl | rfl | rfl | rfl | rfl <;> kernel_rfl
  subst hE
  clear hce
  rw [hB]
  have HBl := Lib.hid hBl
  clear hB hN hBl
  try clear hL
  go_enter Tryd.func24, Tryd.ntmps24
  go_wp2
  go_quiet (first | (go_at_call 53; refine Calls.quiet_of_same (rpick_any _ _ _ _)))
  go_wp2
  go_ret2
  exact ⟨rfl, HBl.out nq⟩
set_option maxHeartbeats 8000000 in
theorem rcell_9_0 (u : Nat) (hu : u < 8) (w : World) : Calls Tryd.prog 24 #[.int .u8 ((16 * (2 * u + 0) + 9 : Nat) : Int)] w fun e w' => e = .returned (rcV (16 * (2 * u + 0) + 9)) ∧ Below w.heap.size w w' := by
  have hBl : ∀ q, Below w.heap.size w ((w.alloc (.cells #[.string ⟨#[79, 82, 65]⟩, .string ⟨#[65, 78, 68]⟩, .string ⟨#[69, 79, 82]⟩, .string ⟨#[65, 68, 67]⟩, .string ⟨#[83, 84, 65]⟩, .string ⟨#[76, 68, 65]⟩, .string ⟨#[67, 77, 80]⟩, .string ⟨#[83, 66, 67]⟩] 87)).drewN q) := fun q => below_drewN ((Below.refl _ w).alloc (Nat.le_refl _) _) q
  obtain ⟨N, hN⟩ : ∃ N, mkS (rnL (16 * (2 * u + 0) + 9)) = N := ⟨_, rfl⟩
  obtain ⟨L, hL⟩ : ∃ L, mkS ((opC (16 * (2 * u + 0) + 9)).drop 4) = L := ⟨_, rfl⟩
  unfold rcV
  rw [hN, hL]
  obtain ⟨B, hB⟩ : ∃ B : Int, ((16 * (2 * u + 0) + 9 : Nat) : Int) = B := ⟨_, rfl⟩
  have b0 : 0 ≤ B := by omega
  have hq : B.tdiv 16 = 2 * (u : Int) := by rw [Int.tdiv_eq_ediv_of_nonneg b0]; omega
  have hm : B.tmod 16 = 9 := by rw [Int.tmod_eq_emod_of_nonneg b0]; omega
  have hq1 : B / 16 = 2 * (u : Int) := by omega
  have hm1 : B % 16 = 9 := by omega
  have hq2 : (2 * (u : Int)) / 2 = u := by omega
  have hm2 : (2 * (u : Int)) % 2 = 0 := by omega
  have u0 : (0 : Int) ≤ u := by omega
  have u1 : (u : Int) < 8 := by omega
  obtain ⟨E, hce, hE⟩ : ∃ E : ByteArray, (∀ W : World, (W.alloc (.cells #[.string ⟨#[79, 82, 65]⟩, .string ⟨#[65, 78, 68]⟩, .string ⟨#[69, 79, 82]⟩, .string ⟨#[65, 68, 67]⟩, .string ⟨#[83, 84, 65]⟩, .string ⟨#[76, 68, 65]⟩, .string ⟨#[67, 77, 80]⟩, .string ⟨#[83, 66, 67]⟩] 87)).cell? ⟨W.heap.size, u, none⟩ = some (.string E)) ∧ N = if (u : Int) = 4 then ⟨#[66, 73, 84]⟩ else E := by
    refine ⟨mkS ([[79, 82, 65], [65, 78, 68], [69, 79, 82], [65, 68, 67], [83, 84, 65], [76, 68, 65], [67, 77, 80], [83, 66, 67]].getD u []), fun W => ?_, ?_⟩
    · rw [(Blk.new W 87 #[.string ⟨#[79, 82, 65]⟩, .string ⟨#[65, 78, 68]⟩, .string ⟨#[69, 79, 82]⟩, .string ⟨#[65, 68, 67]⟩, .string ⟨#[83, 84, 65]⟩, .string ⟨#[76, 68, 65]⟩, .string ⟨#[67, 77, 80]⟩, .string ⟨#[83, 66, 67]⟩]).cell u]; rcases lt8 hu with rfl | rfl | rfl | rfl | rfl | rfl | rfl | rfl <;> kernel_rfl
    · rw [← hN]; clear hN hL; rcases lt8 hu with rfl | rfl | rfl | rfl | rfl | rfl | rfl | rfl <;> kernel_rfl
  have hc := hce w
  have b2 : B = 137 ↔ (u : Int) = 4 := by omega
  obtain rfl : L = ⟨#[35, 35]⟩ := by rw [← hL]; clear hL; rcases lt8 hu with rfl | rfl | rfl | rfl | rfl | rfl | rfl | rfl <;> kernel_rfl
  rw [hB]
  have HBl := Lib.hid hBl
  clear hB hN hBl
  try clear hL
  by_cases h4 : (u : Int) = 4
  · have b3 : (B == 137) = true := by rw [beq_iff_eq]; exact b2.2 h4
    rw [if_pos h4] at hE
    subst hE
    clear b2 h4 hce hc
    go_enter Tryd.func24, Tryd.ntmps24
    go_wp2
    go_ret2
    exact ⟨rfl, HBl.out 0⟩
  · have b3 : (B == 137) = false := by rw [beq_eq_false_iff_ne]; intro e; exact h4 (b2.1 e)
    rw [if_neg h4] at hE
    subst hE
    clear b2 h4 hce
    go_enter Tryd.func24, Tryd.ntmps24
    go_wp2
    go_quiet (first | (go_at_call 53; refine Calls.quiet_of_same (rpick_any _ _ _ _)))
    go_wp2
    go_ret2
    exact ⟨rfl, HBl.out _⟩
set_option maxHeartbeats 8000000 in
theorem rcell_9_1 (u : Nat) (hu : u < 8) (w : World) : Calls Tryd.prog 24 #[.int .u8 ((16 * (2 * u + 1) + 9 : Nat) : Int)] w fun e w' => e = .returned (rcV (16 * (2 * u + 1) + 9)) ∧ Below w.heap.size w w' := by
  have hBl : ∀ q, Below w.heap.size w ((w.alloc (.cells #[.string ⟨#[79, 82, 65]⟩, .string ⟨#[65, 78, 68]⟩, .string ⟨#[69, 79, 82]⟩, .string ⟨#[65, 68, 67]⟩, .string ⟨#[83, 84, 65]⟩, .string ⟨#[76, 68, 65]⟩, .string ⟨#[67, 77, 80]⟩, .string ⟨#[83, 66, 67]⟩] 87)).drewN q) := fun q => below_drewN ((Below.refl _ w).alloc (Nat.le_refl _) _) q
  obtain ⟨N, hN⟩ : ∃ N, mkS (rnL (16 * (2 * u + 1) + 9)) = N := ⟨_, rfl⟩
  obtain ⟨L, hL⟩ : ∃ L, mkS ((opC (16 * (2 * u + 1) + 9)).drop 4) = L := ⟨_, rfl⟩
  unfold rcV
  rw [hN, hL]
  obtain ⟨B, hB⟩ : ∃ B : Int, ((16 * (2 * u + 1) + 9 : Nat) : Int) = B := ⟨_, rfl⟩
  have b0 : 0 ≤ B := by omega
  have hq : B.tdiv 16 = 2 * (u : Int) + 1 := by rw [Int.tdiv_eq_ediv_of_nonneg b0]; omega
  have hm : B.tmod 16 = 9 := by rw [Int.tmod_eq_emod_of_nonneg b0]; omega
  have hq1 : B / 16 = 2 * (u : Int) + 1 := by omega
  have hm1 : B % 16 = 9 := by omega
  have hq2 : (2 * (u : Int) + 1) / 2 = u := by omega
  have hm2 : (2 * (u : Int) + 1) % 2 = 1 := by omega
  have u0 : (0 : Int) ≤ u := by omega
  have u1 : (u : Int) < 8 := by omega
  obtain ⟨E, hce, hE⟩ : ∃ E : ByteArray, (∀ W : World, (W.alloc (.cells #[.string ⟨#[79, 82, 65]⟩, .string ⟨#[65, 78, 68]⟩, .string ⟨#[69, 79, 82]⟩, .string ⟨#[65, 68, 67]⟩, .string ⟨#[83, 84, 65]⟩, .string ⟨#[76, 68, 65]⟩, .string ⟨#[67, 77, 80]⟩, .string ⟨#[83, 66, 67]⟩] 87)).cell? ⟨W.heap.size, u, none⟩ = some (.string E)) ∧ N = E := by
    refine ⟨mkS ([[79, 82, 65], [65, 78, 68], [69, 79, 82], [65, 68, 67], [83, 84, 65], [76, 68, 65], [67, 77, 80], [83, 66, 67]].getD u []), fun W => ?_, ?_⟩
    · rw [(Blk.new W 87 #[.string ⟨#[79, 82, 65]⟩, .string ⟨#[65, 78, 68]⟩, .string ⟨#[69, 79, 82]⟩, .string ⟨#[65, 68, 67]⟩, .string ⟨#[83, 84, 65]⟩, .string ⟨#[76, 68, 65]⟩, .string ⟨#[67, 77, 80]⟩, .string ⟨#[83, 66, 67]⟩]).cell u]; rcases lt8 hu with rfl | rfl | rfl | rfl | rfl | rfl | rfl | rfl <;> kernel_rfl
    · rw [← hN]; clear hN hL; rcases lt8 hu with rfl | rfl | rfl | rfl | rfl | rfl | rfl | rfl <;> kernel_rfl
  have hc := hce w
  have b2 : (B == 137) = false := by rw [beq_eq_false_iff_ne]; omega
  obtain rfl : L = ⟨#[97, 121]⟩ := by rw [← hL]; clear hL; rcases lt8 hu with rfl | rfl | rfl | rfl | rfl | rfl | rfl | rfl <;> kernel_rfl
  subst hE
  clear hce
  rw [hB]
  have HBl := Lib.hid hBl
  clear hB hN hBl
  try clear hL
  go_enter Tryd.func24, Tryd.ntmps24
  go_wp2
  go_quiet (first | (go_at_call 53; refine Calls.quiet_of_same (rpick_any _ _ _ _)))
  go_wp2
  go_ret2
  exact ⟨rfl, HBl.out nq⟩
set_option maxHeartbeats 8000000 in
theorem rcell_13_0 (u : Nat) (hu : u < 8) (w : World) : Calls Tryd.prog 24 #[.int .u8 ((16 * (2 * u + 0) + 13 : Nat) : Int)] w fun e w' => e = .returned (rcV (16 * (2 * u + 0) + 13)) ∧ Below w.heap.size w w' := by
  have hBl : ∀ q, Below w.heap.size w ((w.alloc (.cells #[.string ⟨#[79, 82, 65]⟩, .string ⟨#[65, 78, 68]⟩, .string ⟨#[69, 79, 82]⟩, .string ⟨#[65, 68, 67]⟩, .string ⟨#[83, 84, 65]⟩, .string ⟨#[76, 68, 65]⟩, .string ⟨#[67, 77, 80]⟩, .string ⟨#[83, 66, 67]⟩] 87)).drewN q) := fun q => below_drewN ((Below.refl _ w).alloc (Nat.le_refl _) _) q
  obtain ⟨N, hN⟩ : ∃ N, mkS (rnL (16 * (2 * u + 0) + 13)) = N := ⟨_, rfl⟩
  obtain ⟨L, hL⟩ : ∃ L, mkS ((opC (16 * (2 * u + 0) + 13)).drop 4) = L := ⟨_, rfl⟩
  unfold rcV
  rw [hN, hL]
  obtain ⟨B, hB⟩ : ∃ B : Int, ((16 * (2 * u + 0) + 13 : Nat) : Int) = B := ⟨_, rfl⟩
  have b0 : 0 ≤ B := by omega
  have hq : B.tdiv 16 = 2 * (u : Int) := by rw [Int.tdiv_eq_ediv_of_nonneg b0]; omega
  have hm : B.tmod 16 = 13 := by rw [Int.tmod_eq_emod_of_nonneg b0]; omega
  have hq1 : B / 16 = 2 * (u : Int) := by omega
  have hm1 : B % 16 = 13 := by omega
  have hq2 : (2 * (u : Int)) / 2 = u := by omega
  have hm2 : (2 * (u : Int)) % 2 = 0 := by omega
  have u0 : (0 : Int) ≤ u := by omega
  have u1 : (u : Int) < 8 := by omega
  obtain ⟨E, hce, hE⟩ : ∃ E : ByteArray, (∀ W : World, (W.alloc (.cells #[.string ⟨#[79, 82, 65]⟩, .string ⟨#[65, 78, 68]⟩, .string ⟨#[69, 79, 82]⟩, .string ⟨#[65, 68, 67]⟩, .string ⟨#[83, 84, 65]⟩, .string ⟨#[76, 68, 65]⟩, .string ⟨#[67, 77, 80]⟩, .string ⟨#[83, 66, 67]⟩] 87)).cell? ⟨W.heap.size, u, none⟩ = some (.string E)) ∧ N = E := by
    refine ⟨mkS ([[79, 82, 65], [65, 78, 68], [69, 79, 82], [65, 68, 67], [83, 84, 65], [76, 68, 65], [67, 77, 80], [83, 66, 67]].getD u []), fun W => ?_, ?_⟩
    · rw [(Blk.new W 87 #[.string ⟨#[79, 82, 65]⟩, .string ⟨#[65, 78, 68]⟩, .string ⟨#[69, 79, 82]⟩, .string ⟨#[65, 68, 67]⟩, .string ⟨#[83, 84, 65]⟩, .string ⟨#[76, 68, 65]⟩, .string ⟨#[67, 77, 80]⟩, .string ⟨#[83, 66, 67]⟩]).cell u]; rcases lt8 hu with rfl | rfl | rfl | rfl | rfl | rfl | rfl | rfl <;> kernel_rfl
    · rw [← hN]; clear hN hL; rcases lt8 hu with rfl | rfl | rfl | rfl | rfl | rfl | rfl | rfl <;> kernel_rfl
  have hc := hce w
  obtain rfl : L = ⟨#[97, 98]⟩ := by rw [← hL]; clear hL; rcases lt8 hu with rfl | rfl | rfl | rfl | rfl | rfl | rfl | rfl <;> kernel_rfl
  subst hE
  clear hce
  rw [hB]
  have HBl := Lib.hid hBl
  clear hB hN hBl
  try clear hL
  go_enter Tryd.func24, Tryd.ntmps24
  go_wp2
  go_quiet (first | (go_at_call 53; refine Calls.quiet_of_same (rpick_any _ _ _ _)))
  go_wp2
  go_ret2
  exact ⟨rfl, HBl.out nq⟩
set_option maxHeartbeats 8000000 in
theorem rcell_13_1 (u : Nat) (hu : u < 8) (w : World) : Calls Tryd.prog 24 #[.int .u8 ((16 * (2 * u + 1) + 13 : Nat) : Int)] w fun e w' => e = .returned (rcV (16 * (2 * u + 1) + 13)) ∧ Below w.heap.size w w' := by
  have hBl : ∀ q, Below w.heap.size w ((w.alloc (.cells #[.string ⟨#[79, 82, 65]⟩, .string ⟨#[65, 78, 68]⟩, .string ⟨#[69, 79, 82]⟩, .string ⟨#[65, 68, 67]⟩, .string ⟨#[83, 84, 65]⟩, .string ⟨#[76, 68, 65]⟩, .string ⟨#[67, 77, 80]⟩, .string ⟨#[83, 66, 67]⟩] 87)).drewN q) := fun q => below_drewN ((Below.refl _ w).alloc (Nat.le_refl _) _) q
  obtain ⟨N, hN⟩ : ∃ N, mkS (rnL (16 * (2 * u + 1) + 13)) = N := ⟨_, rfl⟩
  obtain ⟨L, hL⟩ : ∃ L, mkS ((opC (16 * (2 * u + 1) + 13)).drop 4) = L := ⟨_, rfl⟩
  unfold rcV
  rw [hN, hL]
  obtain ⟨B, hB⟩ : ∃ B : Int, ((16 * (2 * u + 1) + 13 : Nat) : Int) = B := ⟨_, rfl⟩
  have b0 : 0 ≤ B := by omega
  have hq : B.tdiv 16 = 2 * (u : Int) + 1 := by rw [Int.tdiv_eq_ediv_of_nonneg b0]; omega
  have hm : B.tmod 16 = 13 := by rw [Int.tmod_eq_emod_of_nonneg b0]; omega
  have hq1 : B / 16 = 2 * (u : Int) + 1 := by omega
  have hm1 : B % 16 = 13 := by omega
  have hq2 : (2 * (u : Int) + 1) / 2 = u := by omega
  have hm2 : (2 * (u : Int) + 1) % 2 = 1 := by omega
  have u0 : (0 : Int) ≤ u := by omega
  have u1 : (u : Int) < 8 := by omega
  obtain ⟨E, hce, hE⟩ : ∃ E : ByteArray, (∀ W : World, (W.alloc (.cells #[.string ⟨#[79, 82, 65]⟩, .string ⟨#[65, 78, 68]⟩, .string ⟨#[69, 79, 82]⟩, .string ⟨#[65, 68, 67]⟩, .string ⟨#[83, 84, 65]⟩, .string ⟨#[76, 68, 65]⟩, .string ⟨#[67, 77, 80]⟩, .string ⟨#[83, 66, 67]⟩] 87)).cell? ⟨W.heap.size, u, none⟩ = some (.string E)) ∧ N = E := by
    refine ⟨mkS ([[79, 82, 65], [65, 78, 68], [69, 79, 82], [65, 68, 67], [83, 84, 65], [76, 68, 65], [67, 77, 80], [83, 66, 67]].getD u []), fun W => ?_, ?_⟩
    · rw [(Blk.new W 87 #[.string ⟨#[79, 82, 65]⟩, .string ⟨#[65, 78, 68]⟩, .string ⟨#[69, 79, 82]⟩, .string ⟨#[65, 68, 67]⟩, .string ⟨#[83, 84, 65]⟩, .string ⟨#[76, 68, 65]⟩, .string ⟨#[67, 77, 80]⟩, .string ⟨#[83, 66, 67]⟩]).cell u]; rcases lt8 hu with rfl | rfl | rfl | rfl | rfl | rfl | rfl | rfl <;> kernel_rfl
    · rw [← hN]; clear hN hL; rcases lt8 hu with rfl | rfl | rfl | rfl | rfl | rfl | rfl | rfl <;> kernel_rfl
  have hc := hce w
  obtain rfl : L = ⟨#[97, 120]⟩ := by rw [← hL]; clear hL; rcases lt8 hu with rfl | rfl | rfl | rfl | rfl | rfl | rfl | rfl <;> kernel_rfl
  subst hE
  clear hce
  rw [hB]
  have HBl := Lib.hid hBl
  clear hB hN hBl
  try clear hL
  go_enter Tryd.func24, Tryd.ntmps24
  go_wp2
  go_quiet (first | (go_at_call 53; refine Calls.quiet_of_same (rpick_any _ _ _ _)))
  go_wp2
  go_ret2
  exact ⟨rfl, HBl.out nq⟩
set_option maxHeartbeats 8000000 in
theorem rcell_7_0 (u : Nat) (hu : u < 8) (w : World) : Calls Tryd.prog 24 #[.int .u8 ((16 * (2 * u + 0) + 7 : Nat) : Int)] w fun e w' => e = .returned (rcV (16 * (2 * u + 0) + 7)) ∧ Below w.heap.size w w' := by
  have hBl : ∀ q, Below w.heap.size w ((w.alloc (.cells #[.string ⟨#[79, 82, 65]⟩, .string ⟨#[65, 78, 68]⟩, .string ⟨#[69, 79, 82]⟩, .string ⟨#[65, 68, 67]⟩, .string ⟨#[83, 84, 65]⟩, .string ⟨#[76, 68, 65]⟩, .string ⟨#[67, 77, 80]⟩, .string ⟨#[83, 66, 67]⟩] 87)).drewN q) := fun q => below_drewN ((Below.refl _ w).alloc (Nat.le_refl _) _) q
  obtain ⟨N, hN⟩ : ∃ N, mkS (rnL (16 * (2 * u + 0) + 7)) = N := ⟨_, rfl⟩
  obtain ⟨L, hL⟩ : ∃ L, mkS ((opC (16 * (2 * u + 0) + 7)).drop 4) = L := ⟨_, rfl⟩
  unfold rcV
  rw [hN, hL]
  obtain ⟨B, hB⟩ : ∃ B : Int, ((16 * (2 * u + 0) + 7 : Nat) : Int) = B := ⟨_, rfl⟩
  have b0 : 0 ≤ B := by omega
  have hq : B.tdiv 16 = 2 * (u : Int) := by rw [Int.tdiv_eq_ediv_of_nonneg b0]; omega
  have hm : B.tmod 16 = 7 := by rw [Int.tmod_eq_emod_of_nonneg b0]; omega
  have hq1 : B / 16 = 2 * (u : Int) := by omega
  have hm1 : B % 16 = 7 := by omega
  have hq2 : (2 * (u : Int)) / 2 = u := by omega
  have hm2 : (2 * (u : Int)) % 2 = 0 := by omega
  have u0 : (0 : Int) ≤ u := by omega
  have u1 : (u : Int) < 8 := by omega
  obtain rfl : L = ⟨#[122, 112]⟩ := by rw [← hL]; clear hL; rcases lt8 hu with rfl | rfl | rfl | rfl | rfl | rfl | rfl | rfl <;> kernel_rfl
  rw [hB]
  have HBl := Lib.hid hBl
  have HN := Lib.hid hN
  clear hB hN hBl
  try clear hL
  by_cases h5 : 2 * (u : Int) < 8
  · skip
    obtain ⟨m, hme⟩ : ∃ m : Nat, 2 * u + 0 = m := ⟨2 * u + 0, by omega⟩
    obtain ⟨X, hXX⟩ : ∃ X, mkS [48 + UInt8.ofNat m] = X := ⟨_, rfl⟩
    have hX := digs_cut m (by omega)
    have hNX := dig_7_1 ⟨2 * u + 0, by omega⟩ (by show 2 * u + 0 < 8; omega)
    dsimp only at hNX
    rw [show (2 * u + 0) % 8 = m by omega] at hNX
    have hNX : N = ⟨#[82, 77, 66]⟩ ++ X := by rw [← HN.out, hNX, mkS_app, hXX]; rfl
    rw [hXX] at hX
    have hXs : X.size = 1 := by rw [← hXX, mkS_size]; rfl
    clear hXX
    have h7 : decide (2 * (u : Int) < 8) = true := decide_eq_true h5
    have h8 : (2 * (u : Int) < 8) = True := eq_true h5
    have HX := Lib.hid hNX
    have d0 : (2 * (u : Int)).tmod 8 = (m : Int) := by rw [Int.tmod_eq_emod_of_nonneg (by omega)]; omega
    have d00 : (2 * (u : Int)) % 8 = (m : Int) := by omega
    have d1 : IntKind.i64.wrap ((m : Int) + 1) = m + 1 := IntWalk.i64_in _ (by omega)
    have d2 : (0 : Int) ≤ m := by omega
    have d3 : (m : Int) + 1 ≤ 8 := by omega
    have d4 : ((m : Int) + 1).toNat = m + 1 := by omega
    have d5 : (0 : Int) ≤ (m : Int) + 1 := by omega
    have d6 : (m : Int) ≤ (m : Int) + 1 := by omega
    clear hNX hme HN
    go_enter Tryd.func24, Tryd.ntmps24
    go_wp2
    go_quiet (first | (go_at_call 53; refine Calls.quiet_of_same (rpick_any _ _ _ _)))
    go_wp2
    rw [HX.out]
    go_ret2
    exact ⟨rfl, HBl.out _⟩
  · skip
    obtain ⟨m, hme⟩ : ∃ m : Nat, 2 * u + 0 = m + 8 := ⟨2 * u + 0 - 8, by omega⟩
    obtain ⟨X, hXX⟩ : ∃ X, mkS [48 + UInt8.ofNat m] = X := ⟨_, rfl⟩
    have hX := digs_cut m (by omega)
    have hNX := dig_7_0 ⟨2 * u + 0, by omega⟩ (by show ¬ 2 * u + 0 < 8; omega)
    dsimp only at hNX
    rw [show (2 * u + 0) % 8 = m by omega] at hNX
    have hNX : N = ⟨#[83, 77, 66]⟩ ++ X := by rw [← HN.out, hNX, mkS_app, hXX]; rfl
    rw [hXX] at hX
    have hXs : X.size = 1 := by rw [← hXX, mkS_size]; rfl
    clear hXX
    have h7 : decide (2 * (u : Int) < 8) = false := decide_eq_false h5
    have h8 : (2 * (u : Int) < 8) = False := eq_false h5
    have HX := Lib.hid hNX
    have d0 : (2 * (u : Int)).tmod 8 = (m : Int) := by rw [Int.tmod_eq_emod_of_nonneg (by omega)]; omega
    have d00 : (2 * (u : Int)) % 8 = (m : Int) := by omega
    have d1 : IntKind.i64.wrap ((m : Int) + 1) = m + 1 := IntWalk.i64_in _ (by omega)
    have d2 : (0 : Int) ≤ m := by omega
    have d3 : (m : Int) + 1 ≤ 8 := by omega
    have d4 : ((m : Int) + 1).toNat = m + 1 := by omega
    have d5 : (0 : Int) ≤ (m : Int) + 1 := by omega
    have d6 : (m : Int) ≤ (m : Int) + 1 := by omega
    clear hNX hme HN
    go_enter Tryd.func24, Tryd.ntmps24
    go_wp2
    go_quiet (first | (go_at_call 53; refine Calls.quiet_of_same (rpick_any _ _ _ _)))
    go_wp2
    rw [HX.out]
    go_ret2
    exact ⟨rfl, HBl.out _⟩
set_option maxHeartbeats 8000000 in
theorem rcell_7_1 (u : Nat) (hu : u < 8) (w : World) : Calls Tryd.prog 24 #[.int .u8 ((16 * (2 * u + 1) + 7 : Nat) : Int)] w fun e w' => e = .returned (rcV (16 * (2 * u + 1) + 7)) ∧ Below w.heap.size w w' := by
  have hBl : ∀ q, Below w.heap.size w ((w.alloc (.cells #[.string ⟨#[79, 82, 65]⟩, .string ⟨#[65, 78, 68]⟩, .string ⟨#[69, 79, 82]⟩, .string ⟨#[65, 68, 67]⟩, .string ⟨#[83, 84, 65]⟩, .string ⟨#[76, 68, 65]⟩, .string ⟨#[67, 77, 80]⟩, .string ⟨#[83, 66, 67]⟩] 87)).drewN q) := fun q => below_drewN ((Below.refl _ w).alloc (Nat.le_refl _) _) q
  obtain ⟨N, hN⟩ : ∃ N, mkS (rnL (16 * (2 * u + 1) + 7)) = N := ⟨_, rfl⟩
  obtain ⟨L, hL⟩ : ∃ L, mkS ((opC (16 * (2 * u + 1) + 7)).drop 4) = L := ⟨_, rfl⟩
  unfold rcV
  rw [hN, hL]
  obtain ⟨B, hB⟩ : ∃ B : Int, ((16 * (2 * u + 1) + 7 : Nat) : Int) = B := ⟨_, rfl⟩
  have b0 : 0 ≤ B := by omega
  have hq : B.tdiv 16 = 2 * (u : Int) + 1 := by rw [Int.tdiv_eq_ediv_of_nonneg b0]; omega
  have hm : B.tmod 16 = 7 := by rw [Int.tmod_eq_emod_of_nonneg b0]; omega
  have hq1 : B / 16 = 2 * (u : Int) + 1 := by omega
  have hm1 : B % 16 = 7 := by omega
  have hq2 : (2 * (u : Int) + 1) / 2 = u := by omega
  have hm2 : (2 * (u : Int) + 1) % 2 = 1 := by omega
  have u0 : (0 : Int) ≤ u := by omega
  have u1 : (u : Int) < 8 := by omega
  obtain rfl : L = ⟨#[122, 112]⟩ := by rw [← hL]; clear hL; rcases lt8 hu with rfl | rfl | rfl | rfl | rfl | rfl | rfl | rfl <;> kernel_rfl
  rw [hB]
  have HBl := Lib.hid hBl
  have HN := Lib.hid hN
  clear hB hN hBl
  try clear hL
  by_cases h5 : 2 * (u : Int) + 1 < 8
  · skip
    obtain ⟨m, hme⟩ : ∃ m : Nat, 2 * u + 1 = m := ⟨2 * u + 1, by omega⟩
    obtain ⟨X, hXX⟩ : ∃ X, mkS [48 + UInt8.ofNat m] = X := ⟨_, rfl⟩
    have hX := digs_cut m (by omega)
    have hNX := dig_7_1 ⟨2 * u + 1, by omega⟩ (by show 2 * u + 1 < 8; omega)
    dsimp only at hNX
    rw [show (2 * u + 1) % 8 = m by omega] at hNX
    have hNX : N = ⟨#[82, 77, 66]⟩ ++ X := by rw [← HN.out, hNX, mkS_app, hXX]; rfl
    rw [hXX] at hX
    have hXs : X.size = 1 := by rw [← hXX, mkS_size]; rfl
    clear hXX
    have h7 : decide (2 * (u : Int) + 1 < 8) = true := decide_eq_true h5
    have h8 : (2 * (u : Int) + 1 < 8) = True := eq_true h5
    have HX := Lib.hid hNX
    have d0 : (2 * (u : Int) + 1).tmod 8 = (m : Int) := by rw [Int.tmod_eq_emod_of_nonneg (by omega)]; omega
    have d00 : (2 * (u : Int) + 1) % 8 = (m : Int) := by omega
    have d1 : IntKind.i64.wrap ((m : Int) + 1) = m + 1 := IntWalk.i64_in _ (by omega)
    have d2 : (0 : Int) ≤ m := by omega
    have d3 : (m : Int) + 1 ≤ 8 := by omega
    have d4 : ((m : Int) + 1).toNat = m + 1 := by omega
    have d5 : (0 : Int) ≤ (m : Int) + 1 := by omega
    have d6 : (m : Int) ≤ (m : Int) + 1 := by omega
    clear hNX hme HN
    go_enter Tryd.func24, Tryd.ntmps24
    go_wp2
    go_quiet (first | (go_at_call 53; refine Calls.quiet_of_same (rpick_any _ _ _ _)))
    go_wp2
    rw [HX.out]
    go_ret2
    exact ⟨rfl, HBl.out _⟩
  · skip
    obtain ⟨m, hme⟩ : ∃ m : Nat, 2 * u + 1 = m + 8 := ⟨2 * u + 1 - 8, by omega⟩
    obtain ⟨X, hXX⟩ : ∃ X, mkS [48 + UInt8.ofNat m] = X := ⟨_, rfl⟩
    have hX := digs_cut m (by omega)
    have hNX := dig_7_0 ⟨2 * u + 1, by omega⟩ (by show ¬ 2 * u + 1 < 8; omega)
    dsimp only at hNX
    rw [show (2 * u + 1) % 8 = m by omega] at hNX
    have hNX : N = ⟨#[83, 77, 66]⟩ ++ X := by rw [← HN.out, hNX, mkS_app, hXX]; rfl
    rw [hXX] at hX
    have hXs : X.size = 1 := by rw [← hXX, mkS_size]; rfl
    clear hXX
    have h7 : decide (2 * (u : Int) + 1 < 8) = false := decide_eq_false h5
    have h8 : (2 * (u : Int) + 1 < 8) = False := eq_false h5
    have HX := Lib.hid hNX
    have d0 : (2 * (u : Int) + 1).tmod 8 = (m : Int) := by rw [Int.tmod_eq_emod_of_nonneg (by omega)]; omega
    have d00 : (2 * (u : Int) + 1) % 8 = (m : Int) := by omega
    have d1 : IntKind.i64.wrap ((m : Int) + 1) = m + 1 := IntWalk.i64_in _ (by omega)
    have d2 : (0 : Int) ≤ m := by omega
    have d3 : (m : Int) + 1 ≤ 8 := by omega
    have d4 : ((m : Int) + 1).toNat = m + 1 := by omega
    have d5 : (0 : Int) ≤ (m : Int) + 1 := by omega
    have d6 : (m : Int) ≤ (m : Int) + 1 := by omega
    clear hNX hme HN
    go_enter Tryd.func24, Tryd.ntmps24
    go_wp2
    go_quiet (first | (go_at_call 53; refine Calls.quiet_of_same (rpick_any _ _ _ _)))
    go_wp2
    rw [HX.out]
    go_ret2
    exact ⟨rfl, HBl.out _⟩
set_option maxHeartbeats 8000000 in
theorem rcell_15_0 (u : Nat) (hu : u < 8) (w : World) : Calls Tryd.prog 24 #[.int .u8 ((16 * (2 * u + 0) + 15 : Nat) : Int)] w fun e w' => e = .returned (rcV (16 * (2 * u + 0) + 15)) ∧ Below w.heap.size w w' := by
  have hBl : ∀ q, Below w.heap.size w ((w.alloc (.cells #[.string ⟨#[79, 82, 65]⟩, .string ⟨#[65, 78, 68]⟩, .string ⟨#[69, 79, 82]⟩, .string ⟨#[65, 68, 67]⟩, .string ⟨#[83, 84, 65]⟩, .string ⟨#[76, 68, 65]⟩, .string ⟨#[67, 77, 80]⟩, .string ⟨#[83, 66, 67]⟩] 87)).drewN q) := fun q => below_drewN ((Below.refl _ w).alloc (Nat.le_refl _) _) q
  obtain ⟨N, hN⟩ : ∃ N, mkS (rnL (16 * (2 * u + 0) + 15)) = N := ⟨_, rfl⟩
  obtain ⟨L, hL⟩ : ∃ L, mkS ((opC (16 * (2 * u + 0) + 15)).drop 4) = L := ⟨_, rfl⟩
  unfold rcV
  rw [hN, hL]
  obtain ⟨B, hB⟩ : ∃ B : Int, ((16 * (2 * u + 0) + 15 : Nat) : Int) = B := ⟨_, rfl⟩
  have b0 : 0 ≤ B := by omega
  have hq : B.tdiv 16 = 2 * (u : Int) := by rw [Int.tdiv_eq_ediv_of_nonneg b0]; omega
  have hm : B.tmod 16 = 15 := by rw [Int.tmod_eq_emod_of_nonneg b0]; omega
  have hq1 : B / 16 = 2 * (u : Int) := by omega
  have hm1 : B % 16 = 15 := by omega
  have hq2 : (2 * (u : Int)) / 2 = u := by omega
  have hm2 : (2 * (u : Int)) % 2 = 0 := by omega
  have u0 : (0 : Int) ≤ u := by omega
  have u1 : (u : Int) < 8 := by omega
  obtain rfl : L = ⟨#[122, 114]⟩ := by rw [← hL]; clear hL; rcases lt8 hu with rfl | rfl | rfl | rfl | rfl | rfl | rfl | rfl <;> kernel_rfl
  rw [hB]
  have HBl := Lib.hid hBl
  have HN := Lib.hid hN
  clear hB hN hBl
  try clear hL
  by_cases h5 : 2 * (u : Int) < 8
  · skip
    obtain ⟨m, hme⟩ : ∃ m : Nat, 2 * u + 0 = m := ⟨2 * u + 0, by omega⟩
    obtain ⟨X, hXX⟩ : ∃ X, mkS [48 + UInt8.ofNat m] = X := ⟨_, rfl⟩
    have hX := digs_cut m (by omega)
    have hNX := dig_15_1 ⟨2 * u + 0, by omega⟩ (by show 2 * u + 0 < 8; omega)
    dsimp only at hNX
    rw [show (2 * u + 0) % 8 = m by omega] at hNX
    have hNX : N = ⟨#[66, 66, 82]⟩ ++ X := by rw [← HN.out, hNX, mkS_app, hXX]; rfl
    rw [hXX] at hX
    have hXs : X.size = 1 := by rw [← hXX, mkS_size]; rfl
    clear hXX
    have h7 : decide (2 * (u : Int) < 8) = true := decide_eq_true h5
    have h8 : (2 * (u : Int) < 8) = True := eq_true h5
    have HX := Lib.hid hNX
    have d0 : (2 * (u : Int)).tmod 8 = (m : Int) := by rw [Int.tmod_eq_emod_of_nonneg (by omega)]; omega
    have d00 : (2 * (u : Int)) % 8 = (m : Int) := by omega
    have d1 : IntKind.i64.wrap ((m : Int) + 1) = m + 1 := IntWalk.i64_in _ (by omega)
    have d2 : (0 : Int) ≤ m := by omega
    have d3 : (m : Int) + 1 ≤ 8 := by omega
    have d4 : ((m : Int) + 1).toNat = m + 1 := by omega
    have d5 : (0 : Int) ≤ (m : Int) + 1 := by omega
    have d6 : (m : Int) ≤ (m : Int) + 1 := by omega
    clear hNX hme HN
    go_enter Tryd.func24, Tryd.ntmps24
    go_wp2
    go_quiet (first | (go_at_call 53; refine Calls.quiet_of_same (rpick_any _ _ _ _)))
    go_wp2
    rw [HX.out]
    go_ret2
    exact ⟨rfl, HBl.out _⟩
  · skip
    obtain ⟨m, hme⟩ : ∃ m : Nat, 2 * u + 0 = m + 8 := ⟨2 * u + 0 - 8, by omega⟩
    obtain ⟨X, hXX⟩ : ∃ X, mkS [48 + UInt8.ofNat m] = X := ⟨_, rfl⟩
    have hX := digs_cut m (by omega)
    have hNX := dig_15_0 ⟨2 * u + 0, by omega⟩ (by show ¬ 2 * u + 0 < 8; omega)
    dsimp only at hNX
    rw [show (2 * u + 0) % 8 = m by omega] at hNX
    have hNX : N = ⟨#[66, 66, 83]⟩ ++ X := by rw [← HN.out, hNX, mkS_app, hXX]; rfl
    rw [hXX] at hX
    have hXs : X.size = 1 := by rw [← hXX, mkS_size]; rfl
    clear hXX
    have h7 : decide (2 * (u : Int) < 8) = false := decide_eq_false h5
    have h8 : (2 * (u : Int) < 8) = False := eq_false h5
    have HX := Lib.hid hNX
    have d0 : (2 * (u : Int)).tmod 8 = (m : Int) := by rw [Int.tmod_eq_emod_of_nonneg (by omega)]; omega
    have d00 : (2 * (u : Int)) % 8 = (m : Int) := by omega
    have d1 : IntKind.i64.wrap ((m : Int) + 1) = m + 1 := IntWalk.i64_in _ (by omega)
    have d2 : (0 : Int) ≤ m := by omega
    have d3 : (m : Int) + 1 ≤ 8 := by omega
    have d4 : ((m : Int) + 1).toNat = m + 1 := by omega
    have d5 : (0 : Int) ≤ (m : Int) + 1 := by omega
    have d6 : (m : Int) ≤ (m : Int) + 1 := by omega
    clear hNX hme HN
    go_enter Tryd.func24, Tryd.ntmps24
    go_wp2
    go_quiet (first | (go_at_call 53; refine Calls.quiet_of_same (rpick_any _ _ _ _)))
    go_wp2
    rw [HX.out]
    go_ret2
    exact ⟨rfl, HBl.out _⟩
set_option maxHeartbeats 8000000 in
theorem rcell_15_1 (u : Nat) (hu : u < 8) (w : World) : Calls Tryd.prog 24 #[.int .u8 ((16 * (2 * u + 1) + 15 : Nat) : Int)] w fun e w' => e = .returned (rcV (16 * (2 * u + 1) + 15)) ∧ Below w.heap.size w w' := by
  have hBl : ∀ q, Below w.heap.size w ((w.alloc (.cells #[.string ⟨#[79, 82, 65]⟩, .string ⟨#[65, 78, 68]⟩, .string ⟨#[69, 79, 82]⟩, .string ⟨#[65, 68, 67]⟩, .string ⟨#[83, 84, 65]⟩, .string ⟨#[76, 68, 65]⟩, .string ⟨#[67, 77, 80]⟩, .string ⟨#[83, 66, 67]⟩] 87)).drewN q) := fun q => below_drewN ((Below.refl _ w).alloc (Nat.le_refl _) _) q
  obtain ⟨N, hN⟩ : ∃ N, mkS (rnL (16 * (2 * u + 1) + 15)) = N := ⟨_, rfl⟩
  obtain ⟨L, hL⟩ : ∃ L, mkS ((opC (16 * (2 * u + 1) + 15)).drop 4) = L := ⟨_, rfl⟩
  unfold rcV
  rw [hN, hL]
  obtain ⟨B, hB⟩ : ∃ B : Int, ((16 * (2 * u + 1) + 15 : Nat) : Int) = B := ⟨_, rfl⟩
  have b0 : 0 ≤ B := by omega
  have hq : B.tdiv 16 = 2 * (u : Int) + 1 := by rw [Int.tdiv_eq_ediv_of_nonneg b0]; omega
  have hm : B.tmod 16 = 15 := by rw [Int.tmod_eq_emod_of_nonneg b0]; omega
  have hq1 : B / 16 = 2 * (u : Int) + 1 := by omega
  have hm1 : B % 16 = 15 := by omega
  have hq2 : (2 * (u : Int) + 1) / 2 = u := by omega
  have hm2 : (2 * (u : Int) + 1) % 2 = 1 := by omega
  have u0 : (0 : Int) ≤ u := by omega
  have u1 : (u : Int) < 8 := by omega
  obtain rfl : L = ⟨#[122, 114]⟩ := by rw [← hL]; clear hL; rcases lt8 hu with rfl | rfl | rfl | rfl | rfl | rfl | rfl | rfl <;> kernel_rfl
  rw [hB]
  have HBl := Lib.hid hBl
  have HN := Lib.hid hN
  clear hB hN hBl
  try clear hL
  by_cases h5 : 2 * (u : Int) + 1 < 8
  · skip
    obtain ⟨m, hme⟩ : ∃ m : Nat, 2 * u + 1 = m := ⟨2 * u + 1, by omega⟩
    obtain ⟨X, hXX⟩ : ∃ X, mkS [48 + UInt8.ofNat m] = X := ⟨_, rfl⟩
    have hX := digs_cut m (by omega)
    have hNX := dig_15_1 ⟨2 * u + 1, by omega⟩ (by show 2 * u + 1 < 8; omega)
    dsimp only at hNX
    rw [show (2 * u + 1) % 8 = m by omega] at hNX
    have hNX : N = ⟨#[66, 66, 82]⟩ ++ X := by rw [← HN.out, hNX, mkS_app, hXX]; rfl
    rw [hXX] at hX
    have hXs : X.size = 1 := by rw [← hXX, mkS_size]; rfl
    clear hXX
    have h7 : decide (2 * (u : Int) + 1 < 8) = true := decide_eq_true h5
    have h8 : (2 * (u : Int) + 1 < 8) = True := eq_true h5
    have HX := Lib.hid hNX
    have d0 : (2 * (u : Int) + 1).tmod 8 = (m : Int) := by rw [Int.tmod_eq_emod_of_nonneg (by omega)]; omega
    have d00 : (2 * (u : Int) + 1) % 8 = (m : Int) := by omega
    have d1 : IntKind.i64.wrap ((m : Int) + 1) = m + 1 := IntWalk.i64_in _ (by omega)
    have d2 : (0 : Int) ≤ m := by omega
    have d3 : (m : Int) + 1 ≤ 8 := by omega
    have d4 : ((m : Int) + 1).toNat = m + 1 := by omega
    have d5 : (0 : Int) ≤ (m : Int) + 1 := by omega
    have d6 : (m : Int) ≤ (m : Int) + 1 := by omega
    clear hNX hme HN
    go_enter Tryd.func24, Tryd.ntmps24
    go_wp2
    go_quiet (first | (go_at_call 53; refine Calls.quiet_of_same (rpick_any _ _ _ _)))
    go_wp2
    rw [HX.out]
    go_ret2
    exact ⟨rfl, HBl.out _⟩
  · skip
    obtain ⟨m, hme⟩ : ∃ m : Nat, 2 * u + 1 = m + 8 := ⟨2 * u + 1 - 8, by omega⟩
    obtain ⟨X, hXX⟩ : ∃ X, mkS [48 + UInt8.ofNat m] = X := ⟨_, rfl⟩
    have hX := digs_cut m (by omega)
    have hNX := dig_15_0 ⟨2 * u + 1, by omega⟩ (by show ¬ 2 * u + 1 < 8; omega)
    dsimp only at hNX
    rw [show (2 * u + 1) % 8 = m by omega] at hNX
    have hNX : N = ⟨#[66, 66, 83]⟩ ++ X := by rw [← HN.out, hNX, mkS_app, hXX]; rfl
    rw [hXX] at hX
    have hXs : X.size = 1 := by rw [← hXX, mkS_size]; rfl
    clear hXX
    have h7 : decide (2 * (u : Int) + 1 < 8) = false := decide_eq_false h5
    have h8 : (2 * (u : Int) + 1 < 8) = False := eq_false h5
    have HX := Lib.hid hNX
    have d0 : (2 * (u : Int) + 1).tmod 8 = (m : Int) := by rw [Int.tmod_eq_emod_of_nonneg (by omega)]; omega
    have d00 : (2 * (u : Int) + 1) % 8 = (m : Int) := by omega
    have d1 : IntKind.i64.wrap ((m : Int) + 1) = m + 1 := IntWalk.i64_in _ (by omega)
    have d2 : (0 : Int) ≤ m := by omega
    have d3 : (m : Int) + 1 ≤ 8 := by omega
    have d4 : ((m : Int) + 1).toNat = m + 1 := by omega
    have d5 : (0 : Int) ≤ (m : Int) + 1 := by omega
    have d6 : (m : Int) ≤ (m : Int) + 1 := by omega
    clear hNX hme HN
    go_enter Tryd.func24, Tryd.ntmps24
    go_wp2
    go_quiet (first | (go_at_call 53; refine Calls.quiet_of_same (rpick_any _ _ _ _)))
    go_wp2
    rw [HX.out]
    go_ret2
    exact ⟨rfl, HBl.out _⟩
end Go.Proofs.YtmbbcfdeielopaaDoorRRRR
