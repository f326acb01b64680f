/-
  Texts of these proofs, one behind the other: Rop3.
-/
import Derived.Test.YtmbbcfdeielopaaDoorRRRRKTK16
import Derived.Test.YtmbbcfdeielopaaDoorRRRRKTK15
namespace Go.Proofs.YtmbbcfdeielopaaDoorRRRR
open Go.RowKit
set_option linter.unusedVariables false
set_option linter.unusedSimpArgs false
set_option maxRecDepth 100000
theorem lt8 {r : Nat} (h : r < 8) : r = 0 ∨ r = 1 ∨ r = 2 ∨ r = 3 ∨ r = 4 ∨ r = 5 ∨ r = 6 ∨ r = 7 := by omega
set_option maxHeartbeats 8000000 in
theorem rturns_11 (u : Nat) (hu : u < 8) (w : World) : Calls Tryd.prog 54 #[.int .i64 (u : Int), .bool true, .bool true] w fun e w' => e = .returned (rcV (16 * (2 * u + 1) + 14)) ∧ w = w' := by
  obtain ⟨N, hN⟩ : ∃ N, mkS (rnL (16 * (2 * u + 1) + 14)) = N := ⟨_, rfl⟩
  obtain ⟨L, hL⟩ : ∃ L, mkS ((opC (16 * (2 * u + 1) + 14)).drop 4) = L := ⟨_, rfl⟩
  obtain ⟨E, hi, hE⟩ : ∃ E : ByteArray, (∀ W : World, (Instr.index 87 (.agg #[.string ⟨#[65, 83, 76]⟩, .string ⟨#[82, 79, 76]⟩, .string ⟨#[76, 83, 82]⟩, .string ⟨#[82, 79, 82]⟩, .string ⟨#[83, 84, 88]⟩, .string ⟨#[76, 68, 88]⟩, .string ⟨#[68, 69, 67]⟩, .string ⟨#[73, 78, 67]⟩]) (.int .i64 (u : Int))).run Tryd.prog W = .ok (.string E) W) ∧ N = if (u : Int) = 4 then ⟨#[83, 84, 90]⟩ else E := by
    refine ⟨mkS ([[65, 83, 76], [82, 79, 76], [76, 83, 82], [82, 79, 82], [83, 84, 88], [76, 68, 88], [68, 69, 67], [73, 78, 67]].getD u []), fun W => idx_agg Tryd.underlying87 (by kernel_rfl) _ u hu _ ?_ W, ?_⟩
    · rcases lt8 hu with rfl | rfl | rfl | rfl | rfl | rfl | rfl | rfl <;> kernel_rfl
    · rw [← hN]; clear hL hN; rcases lt8 hu with rfl | rfl | rfl | rfl | rfl | rfl | rfl | rfl <;> kernel_rfl
  have hK : L = if (u : Int) = 4 then ⟨#[97, 120]⟩ else if (u : Int) = 5 then ⟨#[97, 121]⟩ else ⟨#[97, 120]⟩ := by
    rw [← hL]; clear hL hN hi hE; rcases lt8 hu with rfl | rfl | rfl | rfl | rfl | rfl | rfl | rfl <;> kernel_rfl
  unfold rcV
  rw [hN, hL]
  have HK := Lib.hid hK
  have HE := Lib.hid hE
  clear hN hL hK hE
  go_enter Tryd.func54, Tryd.ntmps54
  go_wp2_with (go_at_call 53; refine (rpick_any _ _ _ _).mono ?_; rintro e w' ⟨rfl, rfl⟩)
  all_goals go_ret2
  all_goals refine ⟨?_, rfl⟩
  all_goals rw [HK.out, HE.out]
  all_goals simp_all
set_option maxHeartbeats 8000000 in
theorem rturns_10 (u : Nat) (hu : u < 8) (w : World) : Calls Tryd.prog 54 #[.int .i64 (u : Int), .bool true, .bool false] w fun e w' => e = .returned (rcV (16 * (2 * u + 1) + 6)) ∧ w = w' := by
  obtain ⟨N, hN⟩ : ∃ N, mkS (rnL (16 * (2 * u + 1) + 6)) = N := ⟨_, rfl⟩
  obtain ⟨L, hL⟩ : ∃ L, mkS ((opC (16 * (2 * u + 1) + 6)).drop 4) = L := ⟨_, rfl⟩
  obtain ⟨E, hi, hE⟩ : ∃ E : ByteArray, (∀ W : World, (Instr.index 87 (.agg #[.string ⟨#[65, 83, 76]⟩, .string ⟨#[82, 79, 76]⟩, .string ⟨#[76, 83, 82]⟩, .string ⟨#[82, 79, 82]⟩, .string ⟨#[83, 84, 88]⟩, .string ⟨#[76, 68, 88]⟩, .string ⟨#[68, 69, 67]⟩, .string ⟨#[73, 78, 67]⟩]) (.int .i64 (u : Int))).run Tryd.prog W = .ok (.string E) W) ∧ N = E := by
    refine ⟨mkS ([[65, 83, 76], [82, 79, 76], [76, 83, 82], [82, 79, 82], [83, 84, 88], [76, 68, 88], [68, 69, 67], [73, 78, 67]].getD u []), fun W => idx_agg Tryd.underlying87 (by kernel_rfl) _ u hu _ ?_ W, ?_⟩
    · rcases lt8 hu with rfl | rfl | rfl | rfl | rfl | rfl | rfl | rfl <;> kernel_rfl
    · rw [← hN]; clear hL hN; rcases lt8 hu with rfl | rfl | rfl | rfl | rfl | rfl | rfl | rfl <;> kernel_rfl
  have hK : L = if (u : Int) = 4 ∨ (u : Int) = 5 then ⟨#[122, 121]⟩ else ⟨#[122, 120]⟩ := by
    rw [← hL]; clear hL hN hi hE; rcases lt8 hu with rfl | rfl | rfl | rfl | rfl | rfl | rfl | rfl <;> kernel_rfl
  unfold rcV
  rw [hN, hL]
  have HK := Lib.hid hK
  have HE := Lib.hid hE
  clear hN hL hK hE
  go_enter Tryd.func54, Tryd.ntmps54
  go_wp2_with (go_at_call 53; refine (rpick_any _ _ _ _).mono ?_; rintro e w' ⟨rfl, rfl⟩)
  all_goals go_ret2
  all_goals refine ⟨?_, rfl⟩
  all_goals rw [HK.out, HE.out]
  all_goals simp_all
set_option maxHeartbeats 8000000 in
theorem rturns_01 (u : Nat) (hu : u < 8) (w : World) : Calls Tryd.prog 54 #[.int .i64 (u : Int), .bool false, .bool true] w fun e w' => e = .returned (rcV (16 * (2 * u + 0) + 14)) ∧ w = w' := by
  obtain ⟨N, hN⟩ : ∃ N, mkS (rnL (16 * (2 * u + 0) + 14)) = N := ⟨_, rfl⟩
  obtain ⟨L, hL⟩ : ∃ L, mkS ((opC (16 * (2 * u + 0) + 14)).drop 4) = L := ⟨_, rfl⟩
  obtain ⟨E, hi, hE⟩ : ∃ E : ByteArray, (∀ W : World, (Instr.index 87 (.agg #[.string ⟨#[65, 83, 76]⟩, .string ⟨#[82, 79, 76]⟩, .string ⟨#[76, 83, 82]⟩, .string ⟨#[82, 79, 82]⟩, .string ⟨#[83, 84, 88]⟩, .string ⟨#[76, 68, 88]⟩, .string ⟨#[68, 69, 67]⟩, .string ⟨#[73, 78, 67]⟩]) (.int .i64 (u : Int))).run Tryd.prog W = .ok (.string E) W) ∧ N = E := by
    refine ⟨mkS ([[65, 83, 76], [82, 79, 76], [76, 83, 82], [82, 79, 82], [83, 84, 88], [76, 68, 88], [68, 69, 67], [73, 78, 67]].getD u []), fun W => idx_agg Tryd.underlying87 (by kernel_rfl) _ u hu _ ?_ W, ?_⟩
    · rcases lt8 hu with rfl | rfl | rfl | rfl | rfl | rfl | rfl | rfl <;> kernel_rfl
    · rw [← hN]; clear hL hN; rcases lt8 hu with rfl | rfl | rfl | rfl | rfl | rfl | rfl | rfl <;> kernel_rfl
  have hK : L = ⟨#[97, 98]⟩ := by
    rw [← hL]; clear hL hN hi hE; rcases lt8 hu with rfl | rfl | rfl | rfl | rfl | rfl | rfl | rfl <;> kernel_rfl
  unfold rcV
  rw [hN, hL]
  have HK := Lib.hid hK
  have HE := Lib.hid hE
  clear hN hL hK hE
  go_enter Tryd.func54, Tryd.ntmps54
  go_wp2_with (go_at_call 53; refine (rpick_any _ _ _ _).mono ?_; rintro e w' ⟨rfl, rfl⟩)
  all_goals go_ret2
  all_goals refine ⟨?_, rfl⟩
  all_goals rw [HK.out, HE.out]
  all_goals simp_all
set_option maxHeartbeats 8000000 in
theorem rturns_00 (u : Nat) (hu : u < 8) (w : World) : Calls Tryd.prog 54 #[.int .i64 (u : Int), .bool false, .bool false] w fun e w' => e = .returned (rcV (16 * (2 * u + 0) + 6)) ∧ w = w' := by
  obtain ⟨N, hN⟩ : ∃ N, mkS (rnL (16 * (2 * u + 0) + 6)) = N := ⟨_, rfl⟩
  obtain ⟨L, hL⟩ : ∃ L, mkS ((opC (16 * (2 * u + 0) + 6)).drop 4) = L := ⟨_, rfl⟩
  obtain ⟨E, hi, hE⟩ : ∃ E : ByteArray, (∀ W : World, (Instr.index 87 (.agg #[.string ⟨#[65, 83, 76]⟩, .string ⟨#[82, 79, 76]⟩, .string ⟨#[76, 83, 82]⟩, .string ⟨#[82, 79, 82]⟩, .string ⟨#[83, 84, 88]⟩, .string ⟨#[76, 68, 88]⟩, .string ⟨#[68, 69, 67]⟩, .string ⟨#[73, 78, 67]⟩]) (.int .i64 (u : Int))).run Tryd.prog W = .ok (.string E) W) ∧ N = E := by
    refine ⟨mkS ([[65, 83, 76], [82, 79, 76], [76, 83, 82], [82, 79, 82], [83, 84, 88], [76, 68, 88], [68, 69, 67], [73, 78, 67]].getD u []), fun W => idx_agg Tryd.underlying87 (by kernel_rfl) _ u hu _ ?_ W, ?_⟩
    · rcases lt8 hu with rfl | rfl | rfl | rfl | rfl | rfl | rfl | rfl <;> kernel_rfl
    · rw [← hN]; clear hL hN; rcases lt8 hu with rfl | rfl | rfl | rfl | rfl | rfl | rfl | rfl <;> kernel_rfl
  have hK : L = ⟨#[122, 112]⟩ := by
    rw [← hL]; clear hL hN hi hE; rcases lt8 hu with rfl | rfl | rfl | rfl | rfl | rfl | rfl | rfl <;> kernel_rfl
  unfold rcV
  rw [hN, hL]
  have HK := Lib.hid hK
  have HE := Lib.hid hE
  clear hN hL hK hE
  go_enter Tryd.func54, Tryd.ntmps54
  go_wp2_with (go_at_call 53; refine (rpick_any _ _ _ _).mono ?_; rintro e w' ⟨rfl, rfl⟩)
  all_goals go_ret2
  all_goals refine ⟨?_, rfl⟩
  all_goals rw [HK.out, HE.out]
  all_goals simp_all
end Go.Proofs.YtmbbcfdeielopaaDoorRRRR
