/-
  Opcode: the reference's columns 0, 3, 4, 12.
-/
import Derived.Test.YtleofglnlfpoeaaDoorRop1
import Derived.Test.YtleofglnlfpoeaaDoorG1
namespace Go.Proofs.YtleofglnlfpoeaaDoor
open Go.RowKit
set_option linter.unusedVariables false
set_option linter.unusedSimpArgs false
set_option maxRecDepth 100000
/-- The letters of a byte's name, none of one that does nothing. -/
def rnL (b : Nat) : List UInt8 := if opK b then opN b else []
def rcV (b : Nat) : Value := .tuple #[.string (mkS (rnL b)), .string (mkS ((opC b).drop 4))]
theorem lt16 {r : Nat} (h : r < 16) : r = 0 ∨ r = 1 ∨ r = 2 ∨ r = 3 ∨ r = 4 ∨ r = 5 ∨ r = 6 ∨ r = 7 ∨ r = 8 ∨ r = 9 ∨ r = 10 ∨ r = 11 ∨ r = 12 ∨ r = 13 ∨ r = 14 ∨ r = 15 := by omega
theorem idx_agg {T : TypeId} {n : Nat} {e : TypeId} (ht : Tryd.prog.underlying T = some (.array n e)) (hc : flat Tryd.prog e = true) (vs : Array Value) (r : Nat) (hr : r < n) (v : Value) (hv : vs[r]? = some v) (w : World) : (Instr.index T (.agg vs) (.int .i64 (r : Int))).run Tryd.prog w = .ok v w :=
  run_index_agg ht hc (by omega) (by omega) (by rw [Int.toNat_natCast]; exact hv) w
set_option maxHeartbeats 8000000 in
theorem rcolumn0_any (r : Nat) (hr : r < 16) (w : World) : Calls Tryd.prog 79 #[.int .i64 (r : Int)] w fun e w' => e = .returned (rcV (16 * r + 0)) ∧ w = w' := by
  obtain ⟨N, hN⟩ : ∃ N, mkS (rnL (16 * r + 0)) = N := ⟨_, rfl⟩
  obtain ⟨L, hL⟩ : ∃ L, mkS ((opC (16 * r + 0)).drop 4) = L := ⟨_, rfl⟩
  have hi : ∀ W : World, (Instr.index 100 (.agg #[.string ⟨#[66, 82, 75]⟩, .string ⟨#[66, 80, 76]⟩, .string ⟨#[74, 83, 82]⟩, .string ⟨#[66, 77, 73]⟩, .string ⟨#[82, 84, 73]⟩, .string ⟨#[66, 86, 67]⟩, .string ⟨#[82, 84, 83]⟩, .string ⟨#[66, 86, 83]⟩, .string ⟨#[66, 82, 65]⟩, .string ⟨#[66, 67, 67]⟩, .string ⟨#[76, 68, 89]⟩, .string ⟨#[66, 67, 83]⟩, .string ⟨#[67, 80, 89]⟩, .string ⟨#[66, 78, 69]⟩, .string ⟨#[67, 80, 88]⟩, .string ⟨#[66, 69, 81]⟩]) (.int .i64 (r : Int))).run Tryd.prog W = .ok (.string N) W := fun W => idx_agg Tryd.underlying100 (by kernel_rfl) _ r hr _ (by rw [← hN]; rcases lt16 hr with rfl | rfl | rfl | rfl | rfl | rfl | rfl | rfl | rfl | rfl | rfl | rfl | rfl | rfl | rfl | rfl <;> kernel_rfl) W
  unfold rcV
  rw [hN, hL]
  have hK : L = if (r : Int) = 0 ∨ (r : Int) = 10 ∨ (r : Int) = 12 ∨ (r : Int) = 14 then ⟨#[35, 35]⟩ else if (r : Int) = 2 then ⟨#[97, 98]⟩ else if (r : Int) = 4 ∨ (r : Int) = 6 then ⟨#[46, 46]⟩ else ⟨#[114, 101]⟩ := by
    rw [← hL]; clear hL hi; rcases lt16 hr with rfl | rfl | rfl | rfl | rfl | rfl | rfl | rfl | rfl | rfl | rfl | rfl | rfl | rfl | rfl | rfl <;> kernel_rfl
  have HK := Lib.hid hK
  clear hK
  clear hN hL
  go_enter Tryd.func79, Tryd.ntmps79
  go_wp2
  all_goals go_ret2
  all_goals refine ⟨?_, rfl⟩
  all_goals rw [HK.out]
  all_goals simp_all
set_option maxHeartbeats 8000000 in
theorem rcolumn3_any (r : Nat) (hr : r < 16) (w : World) : Calls Tryd.prog 80 #[.int .i64 (r : Int)] w fun e w' => e = .returned (rcV (16 * r + 3)) ∧ w = w' := by
  obtain ⟨N, hN⟩ : ∃ N, mkS (rnL (16 * r + 3)) = N := ⟨_, rfl⟩
  obtain ⟨L, hL⟩ : ∃ L, mkS ((opC (16 * r + 3)).drop 4) = L := ⟨_, rfl⟩
  have hi : ∀ W : World, (Instr.index 100 (.agg #[.string ⟨#[83, 84, 48]⟩, .string ⟨#[83, 84, 49]⟩, .string ⟨#[83, 84, 50]⟩, .string ⟨#[]⟩, .string ⟨#[84, 77, 65]⟩, .string ⟨#[84, 65, 77]⟩, .string ⟨#[]⟩, .string ⟨#[84, 73, 73]⟩, .string ⟨#[84, 83, 84]⟩, .string ⟨#[84, 83, 84]⟩, .string ⟨#[84, 83, 84]⟩, .string ⟨#[84, 83, 84]⟩, .string ⟨#[84, 68, 68]⟩, .string ⟨#[84, 73, 78]⟩, .string ⟨#[84, 73, 65]⟩, .string ⟨#[84, 65, 73]⟩]) (.int .i64 (r : Int))).run Tryd.prog W = .ok (.string N) W := fun W => idx_agg Tryd.underlying100 (by kernel_rfl) _ r hr _ (by rw [← hN]; rcases lt16 hr with rfl | rfl | rfl | rfl | rfl | rfl | rfl | rfl | rfl | rfl | rfl | rfl | rfl | rfl | rfl | rfl <;> kernel_rfl) W
  have hj : ∀ W : World, (Instr.index 100 (.agg #[.string ⟨#[35, 35]⟩, .string ⟨#[35, 35]⟩, .string ⟨#[35, 35]⟩, .string ⟨#[46, 46]⟩, .string ⟨#[35, 35]⟩, .string ⟨#[35, 35]⟩, .string ⟨#[46, 46]⟩, .string ⟨#[98, 108]⟩, .string ⟨#[116, 122]⟩, .string ⟨#[116, 97]⟩, .string ⟨#[116, 120]⟩, .string ⟨#[116, 121]⟩, .string ⟨#[98, 108]⟩, .string ⟨#[98, 108]⟩, .string ⟨#[98, 108]⟩, .string ⟨#[98, 108]⟩]) (.int .i64 (r : Int))).run Tryd.prog W = .ok (.string L) W := fun W => idx_agg Tryd.underlying100 (by kernel_rfl) _ r hr _ (by rw [← hL]; rcases lt16 hr with rfl | rfl | rfl | rfl | rfl | rfl | rfl | rfl | rfl | rfl | rfl | rfl | rfl | rfl | rfl | rfl <;> kernel_rfl) W
  unfold rcV
  rw [hN, hL]
  clear hN hL
  go_enter Tryd.func80, Tryd.ntmps80
  go_wp2
  go_ret2
  exact ⟨rfl, rfl⟩
set_option maxHeartbeats 8000000 in
theorem rcolumn4_any (r : Nat) (hr : r < 16) (w : World) : Calls Tryd.prog 81 #[.int .i64 (r : Int)] w fun e w' => e = .returned (rcV (16 * r + 4)) ∧ w = w' := by
  obtain ⟨N, hN⟩ : ∃ N, mkS (rnL (16 * r + 4)) = N := ⟨_, rfl⟩
  obtain ⟨L, hL⟩ : ∃ L, mkS ((opC (16 * r + 4)).drop 4) = L := ⟨_, rfl⟩
  have hi : ∀ W : World, (Instr.index 100 (.agg #[.string ⟨#[84, 83, 66]⟩, .string ⟨#[84, 82, 66]⟩, .string ⟨#[66, 73, 84]⟩, .string ⟨#[66, 73, 84]⟩, .string ⟨#[66, 83, 82]⟩, .string ⟨#[67, 83, 76]⟩, .string ⟨#[83, 84, 90]⟩, .string ⟨#[83, 84, 90]⟩, .string ⟨#[83, 84, 89]⟩, .string ⟨#[83, 84, 89]⟩, .string ⟨#[76, 68, 89]⟩, .string ⟨#[76, 68, 89]⟩, .string ⟨#[67, 80, 89]⟩, .string ⟨#[67, 83, 72]⟩, .string ⟨#[67, 80, 88]⟩, .string ⟨#[83, 69, 84]⟩]) (.int .i64 (r : Int))).run Tryd.prog W = .ok (.string N) W := fun W => idx_agg Tryd.underlying100 (by kernel_rfl) _ r hr _ (by rw [← hN]; rcases lt16 hr with rfl | rfl | rfl | rfl | rfl | rfl | rfl | rfl | rfl | rfl | rfl | rfl | rfl | rfl | rfl | rfl <;> kernel_rfl) W
  have hj : ∀ W : World, (Instr.index 100 (.agg #[.string ⟨#[122, 112]⟩, .string ⟨#[122, 112]⟩, .string ⟨#[122, 112]⟩, .string ⟨#[122, 120]⟩, .string ⟨#[114, 101]⟩, .string ⟨#[46, 46]⟩, .string ⟨#[122, 112]⟩, .string ⟨#[122, 120]⟩, .string ⟨#[122, 112]⟩, .string ⟨#[122, 120]⟩, .string ⟨#[122, 112]⟩, .string ⟨#[122, 120]⟩, .string ⟨#[122, 112]⟩, .string ⟨#[46, 46]⟩, .string ⟨#[122, 112]⟩, .string ⟨#[46, 46]⟩]) (.int .i64 (r : Int))).run Tryd.prog W = .ok (.string L) W := fun W => idx_agg Tryd.underlying100 (by kernel_rfl) _ r hr _ (by rw [← hL]; rcases lt16 hr with rfl | rfl | rfl | rfl | rfl | rfl | rfl | rfl | rfl | rfl | rfl | rfl | rfl | rfl | rfl | rfl <;> kernel_rfl) W
  unfold rcV
  rw [hN, hL]
  clear hN hL
  go_enter Tryd.func81, Tryd.ntmps81
  go_wp2
  go_ret2
  exact ⟨rfl, rfl⟩
set_option maxHeartbeats 8000000 in
theorem rcolumn12_any (r : Nat) (hr : r < 16) (w : World) : Calls Tryd.prog 82 #[.int .i64 (r : Int)] w fun e w' => e = .returned (rcV (16 * r + 12)) ∧ w = w' := by
  obtain ⟨N, hN⟩ : ∃ N, mkS (rnL (16 * r + 12)) = N := ⟨_, rfl⟩
  obtain ⟨L, hL⟩ : ∃ L, mkS ((opC (16 * r + 12)).drop 4) = L := ⟨_, rfl⟩
  have hi : ∀ W : World, (Instr.index 100 (.agg #[.string ⟨#[84, 83, 66]⟩, .string ⟨#[84, 82, 66]⟩, .string ⟨#[66, 73, 84]⟩, .string ⟨#[66, 73, 84]⟩, .string ⟨#[74, 77, 80]⟩, .string ⟨#[]⟩, .string ⟨#[74, 77, 80]⟩, .string ⟨#[74, 77, 80]⟩, .string ⟨#[83, 84, 89]⟩, .string ⟨#[83, 84, 90]⟩, .string ⟨#[76, 68, 89]⟩, .string ⟨#[76, 68, 89]⟩, .string ⟨#[67, 80, 89]⟩, .string ⟨#[]⟩, .string ⟨#[67, 80, 88]⟩, .string ⟨#[]⟩]) (.int .i64 (r : Int))).run Tryd.prog W = .ok (.string N) W := fun W => idx_agg Tryd.underlying100 (by kernel_rfl) _ r hr _ (by rw [← hN]; rcases lt16 hr with rfl | rfl | rfl | rfl | rfl | rfl | rfl | rfl | rfl | rfl | rfl | rfl | rfl | rfl | rfl | rfl <;> kernel_rfl) W
  have hj : ∀ W : World, (Instr.index 100 (.agg #[.string ⟨#[97, 98]⟩, .string ⟨#[97, 98]⟩, .string ⟨#[97, 98]⟩, .string ⟨#[97, 120]⟩, .string ⟨#[97, 98]⟩, .string ⟨#[46, 46]⟩, .string ⟨#[106, 105]⟩, .string ⟨#[106, 120]⟩, .string ⟨#[97, 98]⟩, .string ⟨#[97, 98]⟩, .string ⟨#[97, 98]⟩, .string ⟨#[97, 120]⟩, .string ⟨#[97, 98]⟩, .string ⟨#[46, 46]⟩, .string ⟨#[97, 98]⟩, .string ⟨#[46, 46]⟩]) (.int .i64 (r : Int))).run Tryd.prog W = .ok (.string L) W := fun W => idx_agg Tryd.underlying100 (by kernel_rfl) _ r hr _ (by rw [← hL]; rcases lt16 hr with rfl | rfl | rfl | rfl | rfl | rfl | rfl | rfl | rfl | rfl | rfl | rfl | rfl | rfl | rfl | rfl <;> kernel_rfl) W
  unfold rcV
  rw [hN, hL]
  clear hN hL
  go_enter Tryd.func82, Tryd.ntmps82
  go_wp2
  go_ret2
  exact ⟨rfl, rfl⟩
end Go.Proofs.YtleofglnlfpoeaaDoor
