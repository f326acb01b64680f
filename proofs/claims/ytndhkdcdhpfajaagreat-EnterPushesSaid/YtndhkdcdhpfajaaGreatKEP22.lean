/-
  Texts of these proofs, one behind the other: A6.
-/
import Derived.Test.YtndhkdcdhpfajaaGreatKEP19
import Derived.Test.YtndhkdcdhpfajaaGreatKEP21
namespace Go.Proofs.YtndhkdcdhpfajaaGreat
open Go.RowKit
/-- Bit n of a byte by halving, as the reference has it. -/
def rbit (b n : Int) : Bool := if 0 ≤ n ∧ n ≤ 7 then b / 2 ^ n.toNat % 2 == 1 else false
set_option maxHeartbeats 400000 in
theorem rbit_any (b n : Int) (w : World) (h0 : 0 ≤ b) (h1 : b ≤ 255) :
    Calls Tryz.prog 169 #[.int .u8 b, .int .i64 n] w fun e w' => e = .returned (.bool (rbit b n)) ∧ w = w' := by
  by_cases a : n < 0
  · have H : Hid (rbit b n = false) := by show _ = _; unfold rbit; rw [if_neg (by omega)]
    go_enter Tryz.func169, Tryz.ntmps169
    go_wp2
    go_ret
    exact ⟨by rw [H.out]; rfl, rfl⟩
  by_cases c : 7 < n
  · have H : Hid (rbit b n = false) := by show _ = _; unfold rbit; rw [if_neg (by omega)]
    go_enter Tryz.func169, Tryz.ntmps169
    go_wp2
    go_ret
    exact ⟨by rw [H.out]; rfl, rfl⟩
  have : n = 0 ∨ n = 1 ∨ n = 2 ∨ n = 3 ∨ n = 4 ∨ n = 5 ∨ n = 6 ∨ n = 7 := by omega
  clear a c
  rcases this with rfl | rfl | rfl | rfl | rfl | rfl | rfl | rfl
  all_goals
    go_enter Tryz.func169, Tryz.ntmps169
    go_wp2_with fail
    go_rounds 8
    go_ret
    refine ⟨?_, rfl⟩
    simp [rbit, Int.ediv_ediv_of_nonneg]
theorem power_any (n : Int) (w : World) (h0 : 0 ≤ n) (h1 : n ≤ 7) :
    Calls Tryz.prog 194 #[.int .i64 n] w fun e w' => e = .returned (.int .i64 (2 ^ n.toNat)) ∧ w = w' := by
  have : n = 0 ∨ n = 1 ∨ n = 2 ∨ n = 3 ∨ n = 4 ∨ n = 5 ∨ n = 6 ∨ n = 7 := by omega
  clear h0 h1
  rcases this with rfl | rfl | rfl | rfl | rfl | rfl | rfl | rfl
  all_goals
    go_enter Tryz.func194, Tryz.ntmps194
    go_wp2_with fail
    go_rounds 8
    go_ret
    exact ⟨rfl, rfl⟩
end Go.Proofs.YtndhkdcdhpfajaaGreat
