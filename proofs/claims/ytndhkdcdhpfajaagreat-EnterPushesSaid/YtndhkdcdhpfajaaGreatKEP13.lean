/-
  Texts of these proofs, one behind the other: A1.
-/
import Derived.Test.YtndhkdcdhpfajaaGreatProg
import Derived.WalkKit
import Derived.WalkSpells
import Derived.WalkLawsBesides
import Derived.BigQuiet
import Derived.Deep.QuietTactic
import Derived.Lib.Hide
namespace Go.Proofs.YtndhkdcdhpfajaaGreat
open Go.RowKit

def maskI (n : Int) : Int := if 0 ≤ n ∧ n ≤ 7 then 2 ^ n.toNat else 0
set_option maxHeartbeats 400000 in
theorem mask_any (n : Int) (w : World) :
    Calls Tryz.prog 197 #[.int .i64 n] w fun e w' => e = .returned (.int .u8 (maskI n)) ∧ w = w' := by
  by_cases h0 : n < 0
  · have hm : maskI n = 0 := by unfold maskI; rw [if_neg (by omega)]
    rw [hm]; clear hm
    go_enter Tryz.func197, Tryz.ntmps197
    go_wp2
    go_ret
    exact ⟨rfl, rfl⟩
  · by_cases h1 : 7 < n
    · have hm : maskI n = 0 := by unfold maskI; rw [if_neg (by omega)]
      rw [hm]; clear hm
      go_enter Tryz.func197, Tryz.ntmps197
      go_wp2
      go_ret
      exact ⟨rfl, rfl⟩
    · have : n = 0 ∨ n = 1 ∨ n = 2 ∨ n = 3 ∨ n = 4 ∨ n = 5 ∨ n = 6 ∨ n = 7 := by omega
      clear h0 h1
      rcases this with rfl | rfl | rfl | rfl | rfl | rfl | rfl | rfl
      all_goals
        go_enter Tryz.func197, Tryz.ntmps197
        go_wp2
        go_ret
        exact ⟨rfl, rfl⟩

def bitB (b n : Int) : Bool := bits .and .u8 b (maskI n) != 0
set_option maxHeartbeats 400000 in
theorem bit_any (b n : Int) (w : World) :
    Calls Tryz.prog 174 #[.int .u8 b, .int .i64 n] w fun e w' => e = .returned (.bool (bitB b n)) ∧ w = w' := by
  go_enter Tryz.func174, Tryz.ntmps174
  go_wp2_with (go_at_call 197; refine (mask_any _ _).mono ?_; rintro e w' ⟨rfl, rfl⟩)
  go_ret
  exact ⟨rfl, rfl⟩

def withI (b n : Int) (on : Bool) : Int := if on then bits .or .u8 b (maskI n) else bits .andNot .u8 b (maskI n)
set_option maxHeartbeats 400000 in
theorem with_any (b n : Int) (on : Bool) (w : World) :
    Calls Tryz.prog 210 #[.int .u8 b, .int .i64 n, .bool on] w fun e w' => e = .returned (.int .u8 (withI b n on)) ∧ w = w' := by
  cases on
  all_goals
    go_enter Tryz.func210, Tryz.ntmps210
    go_wp2_with (go_at_call 197; refine (mask_any _ _).mono ?_; rintro e w' ⟨rfl, rfl⟩)
    go_ret
    exact ⟨rfl, rfl⟩

set_option maxHeartbeats 400000 in
theorem lo_any (x : Int) (w : World) :
    Calls Tryz.prog 82 #[.int .u16 x] w fun e w' => e = .returned (.int .u8 (IntKind.u8.wrap x)) ∧ w = w' := by
  go_enter Tryz.func82, Tryz.ntmps82
  go_wp2
  go_ret
  exact ⟨rfl, rfl⟩
set_option maxHeartbeats 400000 in
theorem hi_any (x : Int) (w : World) :
    Calls Tryz.prog 81 #[.int .u16 x] w fun e w' => e = .returned (.int .u8 (IntKind.u8.wrap (x / 256))) ∧ w = w' := by
  go_enter Tryz.func81, Tryz.ntmps81
  go_wp2
  go_ret
  exact ⟨rfl, rfl⟩
def wordI (lo hi : Int) : Int := bits .or .u16 (IntKind.u16.wrap (IntKind.u16.wrap hi * 256)) (IntKind.u16.wrap lo)
set_option maxHeartbeats 400000 in
theorem word_any (lo hi : Int) (w : World) :
    Calls Tryz.prog 52 #[.int .u8 lo, .int .u8 hi] w fun e w' => e = .returned (.int .u16 (wordI lo hi)) ∧ w = w' := by
  go_enter Tryz.func52, Tryz.ntmps52
  go_wp2
  go_ret
  exact ⟨rfl, rfl⟩
end Go.Proofs.YtndhkdcdhpfajaaGreat
