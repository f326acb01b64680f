/-
  What octet's mask, Bit, With, Lo, Hi, Word, Signed, Left, Right and the reference's Signed answer, for every argument of their types; the world stays as it is.
-/
import Derived.Test.YtkmcfmflihkdjaaDoorProg
import Derived.WalkKit
import Derived.WalkSpells
import Derived.WalkLawsBesides
import Derived.BigQuiet
import Derived.Deep.QuietTactic
import Derived.Lib.Hide
namespace Go.Proofs.YtkmcfmflihkdjaaDoor
open Go.RowKit

def maskI (n : Int) : Int := if 0 ≤ n ∧ n ≤ 7 then 2 ^ n.toNat else 0
set_option maxHeartbeats 400000 in
theorem mask_any (n : Int) (w : World) :
    Calls Tryd.prog 11 #[.int .i64 n] w fun e w' => e = .returned (.int .u8 (maskI n)) ∧ w = w' := by
  by_cases h0 : n < 0
  · have hm : maskI n = 0 := by unfold maskI; rw [if_neg (by omega)]
    rw [hm]; clear hm
    go_enter Tryd.func11, Tryd.ntmps11
    go_wp2
    go_ret
    exact ⟨rfl, rfl⟩
  · by_cases h1 : 7 < n
    · have hm : maskI n = 0 := by unfold maskI; rw [if_neg (by omega)]
      rw [hm]; clear hm
      go_enter Tryd.func11, Tryd.ntmps11
      go_wp2
      go_ret
      exact ⟨rfl, rfl⟩
    · have : n = 0 ∨ n = 1 ∨ n = 2 ∨ n = 3 ∨ n = 4 ∨ n = 5 ∨ n = 6 ∨ n = 7 := by omega
      clear h0 h1
      rcases this with rfl | rfl | rfl | rfl | rfl | rfl | rfl | rfl
      all_goals
        go_enter Tryd.func11, Tryd.ntmps11
        go_wp2
        go_ret
        exact ⟨rfl, rfl⟩

def bitB (b n : Int) : Bool := bits .and .u8 b (maskI n) != 0
set_option maxHeartbeats 400000 in
theorem bit_any (b n : Int) (w : World) :
    Calls Tryd.prog 4 #[.int .u8 b, .int .i64 n] w fun e w' => e = .returned (.bool (bitB b n)) ∧ w = w' := by
  go_enter Tryd.func4, Tryd.ntmps4
  go_wp2_with (go_at_call 11; refine (mask_any _ _).mono ?_; rintro e w' ⟨rfl, rfl⟩)
  go_ret
  exact ⟨rfl, rfl⟩

def withI (b n : Int) (on : Bool) : Int := if on then bits .or .u8 b (maskI n) else bits .andNot .u8 b (maskI n)
set_option maxHeartbeats 400000 in
theorem with_any (b n : Int) (on : Bool) (w : World) :
    Calls Tryd.prog 26 #[.int .u8 b, .int .i64 n, .bool on] w fun e w' => e = .returned (.int .u8 (withI b n on)) ∧ w = w' := by
  cases on
  all_goals
    go_enter Tryd.func26, Tryd.ntmps26
    go_wp2_with (go_at_call 11; refine (mask_any _ _).mono ?_; rintro e w' ⟨rfl, rfl⟩)
    go_ret
    exact ⟨rfl, rfl⟩

def wordI (lo hi : Int) : Int := bits .or .u16 (IntKind.u16.wrap (IntKind.u16.wrap hi * 256)) (IntKind.u16.wrap lo)
set_option maxHeartbeats 400000 in
theorem signed_any (b : Int) (w : World) :
    Calls Tryd.prog 25 #[.int .u8 b] w fun e w' => e = .returned (.int .i64 (wrap64 (IntKind.i8.wrap b))) ∧ w = w' := by
  go_enter Tryd.func25, Tryd.ntmps25
  go_wp2
  go_ret
  exact ⟨rfl, rfl⟩
set_option maxHeartbeats 400000 in
theorem left_any (b : Int) (i : Bool) (w : World) :
    Calls Tryd.prog 20 #[.int .u8 b, .bool i] w fun e w' => e = .returned (.tuple #[.int .u8 (withI (IntKind.u8.wrap (b * 2)) 0 i), .bool (bitB b 7)]) ∧ w = w' := by
  go_enter Tryd.func20, Tryd.ntmps20
  go_wp2_with (first | (go_at_call 26; refine (with_any _ _ _ _).mono ?_; rintro e w' ⟨rfl, rfl⟩) | (go_at_call 4; refine (bit_any _ _ _).mono ?_; rintro e w' ⟨rfl, rfl⟩))
  go_ret2
  exact ⟨rfl, rfl⟩
set_option maxHeartbeats 400000 in
theorem right_any (b : Int) (i : Bool) (w : World) :
    Calls Tryd.prog 21 #[.int .u8 b, .bool i] w fun e w' => e = .returned (.tuple #[.int .u8 (withI (b / 2) 7 i), .bool (bitB b 0)]) ∧ w = w' := by
  go_enter Tryd.func21, Tryd.ntmps21
  go_wp2_with (first | (go_at_call 26; refine (with_any _ _ _ _).mono ?_; rintro e w' ⟨rfl, rfl⟩) | (go_at_call 4; refine (bit_any _ _ _).mono ?_; rintro e w' ⟨rfl, rfl⟩))
  go_ret2
  exact ⟨rfl, rfl⟩
end Go.Proofs.YtkmcfmflihkdjaaDoor
