/-
  What octet's mask, Bit, With, Lo, Hi, Word, Signed, Left, Right and the reference's Signed answer, for every argument of their types; the world stays as it is.
-/
import Derived.Test.YtleofglnlfpoeaaDoorProg
import Derived.WalkKit
import Derived.WalkSpells
import Derived.WalkLawsBesides
import Derived.BigQuiet
import Derived.Deep.QuietTactic
import Derived.Lib.Hide
namespace Go.Proofs.YtleofglnlfpoeaaDoor
open Go.RowKit

def maskI (n : Int) : Int := if 0 ≤ n ∧ n ≤ 7 then 2 ^ n.toNat else 0
set_option maxHeartbeats 400000 in
theorem mask_any (n : Int) (w : World) :
    Calls Tryd.prog 65 #[.int .i64 n] w fun e w' => e = .returned (.int .u8 (maskI n)) ∧ w = w' := by
  by_cases h0 : n < 0
  · have hm : maskI n = 0 := by unfold maskI; rw [if_neg (by omega)]
    rw [hm]; clear hm
    go_enter Tryd.func65, Tryd.ntmps65
    go_wp2
    go_ret
    exact ⟨rfl, rfl⟩
  · by_cases h1 : 7 < n
    · have hm : maskI n = 0 := by unfold maskI; rw [if_neg (by omega)]
      rw [hm]; clear hm
      go_enter Tryd.func65, Tryd.ntmps65
      go_wp2
      go_ret
      exact ⟨rfl, rfl⟩
    · have : n = 0 ∨ n = 1 ∨ n = 2 ∨ n = 3 ∨ n = 4 ∨ n = 5 ∨ n = 6 ∨ n = 7 := by omega
      clear h0 h1
      rcases this with rfl | rfl | rfl | rfl | rfl | rfl | rfl | rfl
      all_goals
        go_enter Tryd.func65, Tryd.ntmps65
        go_wp2
        go_ret
        exact ⟨rfl, rfl⟩

def bitB (b n : Int) : Bool := bits .and .u8 b (maskI n) != 0
set_option maxHeartbeats 400000 in
theorem bit_any (b n : Int) (w : World) :
    Calls Tryd.prog 37 #[.int .u8 b, .int .i64 n] w fun e w' => e = .returned (.bool (bitB b n)) ∧ w = w' := by
  go_enter Tryd.func37, Tryd.ntmps37
  go_wp2_with (go_at_call 65; refine (mask_any _ _).mono ?_; rintro e w' ⟨rfl, rfl⟩)
  go_ret
  exact ⟨rfl, rfl⟩

def withI (b n : Int) (on : Bool) : Int := if on then bits .or .u8 b (maskI n) else bits .andNot .u8 b (maskI n)
set_option maxHeartbeats 400000 in
theorem lo_any (x : Int) (w : World) :
    Calls Tryd.prog 58 #[.int .u16 x] w fun e w' => e = .returned (.int .u8 (IntKind.u8.wrap x)) ∧ w = w' := by
  go_enter Tryd.func58, Tryd.ntmps58
  go_wp2
  go_ret
  exact ⟨rfl, rfl⟩
set_option maxHeartbeats 400000 in
theorem hi_any (x : Int) (w : World) :
    Calls Tryd.prog 90 #[.int .u16 x] w fun e w' => e = .returned (.int .u8 (IntKind.u8.wrap (x / 256))) ∧ w = w' := by
  go_enter Tryd.func90, Tryd.ntmps90
  go_wp2
  go_ret
  exact ⟨rfl, rfl⟩
def wordI (lo hi : Int) : Int := bits .or .u16 (IntKind.u16.wrap (IntKind.u16.wrap hi * 256)) (IntKind.u16.wrap lo)
set_option maxHeartbeats 400000 in
theorem word_any (lo hi : Int) (w : World) :
    Calls Tryd.prog 53 #[.int .u8 lo, .int .u8 hi] w fun e w' => e = .returned (.int .u16 (wordI lo hi)) ∧ w = w' := by
  go_enter Tryd.func53, Tryd.ntmps53
  go_wp2
  go_ret
  exact ⟨rfl, rfl⟩
set_option maxHeartbeats 400000 in
theorem signed_any (b : Int) (w : World) :
    Calls Tryd.prog 57 #[.int .u8 b] w fun e w' => e = .returned (.int .i64 (wrap64 (IntKind.i8.wrap b))) ∧ w = w' := by
  go_enter Tryd.func57, Tryd.ntmps57
  go_wp2
  go_ret
  exact ⟨rfl, rfl⟩
theorem rsigned_any (b : Int) (w : World) (h0 : 0 ≤ b) (h1 : b ≤ 255) :
    Calls Tryd.prog 30 #[.int .u8 b] w fun e w' => e = .returned (.int .i64 (if 127 < b then b - 256 else b)) ∧ w = w' := by
  by_cases h : 127 < b
  all_goals
    go_enter Tryd.func30, Tryd.ntmps30
    go_wp2
    go_ret
    exact ⟨by simp, rfl⟩
end Go.Proofs.YtleofglnlfpoeaaDoor
