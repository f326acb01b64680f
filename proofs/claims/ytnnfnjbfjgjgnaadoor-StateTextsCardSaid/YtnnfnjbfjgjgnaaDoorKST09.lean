/-
  Texts of these proofs, one behind the other: A1, M6.
-/
import Derived.Test.YtnnfnjbfjgjgnaaDoorProg
import Derived.WalkKit
import Derived.WalkSpells
import Derived.WalkLawsBesides
import Derived.BigQuiet
import Derived.Deep.QuietTactic
import Derived.Lib.Hide
namespace Go.Proofs.YtnnfnjbfjgjgnaaDoor
open Go.RowKit

def maskI (n : Int) : Int := if 0 ≤ n ∧ n ≤ 7 then 2 ^ n.toNat else 0
set_option maxHeartbeats 400000 in
theorem mask_any (n : Int) (w : World) :
    Calls Tryd.prog 56 #[.int .i64 n] w fun e w' => e = .returned (.int .u8 (maskI n)) ∧ w = w' := by
  by_cases h0 : n < 0
  · have hm : maskI n = 0 := by unfold maskI; rw [if_neg (by omega)]
    rw [hm]; clear hm
    go_enter Tryd.func56, Tryd.ntmps56
    go_wp2
    go_ret
    exact ⟨rfl, rfl⟩
  · by_cases h1 : 7 < n
    · have hm : maskI n = 0 := by unfold maskI; rw [if_neg (by omega)]
      rw [hm]; clear hm
      go_enter Tryd.func56, Tryd.ntmps56
      go_wp2
      go_ret
      exact ⟨rfl, rfl⟩
    · have : n = 0 ∨ n = 1 ∨ n = 2 ∨ n = 3 ∨ n = 4 ∨ n = 5 ∨ n = 6 ∨ n = 7 := by omega
      clear h0 h1
      rcases this with rfl | rfl | rfl | rfl | rfl | rfl | rfl | rfl
      all_goals
        go_enter Tryd.func56, Tryd.ntmps56
        go_wp2
        go_ret
        exact ⟨rfl, rfl⟩

def bitB (b n : Int) : Bool := bits .and .u8 b (maskI n) != 0
def withI (b n : Int) (on : Bool) : Int := if on then bits .or .u8 b (maskI n) else bits .andNot .u8 b (maskI n)
set_option maxHeartbeats 400000 in
theorem with_any (b n : Int) (on : Bool) (w : World) :
    Calls Tryd.prog 52 #[.int .u8 b, .int .i64 n, .bool on] w fun e w' => e = .returned (.int .u8 (withI b n on)) ∧ w = w' := by
  cases on
  all_goals
    go_enter Tryd.func52, Tryd.ntmps52
    go_wp2_with (go_at_call 56; refine (mask_any _ _).mono ?_; rintro e w' ⟨rfl, rfl⟩)
    go_ret
    exact ⟨rfl, rfl⟩

set_option maxHeartbeats 400000 in
theorem lo_any (x : Int) (w : World) :
    Calls Tryd.prog 24 #[.int .u16 x] w fun e w' => e = .returned (.int .u8 (IntKind.u8.wrap x)) ∧ w = w' := by
  go_enter Tryd.func24, Tryd.ntmps24
  go_wp2
  go_ret
  exact ⟨rfl, rfl⟩
set_option maxHeartbeats 400000 in
theorem hi_any (x : Int) (w : World) :
    Calls Tryd.prog 28 #[.int .u16 x] w fun e w' => e = .returned (.int .u8 (IntKind.u8.wrap (x / 256))) ∧ w = w' := by
  go_enter Tryd.func28, Tryd.ntmps28
  go_wp2
  go_ret
  exact ⟨rfl, rfl⟩
def wordI (lo hi : Int) : Int := bits .or .u16 (IntKind.u16.wrap (IntKind.u16.wrap hi * 256)) (IntKind.u16.wrap lo)
set_option maxHeartbeats 400000 in
theorem word_any (lo hi : Int) (w : World) :
    Calls Tryd.prog 23 #[.int .u8 lo, .int .u8 hi] w fun e w' => e = .returned (.int .u16 (wordI lo hi)) ∧ w = w' := by
  go_enter Tryd.func23, Tryd.ntmps23
  go_wp2
  go_ret
  exact ⟨rfl, rfl⟩
end Go.Proofs.YtnnfnjbfjgjgnaaDoor
namespace Go.Proofs.YtnnfnjbfjgjgnaaDoor
open Go.RowKit
set_option linter.unusedVariables false
set_option maxRecDepth 100000
theorem or16 (x y : BitVec 16) : (x ||| y).toNat = x.toNat ||| y.toNat := BitVec.toNat_or x y
theorem bits_or16 (x y : Int) : bits .or .u16 x y = IntKind.u16.wrap (((BitVec.ofInt 16 x).toNat ||| (BitVec.ofInt 16 y).toNat : Nat) : Int) := by
  rw [← or16]; rfl
theorem or_cat (a b : Nat) (hb : b < 256) (ha : a < 256) : bits .or .u16 ((a : Int) * 256) (b : Int) = (a : Int) * 256 + b := by
  have e1 : BitVec.ofInt 16 ((a : Int) * 256) = BitVec.ofNat 16 (a * 256) := by
    rw [show ((a : Int) * 256) = ((a * 256 : Nat) : Int) by omega, BitVec.ofInt_natCast]
  have e2 : BitVec.ofInt 16 (b : Int) = BitVec.ofNat 16 b := BitVec.ofInt_natCast _ _
  have e3 : a * 256 ||| b = a * 256 + b := by
    have := Nat.shiftLeft_add_eq_or_of_lt (i := 8) (b := b) (by omega) a
    rw [Nat.shiftLeft_eq, show (2 : Nat) ^ 8 = 256 by decide] at this
    omega
  rw [bits_or16, e1, e2, BitVec.toNat_ofNat, BitVec.toNat_ofNat, Nat.mod_eq_of_lt (by omega), Nat.mod_eq_of_lt (by omega), e3, IntWalk.u16_in _ (by omega)]
  omega
theorem wordI_eq (l h : Int) (l0 : 0 ≤ l) (l1 : l ≤ 255) (h0 : 0 ≤ h) (h1 : h ≤ 255) : wordI l h = l + 256 * h := by
  obtain ⟨l, rfl⟩ := Int.eq_ofNat_of_zero_le l0
  obtain ⟨h, rfl⟩ := Int.eq_ofNat_of_zero_le h0
  unfold wordI
  rw [IntWalk.u16_in l (by omega), IntWalk.u16_in h (by omega), IntWalk.u16_in _ (by omega), or_cat h l (by omega) (by omega)]
  omega
end Go.Proofs.YtnnfnjbfjgjgnaaDoor
