/-
  Texts of these proofs, one behind the other: Mod1.
-/
import Derived.Test.YtmbbcfdeielopaaDoorRRRRKTK03
import Derived.Test.YtmbbcfdeielopaaDoorRRRRKTK16
import Derived.Test.YtmbbcfdeielopaaDoorRRRRKTK17
namespace Go.Proofs.YtmbbcfdeielopaaDoorRRRR
open Go.RowKit
set_option linter.unusedVariables false
set_option linter.unusedSimpArgs false
set_option maxRecDepth 100000
/-- How many bytes a mode has behind the first one; -1 where it is none. -/
def mbP (m : Nat) : Int := if m < 20 then bhP (m : Int) else -1
theorem modes_of (m : Nat) : m = 0 ∨ m = 1 ∨ m = 2 ∨ m = 3 ∨ m = 4 ∨ m = 5 ∨ m = 6 ∨ m = 7 ∨ m = 8 ∨ m = 9 ∨ m = 10 ∨ m = 11 ∨ m = 12 ∨ m = 13 ∨ m = 14 ∨ m = 15 ∨ m = 16 ∨ m = 17 ∨ m = 18 ∨ m = 19 ∨ 20 ≤ m := by omega
theorem mbP_hi (m : Nat) (h : 20 ≤ m) : mbP m = -1 := if_neg (by omega)
/-- What is added: x in the modes 3, 6, 14 and 16, y in 4, 7 and 10, else nothing. -/
def mixP (m : Nat) (x y : Int) : Int := if m = 3 ∨ m = 6 ∨ m = 14 ∨ m = 16 then x else if m = 4 ∨ m = 7 ∨ m = 10 then y else 0
theorem mixP_hi (m : Nat) (x y : Int) (h : 20 ≤ m) : mixP m x y = 0 := by unfold mixP; rw [if_neg (by omega), if_neg (by omega)]
set_option maxHeartbeats 8000000 in
theorem mbehind_any (m : Nat) (w : World) : Calls Tryd.prog 38 #[.int .u8 (m : Int)] w fun e w' => e = .returned (.int .i64 (mbP m)) ∧ w = w' := by
  rcases modes_of m with rfl | rfl | rfl | rfl | rfl | rfl | rfl | rfl | rfl | rfl | rfl | rfl | rfl | rfl | rfl | rfl | rfl | rfl | rfl | rfl | h
  case inr.inr.inr.inr.inr.inr.inr.inr.inr.inr.inr.inr.inr.inr.inr.inr.inr.inr.inr.inr =>
    rw [mbP_hi m h]
    have h0 : (20 : Int) ≤ m := by omega
    clear h
    go_enter Tryd.func38, Tryd.ntmps38
    go_wp2
    go_ret
    exact ⟨rfl, rfl⟩
  all_goals
    go_enter Tryd.func38, Tryd.ntmps38
    go_wp2
    go_ret
    exact ⟨rfl, rfl⟩
theorem mo_signed : ∀ b : Fin 256, wrap64 (IntKind.i8.wrap (b.val : Int)) = if (127 : Int) < (b.val : Int) then (b.val : Int) - 256 else b.val := by decide +kernel
theorem u16_mod (n : Int) : IntKind.u16.wrap n = n % 65536 := by simp [IntKind.wrap, IntKind.signed, IntKind.bits]
/-- Where a branch goes: from behind it, by a distance with its sign. -/
def tgtP (b d : Int) : Int := (b + (if 127 < d then d - 256 else d)) % 65536
end Go.Proofs.YtmbbcfdeielopaaDoorRRRR
