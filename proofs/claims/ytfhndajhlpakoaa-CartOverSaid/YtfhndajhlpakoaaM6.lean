/-
  Plain facts on words of two bytes.
-/
import Derived.Test.YtfhndajhlpakoaaA1
namespace Go.Proofs.Ytfhndajhlpakoaa
open Go.RowKit
set_option linter.unusedVariables false
set_option maxRecDepth 100000
theorem or16 (x y : BitVec 16) : (x ||| y).toNat = x.toNat ||| y.toNat := BitVec.toNat_or x y
theorem bits_or16 (x y : Int) : bits .or .u16 x y = IntKind.u16.wrap (((BitVec.ofInt 16 x).toNat ||| (BitVec.ofInt 16 y).toNat : Nat) : Int) := by
  rw [← or16]; rfl
theorem or_cat (a b : Nat) (hb : b < 256) (ha : a < 256) : bits .or .u16 ((a : Int) * 256) (b : Int) = (a : Int) * 256 + b := by
  have e1 : BitVec.ofInt 16 ((a : Int) * 256) = BitVec.ofNat 16 (a * 256) := by
    rw [show ((a : Int) * 256) = ((a * 256 : Nat) : Int) by omega, BitVec.ofInt_natCast]
  have e2 : BitVec.ofInt 16 (b : Int) = BitVec.ofNat 16 b := BitVec.ofInt_natCast _ _
  have e3 : a * 256 ||| b = a * 256 + b := by
    have := Nat.shiftLeft_add_eq_or_of_lt (i := 8) (b := b) (by omega) a
    rw [Nat.shiftLeft_eq, show (2 : Nat) ^ 8 = 256 by decide] at this
    omega
  rw [bits_or16, e1, e2, BitVec.toNat_ofNat, BitVec.toNat_ofNat, Nat.mod_eq_of_lt (by omega), Nat.mod_eq_of_lt (by omega), e3, IntWalk.u16_in _ (by omega)]
  omega
theorem wordI_eq (l h : Int) (l0 : 0 ≤ l) (l1 : l ≤ 255) (h0 : 0 ≤ h) (h1 : h ≤ 255) : wordI l h = l + 256 * h := by
  obtain ⟨l, rfl⟩ := Int.eq_ofNat_of_zero_le l0
  obtain ⟨h, rfl⟩ := Int.eq_ofNat_of_zero_le h0
  unfold wordI
  rw [IntWalk.u16_in l (by omega), IntWalk.u16_in h (by omega), IntWalk.u16_in _ (by omega), or_cat h l (by omega) (by omega)]
  omega
end Go.Proofs.Ytfhndajhlpakoaa
