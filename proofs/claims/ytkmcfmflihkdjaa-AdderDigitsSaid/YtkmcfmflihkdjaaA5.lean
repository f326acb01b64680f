/-
  What octet's FromHex answers, for every string that can be read; it only makes memory.
-/
import Derived.Test.YtkmcfmflihkdjaaA3

namespace Go.Proofs.Ytkmcfmflihkdjaa
open Go.RowKit
def numL (l : List UInt8) : Int := l.foldl (fun n c => 16 * n + valI c.toNat) 0
theorem numL_snoc (l : List UInt8) (c : UInt8) : numL (l ++ [c]) = 16 * numL l + valI c.toNat := by simp [numL]
theorem numL_bd (l : List UInt8) : 0 ≤ numL l ∧ numL l < 16 ^ l.length := by
  suffices h : ∀ r : List UInt8, 0 ≤ numL r.reverse ∧ numL r.reverse < 16 ^ r.length by
    have := h l.reverse; simpa using this
  intro r
  induction r with
  | nil => simp [numL]
  | cons c r ih =>
    rw [List.reverse_cons, numL_snoc, List.length_cons, Int.pow_succ]
    have := valI_bd c.toNat
    omega
def allV (l : List UInt8) : Bool := l.all fun c => valB c.toNat
theorem allV_snoc (l : List UInt8) (c : UInt8) : allV (l ++ [c]) = (allV l && valB c.toNat) := by simp [allV]
theorem allV_not (l : List UInt8) (k : Nat) (hk : k < l.length) (h : valB l[k].toNat = false) : allV l = false := by
  unfold allV; rw [List.all_eq_false]; exact ⟨l[k], by simp, by simp [h]⟩
theorem take_snoc (s : ByteArray) (k : Nat) (h : k < s.size) : s.data.toList.take (k + 1) = s.data.toList.take k ++ [s[k]] := by
  rw [List.take_succ_eq_append_getElem (by simpa using h)]; rfl
theorem numL_le7 (s : ByteArray) (k : Nat) (h : k < 8) : 0 ≤ numL (s.data.toList.take k) ∧ numL (s.data.toList.take k) ≤ 268435455 := by
  have := numL_bd (s.data.toList.take k)
  refine ⟨this.1, ?_⟩
  have h2 : (s.data.toList.take k).length ≤ 7 := by have := List.length_take_le k s.data.toList; omega
  have h3 : (16 : Int) ^ (s.data.toList.take k).length ≤ 16 ^ 7 := by
    have := Nat.pow_le_pow_right (n := 16) (by decide) h2
    exact_mod_cast this
  have h4 : (16 : Int) ^ 7 = 268435456 := by decide
  omega
def fhR (s : ByteArray) : Int × Int := if allV s.data.toList then (numL s.data.toList, 0) else (0, 3)
theorem fhR_no (s : ByteArray) (k : Nat) (hk : k < s.size) (h : valB s[k].toNat = false) : fhR s = (0, 3) := by
  unfold fhR; rw [if_neg]; simp [allV_not s.data.toList k (by simpa using hk) h]
end Go.Proofs.Ytkmcfmflihkdjaa
