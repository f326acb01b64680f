/-
  Texts of these proofs, one behind the other: A3, A5.
-/
import Derived.Test.YtndhkdcdhpfajaaGreatKEP18
import Derived.Test.YtndhkdcdhpfajaaGreatKEP15
namespace Go.Proofs.YtndhkdcdhpfajaaGreat
open Go.RowKit

def digI (k : Nat) : Int := if k < 10 then 48 + k else 55 + k
def figs : Array Value := #[.int .u8 48, .int .u8 49, .int .u8 50, .int .u8 51, .int .u8 52, .int .u8 53, .int .u8 54, .int .u8 55, .int .u8 56, .int .u8 57, .int .u8 65, .int .u8 66, .int .u8 67, .int .u8 68, .int .u8 69, .int .u8 70]
theorem figs_at (k : Nat) (h : k < 16) : figs[k]? = some (.int .u8 (digI k)) := by
  have : k = 0 ∨ k = 1 ∨ k = 2 ∨ k = 3 ∨ k = 4 ∨ k = 5 ∨ k = 6 ∨ k = 7 ∨ k = 8 ∨ k = 9 ∨ k = 10 ∨ k = 11 ∨ k = 12 ∨ k = 13 ∨ k = 14 ∨ k = 15 := by omega
  rcases this with rfl | rfl | rfl | rfl | rfl | rfl | rfl | rfl | rfl | rfl | rfl | rfl | rfl | rfl | rfl | rfl <;> rfl

def valB (c : Int) : Bool := decide ((48 ≤ c ∧ c ≤ 57) ∨ (65 ≤ c ∧ c ≤ 70))
def valI (c : Int) : Int := if valB c then (if c ≤ 57 then c - 48 else c - 55) else 0
theorem valI_bd (c : Int) : 0 ≤ valI c ∧ valI c ≤ 15 := by
  unfold valI valB; simp only [decide_eq_true_eq]; split <;> (try split) <;> omega
theorem val_dig (k : Nat) (h : k < 16) (c : Int) (e : digI k = c) : valB c = true ∧ valI c = k := by
  unfold digI at e
  have hb : valB c = true := by unfold valB; simp only [decide_eq_true_eq]; split at e <;> omega
  refine ⟨hb, ?_⟩
  unfold valI; rw [if_pos hb]
  split at e <;> split <;> omega
theorem val_none (c : Int) (h : ∀ j : Nat, j < 16 → digI j ≠ c) : valB c = false ∧ valI c = 0 := by
  have hb : valB c = false := by
    unfold valB; simp only [decide_eq_false_iff_not]
    intro hc
    rcases hc with hc | hc
    · exact h (c - 48).toNat (by omega) (by unfold digI; rw [if_pos (by omega)]; omega)
    · exact h (c - 55).toNat (by omega) (by unfold digI; rw [if_neg (by omega)]; omega)
  exact ⟨hb, by unfold valI; rw [hb]; rfl⟩
def NoneTo (c : Int) (k : Nat) : Prop := ∀ j : Nat, j < k → digI j ≠ c

end Go.Proofs.YtndhkdcdhpfajaaGreat
namespace Go.Proofs.YtndhkdcdhpfajaaGreat
open Go.RowKit
def numL (l : List UInt8) : Int := l.foldl (fun n c => 16 * n + valI c.toNat) 0
theorem numL_snoc (l : List UInt8) (c : UInt8) : numL (l ++ [c]) = 16 * numL l + valI c.toNat := by simp [numL]
theorem numL_bd (l : List UInt8) : 0 ≤ numL l ∧ numL l < 16 ^ l.length := by
  suffices h : ∀ r : List UInt8, 0 ≤ numL r.reverse ∧ numL r.reverse < 16 ^ r.length by
    have := h l.reverse; simpa using this
  intro r
  induction r with
  | nil => simp [numL]
  | cons c r ih =>
    rw [List.reverse_cons, numL_snoc, List.length_cons, Int.pow_succ]
    have := valI_bd c.toNat
    omega
def allV (l : List UInt8) : Bool := l.all fun c => valB c.toNat
theorem allV_snoc (l : List UInt8) (c : UInt8) : allV (l ++ [c]) = (allV l && valB c.toNat) := by simp [allV]
theorem allV_not (l : List UInt8) (k : Nat) (hk : k < l.length) (h : valB l[k].toNat = false) : allV l = false := by
  unfold allV; rw [List.all_eq_false]; exact ⟨l[k], by simp, by simp [h]⟩
theorem take_snoc (s : ByteArray) (k : Nat) (h : k < s.size) : s.data.toList.take (k + 1) = s.data.toList.take k ++ [s[k]] := by
  rw [List.take_succ_eq_append_getElem (by simpa using h)]; rfl
theorem numL_le7 (s : ByteArray) (k : Nat) (h : k < 8) : 0 ≤ numL (s.data.toList.take k) ∧ numL (s.data.toList.take k) ≤ 268435455 := by
  have := numL_bd (s.data.toList.take k)
  refine ⟨this.1, ?_⟩
  have h2 : (s.data.toList.take k).length ≤ 7 := by have := List.length_take_le k s.data.toList; omega
  have h3 : (16 : Int) ^ (s.data.toList.take k).length ≤ 16 ^ 7 := by
    have := Nat.pow_le_pow_right (n := 16) (by decide) h2
    exact_mod_cast this
  have h4 : (16 : Int) ^ 7 = 268435456 := by decide
  omega
def fhR (s : ByteArray) : Int × Int := if allV s.data.toList then (numL s.data.toList, 0) else (0, 3)
theorem fhR_no (s : ByteArray) (k : Nat) (hk : k < s.size) (h : valB s[k].toNat = false) : fhR s = (0, 3) := by
  unfold fhR; rw [if_neg]; simp [allV_not s.data.toList k (by simpa using hk) h]
end Go.Proofs.YtndhkdcdhpfajaaGreat
