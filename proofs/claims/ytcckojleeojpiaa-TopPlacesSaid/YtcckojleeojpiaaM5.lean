/-
  Digits that are written and read again; what FromHex answers, for every string that can be read.
-/
import Derived.Test.YtcckojleeojpiaaB1
namespace Go.Proofs.Ytcckojleeojpiaa
open Go.RowKit
set_option linter.unusedVariables false
set_option maxRecDepth 100000
theorem m_val : ∀ d : Nat, d < 16 → valI (UInt8.ofNat (digI d).toNat).toNat = d ∧ valB (UInt8.ofNat (digI d).toNat).toNat = true := by decide +kernel
theorem strOf_list (xs : List Int) : (strOfNums xs).data.toList = xs.map fun n => UInt8.ofNat n.toNat := by simp [strOfNums]
theorem num_hexL (k : Nat) : ∀ n : Int, 0 ≤ n → numL ((hexL n k).map fun n => UInt8.ofNat n.toNat) = n % 16 ^ k ∧ allV ((hexL n k).map fun n => UInt8.ofNat n.toNat) = true := by
  induction k with
  | zero => intro n h; simp [hexL, numL, allV]
  | succ k ih =>
    intro n h
    have hd := m_val (n % 16).toNat (by omega)
    have := ih (n / 16) (by omega)
    rw [hexL, List.map_append, List.map_singleton, numL_snoc, allV_snoc, this.1, this.2, hd.1, hd.2]
    refine ⟨?_, rfl⟩
    obtain ⟨m, rfl⟩ := Int.eq_ofNat_of_zero_le h
    have h1 := Nat.mod_mul (x := m) (a := 16) (b := 16 ^ k)
    rw [show (16 : Nat) * 16 ^ k = 16 ^ (k + 1) by rw [Nat.pow_succ]; omega] at h1
    have h2 : ((m : Int) % 16 ^ (k + 1)) = ((m % 16 ^ (k + 1) : Nat) : Int) := by simp
    have h3 : ((m : Int) / 16 % 16 ^ k) = ((m / 16 % 16 ^ k : Nat) : Int) := by simp
    rw [h2, h3, h1]
    omega
def fhA (s : ByteArray) : Int × Int := if s.size = 0 then (0, 4) else if 8 < s.size then (0, 2) else fhR s
theorem fromhex_any (s : ByteArray) (w : World) (hm : s.size ≤ maxLen) :
    Calls Try.prog 48 #[.string s] w fun e w' => e = .returned (.tuple #[.int .u32 (fhA s).1, .int .i64 (fhA s).2]) ∧ Below w.heap.size w w' := by
  unfold fhA
  by_cases h0 : s.size = 0
  · rw [if_pos h0]; exact fromhex_short s w h0
  · by_cases h8 : 8 < s.size
    · rw [if_neg h0, if_pos h8]; exact fromhex_long s w h8 hm
    · rw [if_neg h0, if_neg h8]; exact fromhex_mid s w (by omega) (by omega)
theorem rfromhex_any (s : ByteArray) (w : World) (hm : s.size ≤ maxLen) :
    Calls Try.prog 49 #[.string s] w fun e w' => e = .returned (.tuple #[.int .u32 (fhA s).1, .int .i64 (fhA s).2]) ∧ Below w.heap.size w w' := by
  unfold fhA
  by_cases h0 : s.size = 0
  · rw [if_pos h0]; exact rfromhex_short s w h0
  · by_cases h8 : 8 < s.size
    · rw [if_neg h0, if_pos h8]; exact rfromhex_long s w h8 hm
    · rw [if_neg h0, if_neg h8]; exact rfromhex_mid s w (by omega) (by omega)
theorem fh_hex (n : Int) (h0 : 0 ≤ n) (h1 : n ≤ 4294967295) : fhA (strOfNums (hexL n 8)) = (n, 0) := by
  have hs : (strOfNums (hexL n 8)).size = 8 := by rw [strOf_size, hexL_len]
  unfold fhA
  rw [if_neg (by omega), if_neg (by omega)]
  have := num_hexL 8 n h0
  unfold fhR
  rw [strOf_list, this.1, this.2, if_pos rfl, show (16 : Int) ^ 8 = 4294967296 by decide, Int.emod_eq_of_lt h0 (by omega)]
end Go.Proofs.Ytcckojleeojpiaa
