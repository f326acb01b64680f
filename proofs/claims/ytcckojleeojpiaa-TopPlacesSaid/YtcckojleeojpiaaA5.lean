/-
  What octet's FromHex answers, for every string that can be read; it only makes memory.
-/
import Derived.Test.YtcckojleeojpiaaA3

namespace Go.Proofs.Ytcckojleeojpiaa
open Go.RowKit
def numL (l : List UInt8) : Int := l.foldl (fun n c => 16 * n + valI c.toNat) 0
theorem numL_snoc (l : List UInt8) (c : UInt8) : numL (l ++ [c]) = 16 * numL l + valI c.toNat := by simp [numL]
theorem numL_bd (l : List UInt8) : 0 ≤ numL l ∧ numL l < 16 ^ l.length := by
  suffices h : ∀ r : List UInt8, 0 ≤ numL r.reverse ∧ numL r.reverse < 16 ^ r.length by
    have := h l.reverse; simpa using this
  intro r
  induction r with
  | nil => simp [numL]
  | cons c r ih =>
    rw [List.reverse_cons, numL_snoc, List.length_cons, Int.pow_succ]
    have := valI_bd c.toNat
    omega
def allV (l : List UInt8) : Bool := l.all fun c => valB c.toNat
theorem allV_snoc (l : List UInt8) (c : UInt8) : allV (l ++ [c]) = (allV l && valB c.toNat) := by simp [allV]
theorem allV_not (l : List UInt8) (k : Nat) (hk : k < l.length) (h : valB l[k].toNat = false) : allV l = false := by
  unfold allV; rw [List.all_eq_false]; exact ⟨l[k], by simp, by simp [h]⟩
theorem take_snoc (s : ByteArray) (k : Nat) (h : k < s.size) : s.data.toList.take (k + 1) = s.data.toList.take k ++ [s[k]] := by
  rw [List.take_succ_eq_append_getElem (by simpa using h)]; rfl
theorem numL_le7 (s : ByteArray) (k : Nat) (h : k < 8) : 0 ≤ numL (s.data.toList.take k) ∧ numL (s.data.toList.take k) ≤ 268435455 := by
  have := numL_bd (s.data.toList.take k)
  refine ⟨this.1, ?_⟩
  have h2 : (s.data.toList.take k).length ≤ 7 := by have := List.length_take_le k s.data.toList; omega
  have h3 : (16 : Int) ^ (s.data.toList.take k).length ≤ 16 ^ 7 := by
    have := Nat.pow_le_pow_right (n := 16) (by decide) h2
    exact_mod_cast this
  have h4 : (16 : Int) ^ 7 = 268435456 := by decide
  omega
theorem fromhex_short (s : ByteArray) (w : World) (h : s.size = 0) :
    Calls Try.prog 48 #[.string s] w fun e w' => e = .returned (.tuple #[.int .u32 0, .int .i64 4]) ∧ Below w.heap.size w w' := by
  have h1 : ((s.size : Int) == 0) = true := by simp [h]
  have h2 : s.data.toList = [] := by have : s.data.size = 0 := h; exact List.eq_nil_of_length_eq_zero (by simpa using this)
  go_enter Try.func48, Try.ntmps48
  go_wp2_with fail
  go_ret2
  exact ⟨rfl, Below.refl _ _⟩
theorem fromhex_long (s : ByteArray) (w : World) (h : 8 < s.size) (hm : s.size ≤ maxLen) :
    Calls Try.prog 48 #[.string s] w fun e w' => e = .returned (.tuple #[.int .u32 0, .int .i64 2]) ∧ Below w.heap.size w w' := by
  unfold maxLen at hm
  have h1 : ((s.size : Int) == 0) = false := beq_eq_false_iff_ne.2 (by omega)
  go_enter Try.func48, Try.ntmps48
  go_wp2_with fail
  go_ret2
  exact ⟨rfl, Below.refl _ _⟩
def fhR (s : ByteArray) : Int × Int := if allV s.data.toList then (numL s.data.toList, 0) else (0, 3)
theorem fhR_no (s : ByteArray) (k : Nat) (hk : k < s.size) (h : valB s[k].toNat = false) : fhR s = (0, 3) := by
  unfold fhR; rw [if_neg]; simp [allV_not s.data.toList k (by simpa using hk) h]
set_option maxHeartbeats 400000 in
theorem fromhex_mid (s : ByteArray) (w : World) (h0 : 0 < s.size) (h8 : s.size ≤ 8) :
    Calls Try.prog 48 #[.string s] w fun e w' => e = .returned (.tuple #[.int .u32 (fhR s).1, .int .i64 (fhR s).2]) ∧ Below w.heap.size w w' := by
  have h1 : ((s.size : Int) == 0) = false := beq_eq_false_iff_ne.2 (by omega)
  go_enter Try.func48, Try.ntmps48
  go_wp2_with fail
  go_loopw [4, 18] (fun n i wr => ∃ k : Nat, k ≤ s.size ∧ i = .int .i64 k ∧ n = .int .u32 (numL (s.data.toList.take k)) ∧ allV (s.data.toList.take k) = true ∧ Below w.heap.size w wr) (fun _ i _ => s.size - (intOf i).toNat)
  case atStart => exact ⟨0, by omega, rfl, rfl, rfl, Below.refl _ _⟩
  case round =>
    obtain ⟨k, hk, rfl, rfl, ha, hB⟩ := hrel
    by_cases hlt : k < s.size
    · have hnb := numL_le7 s k (by omega)
      have hvb := valI_bd s[k].toNat
      by_cases hv : valB s[k].toNat = true
      · have H1 : Hid (numL (s.data.toList.take (k + 1)) = 16 * numL (s.data.toList.take k) + valI s[k].toNat) := by
          show _ = _; rw [take_snoc s k hlt, numL_snoc]
        have H2 : Hid (allV (s.data.toList.take (k + 1)) = true) := by show _ = _; rw [take_snoc s k hlt, allV_snoc, ha, hv]; rfl
        clear ha
        go_wp2_with (go_at_call 60; refine (value_any _ _).mono ?_; rintro e w' ⟨rfl, hb⟩)
        go_roundw
        case rel => exact ⟨k + 1, by omega, by go_num, by rw [H1.out], H2.out, hB.trans (hb.mono hB.size)⟩
        case measure => simp [intOf]; omega
      · have hv : valB s[k].toNat = false := by simpa using hv
        have H1 := Lib.hid (fhR_no s k hlt hv)
        clear ha
        go_wp2_with (go_at_call 60; refine (value_any _ _).mono ?_; rintro e w' ⟨rfl, hb⟩)
        go_ret2
        exact ⟨by rw [H1.out]; rfl, hB.trans (hb.mono hB.size)⟩
    · obtain rfl : k = s.size := by omega
      have e : s.data.toList.take s.size = s.data.toList := List.take_of_length_le (by simp)
      have H1 : Hid (fhR s = (numL (s.data.toList.take s.size), 0)) := by show _ = _; rw [e] at ha ⊢; unfold fhR; rw [if_pos ha]
      clear e ha
      go_wp2_with fail
      go_ret2
      exact ⟨by rw [H1.out]; rfl, hB⟩
end Go.Proofs.Ytcckojleeojpiaa
