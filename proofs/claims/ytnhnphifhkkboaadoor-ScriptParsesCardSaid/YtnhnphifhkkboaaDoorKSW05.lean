/-
  Texts of these proofs, one behind the other: A2, A3, A5.
-/
import Derived.Test.YtnhnphifhkkboaaDoorKSW03
import Derived.Handy
import Derived.Test.YtnhnphifhkkboaaDoorKSW04
namespace Go.Proofs.YtnhnphifhkkboaaDoor
open Go.RowKit

def countTo (b : Int) : Nat → Int
  | 0 => 0
  | k + 1 => countTo b k + if bitB b k then 1 else 0
theorem countTo_bd (b : Int) (k : Nat) : 0 ≤ countTo b k ∧ countTo b k ≤ k := by
  induction k with
  | zero => simp [countTo]
  | succ k ih => simp only [countTo]; split <;> omega
def firstFrom (b : Int) : Nat → Int
  | 0 => -1
  | k + 1 => if bitB b ((7 : Int) - k) then 7 - k else firstFrom b k
end Go.Proofs.YtnhnphifhkkboaaDoor
namespace Go.Proofs.YtnhnphifhkkboaaDoor
open Go.RowKit

def digI (k : Nat) : Int := if k < 10 then 48 + k else 55 + k
def figs : Array Value := #[.int .u8 48, .int .u8 49, .int .u8 50, .int .u8 51, .int .u8 52, .int .u8 53, .int .u8 54, .int .u8 55, .int .u8 56, .int .u8 57, .int .u8 65, .int .u8 66, .int .u8 67, .int .u8 68, .int .u8 69, .int .u8 70]
theorem figs_at (k : Nat) (h : k < 16) : figs[k]? = some (.int .u8 (digI k)) := by
  have : k = 0 ∨ k = 1 ∨ k = 2 ∨ k = 3 ∨ k = 4 ∨ k = 5 ∨ k = 6 ∨ k = 7 ∨ k = 8 ∨ k = 9 ∨ k = 10 ∨ k = 11 ∨ k = 12 ∨ k = 13 ∨ k = 14 ∨ k = 15 := by omega
  rcases this with rfl | rfl | rfl | rfl | rfl | rfl | rfl | rfl | rfl | rfl | rfl | rfl | rfl | rfl | rfl | rfl <;> rfl

set_option maxHeartbeats 400000 in
theorem figures_any (w : World) :
    Calls Tryd.prog 113 #[] w fun e w' => e = .returned (.agg figs) ∧ Below w.heap.size w w' := by
  go_enter Tryd.func113, Tryd.ntmps113
  go_wp2
  go_returns
  exact ⟨rfl, by go_grown⟩

def valB (c : Int) : Bool := decide ((48 ≤ c ∧ c ≤ 57) ∨ (65 ≤ c ∧ c ≤ 70))
def valI (c : Int) : Int := if valB c then (if c ≤ 57 then c - 48 else c - 55) else 0
theorem valI_bd (c : Int) : 0 ≤ valI c ∧ valI c ≤ 15 := by
  unfold valI valB; simp only [decide_eq_true_eq]; split <;> (try split) <;> omega
theorem val_dig (k : Nat) (h : k < 16) (c : Int) (e : digI k = c) : valB c = true ∧ valI c = k := by
  unfold digI at e
  have hb : valB c = true := by unfold valB; simp only [decide_eq_true_eq]; split at e <;> omega
  refine ⟨hb, ?_⟩
  unfold valI; rw [if_pos hb]
  split at e <;> split <;> omega
theorem val_none (c : Int) (h : ∀ j : Nat, j < 16 → digI j ≠ c) : valB c = false ∧ valI c = 0 := by
  have hb : valB c = false := by
    unfold valB; simp only [decide_eq_false_iff_not]
    intro hc
    rcases hc with hc | hc
    · exact h (c - 48).toNat (by omega) (by unfold digI; rw [if_pos (by omega)]; omega)
    · exact h (c - 55).toNat (by omega) (by unfold digI; rw [if_neg (by omega)]; omega)
  exact ⟨hb, by unfold valI; rw [hb]; rfl⟩
def NoneTo (c : Int) (k : Nat) : Prop := ∀ j : Nat, j < k → digI j ≠ c

set_option maxHeartbeats 400000 in
theorem value_any (c : Int) (w : World) :
    Calls Tryd.prog 116 #[.int .u8 c] w fun e w' => e = .returned (.tuple #[.int .u32 (valI c), .bool (valB c)]) ∧ Below w.heap.size w w' := by
  go_enter Tryd.func116, Tryd.ntmps116
  go_wp2_with (go_at_call 113; refine (figures_any _).mono ?_; rintro e w' ⟨rfl, hb⟩)
  go_loop [7] (fun i => ∃ k : Nat, k ≤ 16 ∧ i = .int .i64 k ∧ NoneTo c k) (fun i => 16 - (intOf i).toNat)
  case atStart => exact ⟨0, by omega, rfl, fun j h => absurd h (by omega)⟩
  case round =>
    obtain ⟨k, hk, rfl, hn⟩ := hrel
    by_cases hlt : k < 16
    · have hx := fun w => run_index_agg (P := Tryd.prog) (t := 163) Tryd.underlying163 (by kernel_rfl) (cs := figs) (k := .i64) (i := (k : Int)) (by omega) (by omega) (figs_at k hlt) w
      by_cases e : digI k = c
      · have he : (digI k == c) = true := by simpa using e
        have H := Lib.hid (val_dig k hlt c e)
        clear e
        go_wp2_with fail
        go_ret2
        exact ⟨by rw [H.out.1, H.out.2]; rfl, hb⟩
      · have he : (digI k == c) = false := by simpa using e
        have hn' : NoneTo c (k + 1) := fun j hj => by
          by_cases ej : j = k
          · subst ej; exact e
          · exact hn j (by omega)
        clear e
        go_wp2_with fail
        go_round
        case rel => exact ⟨k + 1, by omega, by go_num, hn'⟩
        case measure => simp [intOf]; omega
    · obtain rfl : k = 16 := by omega
      have H := Lib.hid (val_none c hn)
      go_wp2_with fail
      go_ret2
      exact ⟨by rw [H.out.1, H.out.2]; rfl, hb⟩
end Go.Proofs.YtnhnphifhkkboaaDoor
namespace Go.Proofs.YtnhnphifhkkboaaDoor
open Go.RowKit
def numL (l : List UInt8) : Int := l.foldl (fun n c => 16 * n + valI c.toNat) 0
theorem numL_snoc (l : List UInt8) (c : UInt8) : numL (l ++ [c]) = 16 * numL l + valI c.toNat := by simp [numL]
theorem numL_bd (l : List UInt8) : 0 ≤ numL l ∧ numL l < 16 ^ l.length := by
  suffices h : ∀ r : List UInt8, 0 ≤ numL r.reverse ∧ numL r.reverse < 16 ^ r.length by
    have := h l.reverse; simpa using this
  intro r
  induction r with
  | nil => simp [numL]
  | cons c r ih =>
    rw [List.reverse_cons, numL_snoc, List.length_cons, Int.pow_succ]
    have := valI_bd c.toNat
    omega
def allV (l : List UInt8) : Bool := l.all fun c => valB c.toNat
theorem allV_snoc (l : List UInt8) (c : UInt8) : allV (l ++ [c]) = (allV l && valB c.toNat) := by simp [allV]
theorem allV_not (l : List UInt8) (k : Nat) (hk : k < l.length) (h : valB l[k].toNat = false) : allV l = false := by
  unfold allV; rw [List.all_eq_false]; exact ⟨l[k], by simp, by simp [h]⟩
theorem take_snoc (s : ByteArray) (k : Nat) (h : k < s.size) : s.data.toList.take (k + 1) = s.data.toList.take k ++ [s[k]] := by
  rw [List.take_succ_eq_append_getElem (by simpa using h)]; rfl
theorem numL_le7 (s : ByteArray) (k : Nat) (h : k < 8) : 0 ≤ numL (s.data.toList.take k) ∧ numL (s.data.toList.take k) ≤ 268435455 := by
  have := numL_bd (s.data.toList.take k)
  refine ⟨this.1, ?_⟩
  have h2 : (s.data.toList.take k).length ≤ 7 := by have := List.length_take_le k s.data.toList; omega
  have h3 : (16 : Int) ^ (s.data.toList.take k).length ≤ 16 ^ 7 := by
    have := Nat.pow_le_pow_right (n := 16) (by decide) h2
    exact_mod_cast this
  have h4 : (16 : Int) ^ 7 = 268435456 := by decide
  omega
theorem fromhex_short (s : ByteArray) (w : World) (h : s.size = 0) :
    Calls Tryd.prog 74 #[.string s] w fun e w' => e = .returned (.tuple #[.int .u32 0, .int .i64 4]) ∧ Below w.heap.size w w' := by
  have h1 : ((s.size : Int) == 0) = true := by simp [h]
  have h2 : s.data.toList = [] := by have : s.data.size = 0 := h; exact List.eq_nil_of_length_eq_zero (by simpa using this)
  go_enter Tryd.func74, Tryd.ntmps74
  go_wp2_with fail
  go_ret2
  exact ⟨rfl, Below.refl _ _⟩
theorem fromhex_long (s : ByteArray) (w : World) (h : 8 < s.size) (hm : s.size ≤ maxLen) :
    Calls Tryd.prog 74 #[.string s] w fun e w' => e = .returned (.tuple #[.int .u32 0, .int .i64 2]) ∧ Below w.heap.size w w' := by
  unfold maxLen at hm
  have h1 : ((s.size : Int) == 0) = false := beq_eq_false_iff_ne.2 (by omega)
  go_enter Tryd.func74, Tryd.ntmps74
  go_wp2_with fail
  go_ret2
  exact ⟨rfl, Below.refl _ _⟩
def fhR (s : ByteArray) : Int × Int := if allV s.data.toList then (numL s.data.toList, 0) else (0, 3)
theorem fhR_no (s : ByteArray) (k : Nat) (hk : k < s.size) (h : valB s[k].toNat = false) : fhR s = (0, 3) := by
  unfold fhR; rw [if_neg]; simp [allV_not s.data.toList k (by simpa using hk) h]
set_option maxHeartbeats 400000 in
theorem fromhex_mid (s : ByteArray) (w : World) (h0 : 0 < s.size) (h8 : s.size ≤ 8) :
    Calls Tryd.prog 74 #[.string s] w fun e w' => e = .returned (.tuple #[.int .u32 (fhR s).1, .int .i64 (fhR s).2]) ∧ Below w.heap.size w w' := by
  have h1 : ((s.size : Int) == 0) = false := beq_eq_false_iff_ne.2 (by omega)
  go_enter Tryd.func74, Tryd.ntmps74
  go_wp2_with fail
  go_loopw [4, 18] (fun n i wr => ∃ k : Nat, k ≤ s.size ∧ i = .int .i64 k ∧ n = .int .u32 (numL (s.data.toList.take k)) ∧ allV (s.data.toList.take k) = true ∧ Below w.heap.size w wr) (fun _ i _ => s.size - (intOf i).toNat)
  case atStart => exact ⟨0, by omega, rfl, rfl, rfl, Below.refl _ _⟩
  case round =>
    obtain ⟨k, hk, rfl, rfl, ha, hB⟩ := hrel
    by_cases hlt : k < s.size
    · have hnb := numL_le7 s k (by omega)
      have hvb := valI_bd s[k].toNat
      by_cases hv : valB s[k].toNat = true
      · have H1 : Hid (numL (s.data.toList.take (k + 1)) = 16 * numL (s.data.toList.take k) + valI s[k].toNat) := by
          show _ = _; rw [take_snoc s k hlt, numL_snoc]
        have H2 : Hid (allV (s.data.toList.take (k + 1)) = true) := by show _ = _; rw [take_snoc s k hlt, allV_snoc, ha, hv]; rfl
        clear ha
        go_wp2_with (go_at_call 116; refine (value_any _ _).mono ?_; rintro e w' ⟨rfl, hb⟩)
        go_roundw
        case rel => exact ⟨k + 1, by omega, by go_num, by rw [H1.out], H2.out, hB.trans (hb.mono hB.size)⟩
        case measure => simp [intOf]; omega
      · have hv : valB s[k].toNat = false := by simpa using hv
        have H1 := Lib.hid (fhR_no s k hlt hv)
        clear ha
        go_wp2_with (go_at_call 116; refine (value_any _ _).mono ?_; rintro e w' ⟨rfl, hb⟩)
        go_ret2
        exact ⟨by rw [H1.out]; rfl, hB.trans (hb.mono hB.size)⟩
    · obtain rfl : k = s.size := by omega
      have e : s.data.toList.take s.size = s.data.toList := List.take_of_length_le (by simp)
      have H1 : Hid (fhR s = (numL (s.data.toList.take s.size), 0)) := by show _ = _; rw [e] at ha ⊢; unfold fhR; rw [if_pos ha]
      clear e ha
      go_wp2_with fail
      go_ret2
      exact ⟨by rw [H1.out]; rfl, hB⟩
end Go.Proofs.YtnhnphifhkkboaaDoor
