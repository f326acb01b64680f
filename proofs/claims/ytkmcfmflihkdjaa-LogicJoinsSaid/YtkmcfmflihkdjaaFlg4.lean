/-
  Flags: Read; the answer's Result, Pushed, Pulled, Entered, Read; live.
-/
import Derived.Test.YtkmcfmflihkdjaaFlg3
import Derived.Laws.Strings
import Derived.WideShapes
namespace Go.Proofs.Ytkmcfmflihkdjaa
open Go.RowKit
set_option linter.unusedVariables false
set_option linter.unusedSimpArgs false
set_option maxRecDepth 100000
section
variable {p : Int} (w : World) (p0 : 0 ≤ p) (p1 : p ≤ 255)
include p0 p1
theorem rfresult_any (v : Int) : Calls Try.prog 35 #[.int .u8 p, .int .u8 v] w fun e w' => e = .returned (.int .u8 (rwith (rwith p 7 (decide (128 ≤ v))) 1 (v == 0))) ∧ Below w.heap.size w w' := by
  obtain ⟨a0, a1⟩ := rwith_bd p 7 (decide (128 ≤ v)) p0 p1
  obtain ⟨x, hx⟩ : ∃ x, decide (128 ≤ v) = x := ⟨_, rfl⟩
  rw [hx] at a0 a1 ⊢
  go_enter Try.func35, Try.ntmps35
  go_wp2_with fail
  try rw [hx]
  refine (rfset_any _ _ _ _ p0 p1).mono ?_
  rintro e w1 ⟨rfl, b1⟩
  go_wp2_with fail
  refine (rfset_any _ _ _ _ a0 a1).mono ?_
  rintro e w2 ⟨rfl, b2⟩
  have B2 := Lib.hid (b1.trans (b2.mono b1.size))
  clear b1 b2
  go_wp2_with fail
  go_ret
  exact ⟨rfl, B2.out⟩
end
/-- Has a text this letter at its place? -/
def hl (s : ByteArray) (k : Nat) : Bool := if h : k < s.size then ((s[k].toNat : Int) == ltr k) else false
/-- The flags whose letters a text has. -/
def rk (s : ByteArray) : Nat → Int
  | 0 => 0
  | k + 1 => withI (rk s k) (7 - (k : Int)) (hl s k)
def rdI (s : ByteArray) : Int × Int := if strOfNums (tx (flF (rk s 8)) 8) = s then (rk s 8, 0) else (0, 3)
theorem withI_bd (b n : Int) (on : Bool) : 0 ≤ withI b n on ∧ withI b n on ≤ 255 := by
  unfold withI
  split
  · exact ⟨bits_lo_u8 _ _ _, bits_hi_u8 _ _ _⟩
  · exact ⟨bits_lo_u8 _ _ _, bits_hi_u8 _ _ _⟩
theorem rk_bd (s : ByteArray) (k : Nat) : 0 ≤ rk s k ∧ rk s k ≤ 255 := by
  cases k with
  | zero => simp [rk]
  | succ k => exact withI_bd _ _ _
theorem rk_text_fin : ∀ p : Fin 256, rk (strOfNums (tx (flF (p.val : Int)) 8)) 8 = (p.val : Int) := by decide +kernel
theorem rk_text (p : Int) (p0 : 0 ≤ p) (p1 : p ≤ 255) : rk (strOfNums (tx (flF p) 8)) 8 = p := by
  have := rk_text_fin ⟨p.toNat, by omega⟩
  rwa [show ((⟨p.toNat, by omega⟩ : Fin 256).val : Int) = p by simp; omega] at this
theorem rdI_of (p : Int) (p0 : 0 ≤ p) (p1 : p ≤ 255) : rdI (strOfNums (tx (flF p) 8)) = (p, 0) := by
  unfold rdI
  rw [rk_text p p0 p1, if_pos rfl]
theorem ba_ne {t s : ByteArray} (h : ¬ t = s) : (t.toList == s.toList) = false := by
  rw [ByteArray.toList_eq, ByteArray.toList_eq]
  cases e : (t.data.toList == s.data.toList) with
  | false => rfl
  | true => exact absurd (Go.WideShapes.bytes_inj (by simpa using e)) h
theorem ba_eq (t : ByteArray) : (t.toList == t.toList) = true := by simp
end Go.Proofs.Ytkmcfmflihkdjaa
