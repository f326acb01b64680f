/-
  What Text of phys and of its reference answer, for every address; they only make memory.
-/
import Derived.Test.YtcckojleeojpiaaPhys2
import Derived.Test.YtcckojleeojpiaaM5
namespace Go.Proofs.Ytcckojleeojpiaa
open Go.RowKit
set_option linter.unusedVariables false
def textL (a : Int) : List Int := hexL (bankI a) 2 ++ 58 :: hexL (offI a) 4
theorem strOf_append (xs ys : List Int) : strOfNums xs ++ strOfNums ys = strOfNums (xs ++ ys) := by
  apply ByteArray.ext; apply Array.ext'
  simp [strOfNums]
theorem text_join (a : Int) : strOfNums (hexL (bankI a) 2) ++ (⟨#[58]⟩ : ByteArray) ++ strOfNums (hexL (offI a) 4) = strOfNums (textL a) := by
  rw [show (⟨#[58]⟩ : ByteArray) = strOfNums [58] from rfl, strOf_append, strOf_append]
  simp [textL]
theorem textL_len (a : Int) : (textL a).length = 7 := by simp [textL, hexL_len]
set_option maxHeartbeats 1000000 in
theorem text_any (a : Int) (w : World) (a0 : 0 ≤ a) (a1 : a ≤ 4294967295) :
    Calls Try.prog 24 #[.int .u32 a] w fun e w' => e = .returned (.string (strOfNums (textL a))) ∧ Below w.heap.size w w' := by
  have bb := bankI_bd a
  have ob := offI_bd a
  have J := Lib.hid (text_join a)
  have L1 : (strOfNums (hexL (bankI a) 2)).size ≤ 2 := by rw [strOf_size, hexL_len]; omega
  have L2 : (strOfNums (hexL (offI a) 4)).size ≤ 4 := by rw [strOf_size, hexL_len]; omega
  go_enter Try.func24, Try.ntmps24
  go_wp2_with (first | (go_at_call 14; refine (bank_any _ _ a0 a1).mono ?_; rintro e w' ⟨rfl, rfl⟩) | (go_at_call 16; refine (off_any _ _ a0 a1).mono ?_; rintro e w' ⟨rfl, rfl⟩))
  refine (hex_any (bankI a) 2 _ (by omega) (by omega)).mono ?_
  rintro e w1 ⟨rfl, h1⟩
  rw [show held8 2 = 2 from rfl]
  go_wp2_with (first | (go_at_call 16; refine (off_any _ _ a0 a1).mono ?_; rintro e w' ⟨rfl, rfl⟩))
  refine (hex_any (offI a) 4 _ (by omega) (by omega)).mono ?_
  rintro e w2 ⟨rfl, h2⟩
  rw [show held8 4 = 4 from rfl]
  go_wp2_with fail
  go_ret
  exact ⟨by rw [← J.out]; rfl, h1.trans (h2.mono h1.size)⟩
set_option maxHeartbeats 1000000 in
theorem rtext_any (a : Int) (w : World) (a0 : 0 ≤ a) (a1 : a ≤ 4294967295) :
    Calls Try.prog 27 #[.int .u32 a] w fun e w' => e = .returned (.string (strOfNums (textL a))) ∧ w = w' := by
  have bb := bankI_bd a
  have ob := offI_bd a
  have J := Lib.hid (text_join a)
  have L1 : (strOfNums (hexL (bankI a) 2)).size ≤ 2 := by rw [strOf_size, hexL_len]; omega
  have L2 : (strOfNums (hexL (offI a) 4)).size ≤ 4 := by rw [strOf_size, hexL_len]; omega
  go_enter Try.func27, Try.ntmps27
  go_wp2_with (first | (go_at_call 15; refine (rbank_any _ _ a0 a1).mono ?_; rintro e w' ⟨rfl, rfl⟩) | (go_at_call 17; refine (roff_any _ _ a0 a1).mono ?_; rintro e w' ⟨rfl, rfl⟩))
  refine (rhex_any (bankI a) 2 _ (by omega) (by omega)).mono ?_
  rintro e w1 ⟨rfl, rfl⟩
  rw [show held8 2 = 2 from rfl]
  go_wp2_with (first | (go_at_call 17; refine (roff_any _ _ a0 a1).mono ?_; rintro e w' ⟨rfl, rfl⟩))
  refine (rhex_any (offI a) 4 _ (by omega) (by omega)).mono ?_
  rintro e w2 ⟨rfl, rfl⟩
  rw [show held8 4 = 4 from rfl]
  go_wp2_with fail
  go_ret
  exact ⟨by rw [← J.out]; rfl, rfl⟩
end Go.Proofs.Ytcckojleeojpiaa
