/-
  What the reference's Of of phys answers, for every text that can be read: the same as phys; it only makes memory.
-/
import Derived.Test.YtcckojleeojpiaaPhys4
namespace Go.Proofs.Ytcckojleeojpiaa
open Go.RowKit
set_option linter.unusedVariables false
theorem list_at (s : ByteArray) (h : 2 < s.size) : s.data.toList[2]? = some s[2] := by
  rw [List.getElem?_eq_getElem (by simpa using h)]; rfl
theorem list_len (s : ByteArray) : s.data.toList.length = s.size := rfl
theorem cut_two (s : ByteArray) : s.extract 0 2 = mkB (s.data.toList.take 2) := by
  apply ByteArray.ext; apply Array.ext'
  simp [mkB]
theorem cut_three (s : ByteArray) (n : Nat) (h : s.size ≤ n) : s.extract 3 n = mkB (s.data.toList.drop 3) := by
  apply ByteArray.ext; apply Array.ext'
  simp [mkB]
  exact List.take_of_length_le (by have h2 : s.size = s.data.toList.length := rfl; simp; omega)
theorem two_digits (l : List UInt8) (h : l.length = 2) (h0 : (fhA (mkB l)).2 = 0) : (fhA (mkB l)).1 ≤ 255 := by
  rw [fh_ok l (by omega) (by omega) (fh_valid l h0)]
  have b := numL_bd l
  rw [h] at b
  have : numL l < 256 := b.2
  show numL l ≤ 255
  omega
set_option maxHeartbeats 2000000 in
theorem rof_any (s : ByteArray) (w : World) (hs : s.size ≤ maxLen) :
    Calls Try.prog 26 #[.string s] w fun e w' => e = .returned (.tuple #[.int .u32 (refL s.data.toList).1, .int .i64 (refL s.data.toList).2]) ∧ Below w.heap.size w w' := by
  unfold refL
  rw [list_len]
  by_cases h7 : s.size = 7
  · have n7 : ((s.size : Int) != 7) = false := by rw [h7]; rfl
    have h2 : 2 < s.size := by omega
    rw [list_at s h2]
    by_cases hc : s[2] = 58
    · have t1 : ((s[2].toNat : Int) != 58) = false := by rw [hc]; rfl
      have C2 := Lib.hid (cut_two s)
      have C3 := Lib.hid (cut_three s s.size (Nat.le_refl _))
      have z1 : (mkB (s.data.toList.take 2)).size ≤ maxLen := by rw [mkB_size]; simp [maxLen]; omega
      have z2 : (mkB (s.data.toList.drop 3)).size ≤ maxLen := by rw [mkB_size, List.length_drop, list_len]; simp only [maxLen]; omega
      rw [if_pos ⟨h7, by rw [hc]⟩]
      have BX := two_digits (s.data.toList.take 2) (by rw [List.length_take, list_len]; omega)
      generalize mkB (s.data.toList.take 2) = x at *
      generalize mkB (s.data.toList.drop 3) = y at *
      have f1 := fhA_bd x
      have f2 := fhA_bd y
      have Z1 := Lib.hid z1
      have Z2 := Lib.hid z2
      obtain ⟨p, hp⟩ : ∃ p, fhA x = p := ⟨_, rfl⟩
      obtain ⟨q, hq⟩ : ∃ q, fhA y = q := ⟨_, rfl⟩
      rw [hp] at f1
      rw [hq] at f2
      rw [hp, hq]
      have HP := Lib.hid hp
      have HQ := Lib.hid hq
      have s3 : 3 ≤ s.size := by omega
      have bx : p.2 = 0 → p.1 ≤ 255 := by rw [← HP.out]; exact BX
      clear hp hq hc h7 z1 z2 hs BX
      obtain ⟨p1, p2⟩ := p
      obtain ⟨q1, q2⟩ := q
      go_enter Try.func26, Try.ntmps26
      go_wp2_with fail
      rw [C2.out]
      refine (rfromhex_any x _ Z1.out).mono ?_; rw [HP.out]; rintro e w1 ⟨rfl, hb1⟩
      go_wp2_with fail
      rw [C3.out]
      refine (rfromhex_any y _ Z2.out).mono ?_; rw [HQ.out]; rintro e w2 ⟨rfl, hb2⟩
      go_wp2_with fail
      all_goals
        go_ret2
        exact ⟨by simp, hb1.trans (hb2.mono hb1.size)⟩
    · have t1 : ((s[2].toNat : Int) != 58) = true := by
        rw [bne_iff_ne]; intro e; apply hc; apply UInt8.toNat_inj.1; exact_mod_cast e
      rw [if_neg (by rintro ⟨_, h⟩; injection h with h; exact hc h)]
      clear h7 hc
      go_enter Try.func26, Try.ntmps26
      go_wp2_with fail
      go_ret2
      exact ⟨rfl, Below.refl _ _⟩
  · have n7 : ((s.size : Int) != 7) = true := by rw [bne_iff_ne]; omega
    rw [if_neg (by rintro ⟨h, _⟩; exact h7 h)]
    clear h7
    go_enter Try.func26, Try.ntmps26
    go_wp2_with fail
    go_ret2
    exact ⟨rfl, Below.refl _ _⟩
end Go.Proofs.Ytcckojleeojpiaa
