/-
  Flags: Read; the answer's Result, Pushed, Pulled, Entered, Read; live.
-/
import Derived.Test.YtccimkmlbcgekaaDoorFlg3
import Derived.Laws.Strings
import Derived.WideShapes
namespace Go.Proofs.YtccimkmlbcgekaaDoor
open Go.RowKit
set_option linter.unusedVariables false
set_option linter.unusedSimpArgs false
set_option maxRecDepth 100000
section
variable {p : Int} (w : World) (p0 : 0 ≤ p) (p1 : p ≤ 255)
include p0 p1
theorem rfresult_any (v : Int) : Calls Tryd.prog 33 #[.int .u8 p, .int .u8 v] w fun e w' => e = .returned (.int .u8 (rwith (rwith p 7 (decide (128 ≤ v))) 1 (v == 0))) ∧ Below w.heap.size w w' := by
  obtain ⟨a0, a1⟩ := rwith_bd p 7 (decide (128 ≤ v)) p0 p1
  obtain ⟨x, hx⟩ : ∃ x, decide (128 ≤ v) = x := ⟨_, rfl⟩
  rw [hx] at a0 a1 ⊢
  go_enter Tryd.func33, Tryd.ntmps33
  go_wp2_with fail
  try rw [hx]
  refine (rfset_any _ _ _ _ p0 p1).mono ?_
  rintro e w1 ⟨rfl, b1⟩
  go_wp2_with fail
  refine (rfset_any _ _ _ _ a0 a1).mono ?_
  rintro e w2 ⟨rfl, b2⟩
  have B2 := Lib.hid (b1.trans (b2.mono b1.size))
  clear b1 b2
  go_wp2_with fail
  go_ret
  exact ⟨rfl, B2.out⟩
theorem rfpushed_any (on : Bool) : Calls Tryd.prog 35 #[.int .u8 p, .bool on] w fun e w' => e = .returned (.int .u8 (rwith (rwith p 5 false) 4 on)) ∧ Below w.heap.size w w' := by
  obtain ⟨a0, a1⟩ := rwith_bd p 5 false p0 p1
  go_enter Tryd.func35, Tryd.ntmps35
  go_wp2_with fail
  refine (rfset_any _ _ _ _ p0 p1).mono ?_
  rintro e w1 ⟨rfl, b1⟩
  go_wp2_with fail
  refine (rfset_any _ _ _ _ a0 a1).mono ?_
  rintro e w2 ⟨rfl, b2⟩
  have B2 := Lib.hid (b1.trans (b2.mono b1.size))
  clear b1 b2
  go_wp2_with fail
  go_ret
  exact ⟨rfl, B2.out⟩
theorem rfpulled_any : Calls Tryd.prog 37 #[.int .u8 p] w fun e w' => e = .returned (.int .u8 (rwith p 4 false)) ∧ Below w.heap.size w w' := by
  go_enter Tryd.func37, Tryd.ntmps37
  go_wp2_with fail
  refine (rfset_any _ _ _ _ p0 p1).mono ?_
  rintro e w1 ⟨rfl, b1⟩
  go_wp2_with fail
  go_ret
  exact ⟨rfl, b1⟩
theorem rfentered_any : Calls Tryd.prog 39 #[.int .u8 p] w fun e w' => e = .returned (.int .u8 (rwith (rwith (rwith (rwith p 2 true) 4 false) 3 false) 5 false)) ∧ Below w.heap.size w w' := by
  obtain ⟨a0, a1⟩ := rwith_bd p 2 true p0 p1
  obtain ⟨c0, c1⟩ := rwith_bd (rwith p 2 true) 4 false a0 a1
  obtain ⟨d0, d1⟩ := rwith_bd (rwith (rwith p 2 true) 4 false) 3 false c0 c1
  go_enter Tryd.func39, Tryd.ntmps39
  go_wp2_with fail
  refine (rfset_any _ _ _ _ p0 p1).mono ?_
  rintro e w1 ⟨rfl, b1⟩
  go_wp2_with fail
  refine (rfset_any _ _ _ _ a0 a1).mono ?_
  rintro e w2 ⟨rfl, b2⟩
  have B2 := b1.trans (b2.mono b1.size)
  clear b1 b2
  go_wp2_with fail
  refine (rfset_any _ _ _ _ c0 c1).mono ?_
  rintro e w3 ⟨rfl, b3⟩
  have B3 := B2.trans (b3.mono B2.size)
  clear b3 B2
  go_wp2_with fail
  refine (rfset_any _ _ _ _ d0 d1).mono ?_
  rintro e w4 ⟨rfl, b4⟩
  have B4 := Lib.hid (B3.trans (b4.mono B3.size))
  clear b4 B3
  go_wp2_with fail
  go_ret
  exact ⟨rfl, B4.out⟩
end
/-- Has a text this letter at its place? -/
def hl (s : ByteArray) (k : Nat) : Bool := if h : k < s.size then ((s[k].toNat : Int) == ltr k) else false
/-- The flags whose letters a text has. -/
def rk (s : ByteArray) : Nat → Int
  | 0 => 0
  | k + 1 => withI (rk s k) (7 - (k : Int)) (hl s k)
def rdI (s : ByteArray) : Int × Int := if strOfNums (tx (flF (rk s 8)) 8) = s then (rk s 8, 0) else (0, 3)
theorem withI_bd (b n : Int) (on : Bool) : 0 ≤ withI b n on ∧ withI b n on ≤ 255 := by
  unfold withI
  split
  · exact ⟨bits_lo_u8 _ _ _, bits_hi_u8 _ _ _⟩
  · exact ⟨bits_lo_u8 _ _ _, bits_hi_u8 _ _ _⟩
theorem rk_bd (s : ByteArray) (k : Nat) : 0 ≤ rk s k ∧ rk s k ≤ 255 := by
  cases k with
  | zero => simp [rk]
  | succ k => exact withI_bd _ _ _
theorem rk_text_fin : ∀ p : Fin 256, rk (strOfNums (tx (flF (p.val : Int)) 8)) 8 = (p.val : Int) := by decide +kernel
theorem rk_text (p : Int) (p0 : 0 ≤ p) (p1 : p ≤ 255) : rk (strOfNums (tx (flF p) 8)) 8 = p := by
  have := rk_text_fin ⟨p.toNat, by omega⟩
  rwa [show ((⟨p.toNat, by omega⟩ : Fin 256).val : Int) = p by simp; omega] at this
theorem rdI_of (p : Int) (p0 : 0 ≤ p) (p1 : p ≤ 255) : rdI (strOfNums (tx (flF p) 8)) = (p, 0) := by
  unfold rdI
  rw [rk_text p p0 p1, if_pos rfl]
theorem ba_ne {t s : ByteArray} (h : ¬ t = s) : (t.toList == s.toList) = false := by
  rw [ByteArray.toList_eq, ByteArray.toList_eq]
  cases e : (t.data.toList == s.data.toList) with
  | false => rfl
  | true => exact absurd (Go.WideShapes.bytes_inj (by simpa using e)) h
theorem ba_eq (t : ByteArray) : (t.toList == t.toList) = true := by simp
set_option maxHeartbeats 4000000 in
theorem fread_any {w : World} (h : Tab8 w 0) (s : ByteArray) : Calls Tryd.prog 28 #[.string s] w fun e w' => e = .returned (.tuple #[.int .u8 (rdI s).1, .int .i64 (rdI s).2]) ∧ Below w.heap.size w w' := by
  have c0 : w.cell? ⟨0, 0, none⟩ = some (.int .u8 78) := h.2 0 (by decide)
  have c1 : w.cell? ⟨0, 1, none⟩ = some (.int .u8 86) := h.2 1 (by decide)
  have c2 : w.cell? ⟨0, 2, none⟩ = some (.int .u8 84) := h.2 2 (by decide)
  have c3 : w.cell? ⟨0, 3, none⟩ = some (.int .u8 66) := h.2 3 (by decide)
  have c4 : w.cell? ⟨0, 4, none⟩ = some (.int .u8 68) := h.2 4 (by decide)
  have c5 : w.cell? ⟨0, 5, none⟩ = some (.int .u8 73) := h.2 5 (by decide)
  have c6 : w.cell? ⟨0, 6, none⟩ = some (.int .u8 90) := h.2 6 (by decide)
  have c7 : w.cell? ⟨0, 7, none⟩ = some (.int .u8 67) := h.2 7 (by decide)
  have HH := Lib.hid h
  go_enter Tryd.func28, Tryd.ntmps28
  go_wp2_with fail
  clear c0 c1 c2 c3 c4 c5 c6 c7 h
  go_loopw [4, 8] (fun p i wr => ∃ k : Nat, k ≤ 8 ∧ i = .int .i64 k ∧ p = .int .u8 (rk s k) ∧ wr = w) (fun _ i _ => 8 - (intOf i).toNat)
  case atStart => exact ⟨0, by omega, rfl, rfl, rfl⟩
  case round =>
    obtain ⟨k, hk, rfl, rfl, rfl⟩ := hrel
    by_cases hlt : k < 8
    · have i0 : (k : Int) < 8 := by omega
      have i1 : (0 : Int) ≤ (k : Int) := by omega
      have hix : ∀ W : World, (Instr.index 22 (.agg #[.int .u8 78, .int .u8 86, .int .u8 84, .int .u8 66, .int .u8 68, .int .u8 73, .int .u8 90, .int .u8 67]) (.int .i64 (k : Int))).run Tryd.prog W = .ok (.int .u8 (ltr k)) W := ix8 (z := ltr) k hlt
      have hrk : rk s (k + 1) = withI (rk s k) (7 - (k : Int)) (hl s k) := rfl
      obtain ⟨L, hL⟩ : ∃ L, ltr k = L := ⟨_, rfl⟩
      obtain ⟨x, hx⟩ : ∃ x, rk s k = x := ⟨_, rfl⟩
      rw [hx] at hrk ⊢
      rw [hL] at hix
      by_cases hs : k < s.size
      · have j0 : (k : Int) < s.size := by omega
        have hh : hl s k = ((s[k].toNat : Int) == L) := by unfold hl; rw [dif_pos hs, hL]
        rw [hh] at hrk
        have HRK := Lib.hid hrk
        clear hrk hh hx hL
        go_wp2_with (first | (go_at_call 57; refine (fbit_any _ _ (by omega) (by omega)).mono ?_; rintro e w' ⟨rfl, rfl⟩) | (go_at_call 56; refine (with_any _ _ _ _).mono ?_; rintro e w' ⟨rfl, rfl⟩))
        go_roundw
        case rel => exact ⟨k + 1, by omega, by go_num, by rw [HRK.out], by first | rfl | trivial⟩
        case measure => simp [intOf]; omega
      · have j0 : ¬ (k : Int) < s.size := by omega
        have hh : hl s k = false := by unfold hl; rw [dif_neg hs]
        rw [hh] at hrk
        have HRK := Lib.hid hrk
        clear hrk hh hx hL
        go_wp2_with (first | (go_at_call 57; refine (fbit_any _ _ (by omega) (by omega)).mono ?_; rintro e w' ⟨rfl, rfl⟩) | (go_at_call 56; refine (with_any _ _ _ _).mono ?_; rintro e w' ⟨rfl, rfl⟩))
        go_roundw
        case rel => exact ⟨k + 1, by omega, by go_num, by rw [HRK.out], by first | rfl | trivial⟩
        case measure => simp [intOf]; omega
    · obtain rfl : k = 8 := by omega
      have i0 : ¬ ((8 : Nat) : Int) < 8 := by omega
      have hd : rdI s = if strOfNums (tx (flF (rk s 8)) 8) = s then (rk s 8, 0) else (0, 3) := rfl
      obtain ⟨x, hx⟩ : ∃ x, rk s 8 = x := ⟨_, rfl⟩
      have ht := ftext_any HH.out x
      rw [hx] at hd ⊢
      obtain ⟨t, htt⟩ : ∃ t, strOfNums (tx (flF x) 8) = t := ⟨_, rfl⟩
      rw [htt] at ht hd
      have HT := Lib.hid ht
      clear ht hx htt HH
      by_cases e : t = s
      · rw [if_pos e] at hd
        subst e
        have HD := Lib.hid hd
        clear hd
        go_wp2_with fail
        refine HT.out.mono ?_
        rintro e w1 ⟨rfl, b1⟩
        go_wp2_with fail
        go_ret2
        exact ⟨by rw [HD.out]; rfl, b1⟩
      · rw [if_neg e] at hd
        have HD := Lib.hid hd
        have ne := ba_ne e
        clear hd
        go_wp2_with fail
        refine HT.out.mono ?_
        rintro e w1 ⟨rfl, b1⟩
        go_wp2_with fail
        go_ret2
        exact ⟨by rw [HD.out]; rfl, b1⟩
set_option maxHeartbeats 4000000 in
theorem rfread_any (w : World) (s : ByteArray) : Calls Tryd.prog 29 #[.string s] w fun e w' => e = .returned (.tuple #[.int .u8 (rdI s).1, .int .i64 (rdI s).2]) ∧ w = w' := by
  go_enter Tryd.func29, Tryd.ntmps29
  go_wp2_with fail
  go_loopw [4] (fun i wr => ∃ k : Nat, k ≤ 256 ∧ i = .int .i64 k ∧ (∀ j : Nat, j < k → strOfNums (tx (flF (j : Int)) 8) ≠ s) ∧ wr = w) (fun i _ => 256 - (intOf i).toNat)
  case atStart => exact ⟨0, by omega, rfl, by intro j hj; omega, rfl⟩
  case round =>
    obtain ⟨k, hk, rfl, hn, rfl⟩ := hrel
    have HN := Lib.hid hn
    clear hn
    by_cases hlt : k < 256
    · have i0 : (k : Int) < 256 := by omega
      have i1 : (0 : Int) ≤ (k : Int) := by omega
      have hw : IntKind.u8.wrap (k : Int) = (k : Int) := IntWalk.u8_in _ (by omega)
      have ht := rtext_any (k : Int) wr (by omega) (by omega)
      have hd := rdI_of (k : Int) (by omega) (by omega)
      obtain ⟨t, htt⟩ : ∃ t, strOfNums (tx (flF (k : Int)) 8) = t := ⟨_, rfl⟩
      rw [htt] at ht hd
      have HT := Lib.hid ht
      have HTT := Lib.hid htt
      clear ht htt
      by_cases e : t = s
      · subst e
        have HD := Lib.hid hd
        clear hd
        go_wp2_with fail
        refine HT.out.mono ?_
        rintro e w1 ⟨rfl, rfl⟩
        go_wp2_with fail
        go_ret2
        exact ⟨by rw [HD.out]; rfl, rfl⟩
      · have HE := Lib.hid e
        have ne := ba_ne e
        clear hd
        go_wp2_with fail
        refine HT.out.mono ?_
        rintro e w1 ⟨rfl, rfl⟩
        go_wp2_with fail
        go_roundw
        case rel =>
          refine ⟨k + 1, by omega, by go_num, fun j hj => ?_, by first | rfl | trivial⟩
          rcases (by omega : j < k ∨ j = k) with h | rfl
          · exact HN.out j h
          · rw [HTT.out]; exact HE.out
        case measure => simp [intOf]; omega
    · obtain rfl : k = 256 := by omega
      have i0 : ¬ ((256 : Nat) : Int) < 256 := by omega
      have hd : rdI s = (0, 3) := by
        unfold rdI
        rw [if_neg]
        obtain ⟨b0, b1⟩ := rk_bd s 8
        have := HN.out (rk s 8).toNat (by omega)
        rwa [show (((rk s 8).toNat : Nat) : Int) = rk s 8 by omega] at this
      have HD := Lib.hid hd
      clear hd
      go_wp2_with fail
      go_ret2
      exact ⟨by rw [HD.out]; rfl, rfl⟩
end Go.Proofs.YtccimkmlbcgekaaDoor
