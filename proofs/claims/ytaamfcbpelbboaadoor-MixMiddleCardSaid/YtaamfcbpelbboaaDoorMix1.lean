/-
  Layer 16: less, Loss, Power, beyond, Middle; the reference's Loss, Power, Side.
-/
import Derived.Test.YtaamfcbpelbboaaDoorProg
import Derived.Test.YtaamfcbpelbboaaDoorMix0
import Derived.Test.YtaamfcbpelbboaaDoorG3
import Derived.WalkKit
import Derived.Handy
import Derived.PlainAid
namespace Go.Proofs.YtaamfcbpelbboaaDoor
open Go.RowKit
set_option linter.unusedVariables false
set_option linter.unusedSimpArgs false
set_option maxRecDepth 100000
theorem less32_any (v : Int) (h0 : 0 ≤ v) (h1 : v ≤ 255) (w : World) : Calls Tryd.prog 27 #[.int .u8 v, .int .u8 32] w fun e w' => e = .returned (.int .i64 (31 - v % 32)) ∧ w = w' := by
  go_enter Tryd.func27, Tryd.ntmps27
  go_wp2
  go_ret
  exact ⟨rfl, rfl⟩
theorem less16_any (v : Int) (h0 : 0 ≤ v) (h1 : v ≤ 255) (w : World) : Calls Tryd.prog 27 #[.int .u8 v, .int .u8 16] w fun e w' => e = .returned (.int .i64 (15 - v % 16)) ∧ w = w' := by
  go_enter Tryd.func27, Tryd.ntmps27
  go_wp2
  go_ret
  exact ⟨rfl, rfl⟩
theorem mloss_any (v b m : Int) (v0 : 0 ≤ v) (v1 : v ≤ 255) (b0 : 0 ≤ b) (b1 : b ≤ 255) (m0 : 0 ≤ m) (m1 : m ≤ 255) (w : World) : Calls Tryd.prog 11 #[.int .u8 v, .int .u8 b, .int .u8 m] w fun e w' => e = .returned (.int .i64 (lssOf v b m)) ∧ w = w' := by
  have e : lssOf v b m = 31 - v % 32 + 2 * (15 - b % 16 + (15 - m % 16)) := by unfold lssOf; omega
  rw [e]
  go_enter Tryd.func11, Tryd.ntmps11
  go_wp2_with fail
  refine (less32_any v v0 v1 _).mono ?_
  rintro e w' ⟨rfl, rfl⟩
  go_wp2_with fail
  refine (less16_any b b0 b1 _).mono ?_
  rintro e w' ⟨rfl, rfl⟩
  go_wp2_with fail
  refine (less16_any m m0 m1 _).mono ?_
  rintro e w' ⟨rfl, rfl⟩
  go_wp2
  go_ret
  exact ⟨rfl, rfl⟩
theorem rloss_any (v b m : Int) (v0 : 0 ≤ v) (v1 : v ≤ 255) (b0 : 0 ≤ b) (b1 : b ≤ 255) (m0 : 0 ≤ m) (m1 : m ≤ 255) (w : World) : Calls Tryd.prog 12 #[.int .u8 v, .int .u8 b, .int .u8 m] w fun e w' => e = .returned (.int .i64 (lssOf v b m)) ∧ w = w' := by
  unfold lssOf
  go_enter Tryd.func12, Tryd.ntmps12
  go_wp2
  go_ret
  exact ⟨rfl, rfl⟩
theorem beyond_any (n : Int) (w : World) : Calls Tryd.prog 41 #[.int .i64 n] w fun e w' => e = .returned (.bool (decide (n < -1099511627776) || decide (1099511627776 < n))) ∧ w = w' := by
  by_cases h1 : n < -1099511627776
  · simp only [h1, decide_true, Bool.true_or]
    go_enter Tryd.func41, Tryd.ntmps41
    go_wp2
    go_ret
    exact ⟨rfl, rfl⟩
  · by_cases h2 : 1099511627776 < n
    · simp only [h1, h2, decide_true, decide_false, Bool.or_true]
      go_enter Tryd.func41, Tryd.ntmps41
      go_wp2
      go_ret
      exact ⟨rfl, rfl⟩
    · simp only [h1, h2, decide_false, Bool.or_false]
      go_enter Tryd.func41, Tryd.ntmps41
      go_wp2
      go_ret
      exact ⟨rfl, rfl⟩
theorem power_any {w : World} (h : TabAt w 0 4 pw) (l : Int) : Calls Tryd.prog 10 #[.int .i64 l] w fun e w' => e = .returned (.int .i64 (pwr l)) ∧ w = w' := by
  unfold pwr
  have c0 := h.2 0 (by decide)
  by_cases h1 : l < 0
  · rw [if_pos h1]
    go_enter Tryd.func10, Tryd.ntmps10
    go_wp2
    go_ret
    exact ⟨rfl, rfl⟩
  by_cases h2 : 48 ≤ l
  · rw [if_neg h1, if_pos h2]
    go_enter Tryd.func10, Tryd.ntmps10
    go_wp2
    go_ret
    exact ⟨rfl, rfl⟩
  rw [if_neg h1, if_neg h2]
  obtain ⟨k, rfl⟩ := Int.eq_ofNat_of_zero_le (show 0 ≤ l by omega)
  have ck := h.2 (k % 4) (by omega)
  clear c0 h
  rw [show ((k : Int)).toNat = k from rfl]
  go_enter Tryd.func10, Tryd.ntmps10
  go_wp2
  go_ret
  exact ⟨rfl, rfl⟩
/-- Both sides' half, or nothing. -/
def midV (l r : Int) : Value := if l < -1099511627776 ∨ 1099511627776 < l ∨ r < -1099511627776 ∨ 1099511627776 < r ∨ ¬ (l + r) % 2 = 0 then .tuple #[.int .i64 0, .int .i64 0, .bool false] else .tuple #[.int .i64 ((l + r) / 2), .int .i64 ((l - r) / 2), .bool true]
theorem middle_any (l r : Int) (w : World) : Calls Tryd.prog 25 #[.int .i64 l, .int .i64 r] w fun e w' => e = .returned (midV l r) ∧ w = w' := by
  unfold midV
  obtain ⟨bl, hbl⟩ : ∃ b, (decide (l < -1099511627776) || decide (1099511627776 < l)) = b := ⟨_, rfl⟩
  obtain ⟨br, hbr⟩ : ∃ b, (decide (r < -1099511627776) || decide (1099511627776 < r)) = b := ⟨_, rfl⟩
  have cl : ∀ w, Calls Tryd.prog 41 #[.int .i64 l] w fun e w' => e = .returned (.bool bl) ∧ w = w' := fun w => hbl ▸ beyond_any l w
  have cr : ∀ w, Calls Tryd.prog 41 #[.int .i64 r] w fun e w' => e = .returned (.bool br) ∧ w = w' := fun w => hbr ▸ beyond_any r w
  cases bl with
  | true =>
    simp only [Bool.or_eq_true, decide_eq_true_eq] at hbl
    rw [if_pos (by omega)]
    clear hbl hbr
    go_enter Tryd.func25, Tryd.ntmps25
    go_wp2_with fail
    refine (cl _).mono ?_
    rintro e w' ⟨rfl, rfl⟩
    go_wp2_with fail
    go_ret3
    exact ⟨rfl, rfl⟩
  | false =>
  cases br with
  | true =>
    simp only [Bool.or_eq_true, decide_eq_true_eq] at hbr
    rw [if_pos (by omega)]
    clear hbl hbr
    go_enter Tryd.func25, Tryd.ntmps25
    go_wp2_with fail
    refine (cl _).mono ?_
    rintro e w' ⟨rfl, rfl⟩
    go_wp2_with fail
    refine (cr _).mono ?_
    rintro e w' ⟨rfl, rfl⟩
    go_wp2_with fail
    go_ret3
    exact ⟨rfl, rfl⟩
  | false =>
  simp only [Bool.or_eq_false_iff, decide_eq_false_iff_not] at hbl hbr
  have hs : IntKind.i64.wrap (l + r) = l + r := IntWalk.i64_in _ (by omega)
  have hd : IntKind.i64.wrap (l - r) = l - r := IntWalk.i64_in _ (by omega)
  by_cases he : (l + r) % 2 = 0
  · rw [if_neg (by omega)]
    obtain ⟨k, hk⟩ : ∃ k, l + r = 2 * k := ⟨(l + r) / 2, by omega⟩
    have hk2 : l - r = 2 * (k - r) := by omega
    have t0 : Int.tmod (l + r) 2 = 0 := by rw [hk, Int.mul_tmod_right]
    have t1 : IntKind.i64.wrap (Int.tdiv (l + r) 2) = (l + r) / 2 := by rw [hk, Int.mul_tdiv_cancel_left k (by decide), IntWalk.i64_in _ (by omega)]; omega
    have t2 : IntKind.i64.wrap (Int.tdiv (l - r) 2) = (l - r) / 2 := by rw [hk2, Int.mul_tdiv_cancel_left _ (by decide), IntWalk.i64_in _ (by omega)]; omega
    clear hk hk2
    clear he hbl hbr
    go_enter Tryd.func25, Tryd.ntmps25
    go_wp2_with fail
    refine (cl _).mono ?_
    rintro e w' ⟨rfl, rfl⟩
    go_wp2_with fail
    refine (cr _).mono ?_
    rintro e w' ⟨rfl, rfl⟩
    go_wp2_with fail
    go_ret3
    exact ⟨rfl, rfl⟩
  · rw [if_pos (by omega)]
    have t0 : (Int.tmod (l + r) 2 == 0) = false := by
      have : ¬ Int.tmod (l + r) 2 = 0 := fun e => he (Int.emod_eq_zero_of_dvd (Int.dvd_of_tmod_eq_zero e))
      simpa using this
    clear he hbl hbr
    go_enter Tryd.func25, Tryd.ntmps25
    go_wp2_with fail
    refine (cl _).mono ?_
    rintro e w' ⟨rfl, rfl⟩
    go_wp2_with fail
    refine (cr _).mono ?_
    rintro e w' ⟨rfl, rfl⟩
    go_wp2_with fail
    go_ret3
    exact ⟨rfl, rfl⟩
end Go.Proofs.YtaamfcbpelbboaaDoor
