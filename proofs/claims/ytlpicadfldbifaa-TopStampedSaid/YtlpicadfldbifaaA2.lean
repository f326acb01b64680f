/-
  What octet's Count, First, Pack and Unpack answer, for every argument of their types; the world stays as it is.
-/
import Derived.Test.YtlpicadfldbifaaA1
import Derived.Handy
namespace Go.Proofs.Ytlpicadfldbifaa
open Go.RowKit

def countTo (b : Int) : Nat → Int
  | 0 => 0
  | k + 1 => countTo b k + if bitB b k then 1 else 0
theorem countTo_bd (b : Int) (k : Nat) : 0 ≤ countTo b k ∧ countTo b k ≤ k := by
  induction k with
  | zero => simp [countTo]
  | succ k ih => simp only [countTo]; split <;> omega
set_option maxHeartbeats 400000 in
theorem count_any (b : Int) (w : World) :
    Calls Try.prog 28 #[.int .u8 b] w fun e w' => e = .returned (.int .i64 (countTo b 8)) ∧ w = w' := by
  go_enter Try.func28, Try.ntmps28
  go_wp2_with fail
  go_loop [3, 5] (fun s i => ∃ k : Nat, k ≤ 8 ∧ i = .int .i64 k ∧ s = .int .i64 (countTo b k)) (fun _ i => 8 - (intOf i).toNat)
  case atStart => exact ⟨0, by omega, rfl, rfl⟩
  case round =>
    obtain ⟨k, hk, rfl, rfl⟩ := hrel
    have hb := countTo_bd b k
    by_cases hlt : k < 8
    · by_cases hbit : bitB b k = true
      · have H : Hid (countTo b (k + 1) = countTo b k + 1) := by show _ = _; simp [countTo, hbit]
        go_wp2_with (go_at_call 17; refine (bit_any _ _ _).mono ?_; rintro e w' ⟨rfl, rfl⟩)
        go_round
        case rel => exact ⟨k + 1, by omega, by go_num, by rw [H.out]⟩
        case measure => simp [intOf]; omega
      · have hbit : bitB b k = false := by simpa using hbit
        have H : Hid (countTo b (k + 1) = countTo b k) := by show _ = _; simp [countTo, hbit]
        go_wp2_with (go_at_call 17; refine (bit_any _ _ _).mono ?_; rintro e w' ⟨rfl, rfl⟩)
        go_round
        case rel => exact ⟨k + 1, by omega, by go_num, by rw [H.out]⟩
        case measure => simp [intOf]; omega
    · obtain rfl : k = 8 := by omega
      go_wp2_with fail
      go_ret
      exact ⟨rfl, rfl⟩
def firstFrom (b : Int) : Nat → Int
  | 0 => -1
  | k + 1 => if bitB b ((7 : Int) - k) then 7 - k else firstFrom b k
set_option maxHeartbeats 400000 in
theorem first_any (b : Int) (w : World) :
    Calls Try.prog 29 #[.int .u8 b] w fun e w' => e = .returned (.int .i64 (firstFrom b 8)) ∧ w = w' := by
  go_enter Try.func29, Try.ntmps29
  go_wp2_with fail
  go_loop [4] (fun i => ∃ k : Nat, k ≤ 8 ∧ i = .int .i64 k ∧ firstFrom b 8 = firstFrom b (8 - k)) (fun i => 8 - (intOf i).toNat)
  case atStart => exact ⟨0, by omega, rfl, rfl⟩
  case round =>
    obtain ⟨k, hk, rfl, h⟩ := hrel
    have h0 := Lib.hid h
    clear h
    by_cases hlt : k < 8
    · obtain ⟨j, hj⟩ : ∃ j, 8 - k = j + 1 := ⟨7 - k, by omega⟩
      have hj' : (7 : Int) - j = k := by omega
      by_cases hbit : bitB b k = true
      · have H : Hid (firstFrom b 8 = k) := by show _ = _; rw [h0.out, hj]; simp [firstFrom, hj', hbit]
        clear hj hj' h0
        go_wp2_with (go_at_call 17; refine (bit_any _ _ _).mono ?_; rintro e w' ⟨rfl, rfl⟩)
        go_ret
        exact ⟨by rw [H.out]; rfl, rfl⟩
      · have hbit : bitB b k = false := by simpa using hbit
        have H : Hid (firstFrom b 8 = firstFrom b (8 - (k + 1))) := by show _ = _; rw [h0.out, hj]; simp [firstFrom, hj', hbit]; congr 1; omega
        clear hj hj' h0
        go_wp2_with (go_at_call 17; refine (bit_any _ _ _).mono ?_; rintro e w' ⟨rfl, rfl⟩)
        go_round
        case rel => exact ⟨k + 1, by omega, by go_num, H.out⟩
        case measure => simp [intOf]; omega
    · obtain rfl : k = 8 := by omega
      go_wp2_with fail
      go_ret
      exact ⟨by rw [h0.out]; rfl, rfl⟩
set_option maxHeartbeats 400000 in
theorem pack_no (n : Int) (w : World) (h : n < 0 ∨ 99 < n) :
    Calls Try.prog 30 #[.int .i64 n] w fun e w' => e = .returned (.tuple #[.int .u8 0, .int .i64 1]) ∧ w = w' := by
  rcases h with h | h
  · go_enter Try.func30, Try.ntmps30
    go_wp2
    go_ret2
    exact ⟨rfl, rfl⟩
  · have h' : ¬ n < 0 := by omega
    go_enter Try.func30, Try.ntmps30
    go_wp2
    go_ret2
    exact ⟨rfl, rfl⟩
set_option maxHeartbeats 400000 in
theorem pack_yes (n : Int) (w : World) (h0 : 0 ≤ n) (h1 : n ≤ 99) :
    Calls Try.prog 30 #[.int .i64 n] w fun e w' => e = .returned (.tuple #[.int .u8 (n / 10 * 16 + n % 10), .int .i64 0]) ∧ w = w' := by
  go_enter Try.func30, Try.ntmps30
  go_wp2
  go_ret2
  exact ⟨rfl, rfl⟩
set_option maxHeartbeats 400000 in
theorem unpack_no (b : Int) (w : World) (h0 : 0 ≤ b) (h1 : b ≤ 255) (h : 9 < b / 16 ∨ 9 < b % 16) :
    Calls Try.prog 31 #[.int .u8 b] w fun e w' => e = .returned (.tuple #[.int .i64 0, .int .i64 3]) ∧ w = w' := by
  by_cases h2 : 9 < b / 16
  · clear h
    go_enter Try.func31, Try.ntmps31
    go_wp2
    go_ret2
    exact ⟨rfl, rfl⟩
  · have h : 9 < b % 16 := by omega
    go_enter Try.func31, Try.ntmps31
    go_wp2
    go_ret2
    exact ⟨rfl, rfl⟩
set_option maxHeartbeats 400000 in
theorem unpack_yes (b : Int) (w : World) (h0 : 0 ≤ b) (h1 : b ≤ 255) (h : b / 16 ≤ 9) (h' : b % 16 ≤ 9) :
    Calls Try.prog 31 #[.int .u8 b] w fun e w' => e = .returned (.tuple #[.int .i64 (10 * (b / 16) + b % 16), .int .i64 0]) ∧ w = w' := by
  go_enter Try.func31, Try.ntmps31
  go_wp2
  go_ret2
  exact ⟨rfl, rfl⟩
end Go.Proofs.Ytlpicadfldbifaa
