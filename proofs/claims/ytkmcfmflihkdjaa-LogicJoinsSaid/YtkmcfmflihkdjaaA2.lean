/-
  What octet's Count, First, Pack and Unpack answer, for every argument of their types; the world stays as it is.
-/
import Derived.Test.YtkmcfmflihkdjaaA1
import Derived.Handy
namespace Go.Proofs.Ytkmcfmflihkdjaa
open Go.RowKit

def countTo (b : Int) : Nat → Int
  | 0 => 0
  | k + 1 => countTo b k + if bitB b k then 1 else 0
theorem countTo_bd (b : Int) (k : Nat) : 0 ≤ countTo b k ∧ countTo b k ≤ k := by
  induction k with
  | zero => simp [countTo]
  | succ k ih => simp only [countTo]; split <;> omega
def firstFrom (b : Int) : Nat → Int
  | 0 => -1
  | k + 1 => if bitB b ((7 : Int) - k) then 7 - k else firstFrom b k
set_option maxHeartbeats 400000 in
theorem pack_no (n : Int) (w : World) (h : n < 0 ∨ 99 < n) :
    Calls Try.prog 45 #[.int .i64 n] w fun e w' => e = .returned (.tuple #[.int .u8 0, .int .i64 1]) ∧ w = w' := by
  rcases h with h | h
  · go_enter Try.func45, Try.ntmps45
    go_wp2
    go_ret2
    exact ⟨rfl, rfl⟩
  · have h' : ¬ n < 0 := by omega
    go_enter Try.func45, Try.ntmps45
    go_wp2
    go_ret2
    exact ⟨rfl, rfl⟩
set_option maxHeartbeats 400000 in
theorem pack_yes (n : Int) (w : World) (h0 : 0 ≤ n) (h1 : n ≤ 99) :
    Calls Try.prog 45 #[.int .i64 n] w fun e w' => e = .returned (.tuple #[.int .u8 (n / 10 * 16 + n % 10), .int .i64 0]) ∧ w = w' := by
  go_enter Try.func45, Try.ntmps45
  go_wp2
  go_ret2
  exact ⟨rfl, rfl⟩
set_option maxHeartbeats 400000 in
theorem unpack_no (b : Int) (w : World) (h0 : 0 ≤ b) (h1 : b ≤ 255) (h : 9 < b / 16 ∨ 9 < b % 16) :
    Calls Try.prog 46 #[.int .u8 b] w fun e w' => e = .returned (.tuple #[.int .i64 0, .int .i64 3]) ∧ w = w' := by
  by_cases h2 : 9 < b / 16
  · clear h
    go_enter Try.func46, Try.ntmps46
    go_wp2
    go_ret2
    exact ⟨rfl, rfl⟩
  · have h : 9 < b % 16 := by omega
    go_enter Try.func46, Try.ntmps46
    go_wp2
    go_ret2
    exact ⟨rfl, rfl⟩
set_option maxHeartbeats 400000 in
theorem unpack_yes (b : Int) (w : World) (h0 : 0 ≤ b) (h1 : b ≤ 255) (h : b / 16 ≤ 9) (h' : b % 16 ≤ 9) :
    Calls Try.prog 46 #[.int .u8 b] w fun e w' => e = .returned (.tuple #[.int .i64 (10 * (b / 16) + b % 16), .int .i64 0]) ∧ w = w' := by
  go_enter Try.func46, Try.ntmps46
  go_wp2
  go_ret2
  exact ⟨rfl, rfl⟩
end Go.Proofs.Ytkmcfmflihkdjaa
