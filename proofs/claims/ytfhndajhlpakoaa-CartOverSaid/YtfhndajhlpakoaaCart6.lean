/-
  What cart's ahead, slices.Clone of bytes, the reference's Same and Check, and the statements' small answer; they only make memory.
-/
import Derived.Test.YtfhndajhlpakoaaCart1
import Derived.Test.YtfhndajhlpakoaaG7
import Derived.Test.YtfhndajhlpakoaaG6
import Derived.Deep.QuietTactic
import Derived.BigQuiet
import Derived.WalkSmall
namespace Go.Proofs.Ytfhndajhlpakoaa
open Go.RowKit
set_option linter.unusedVariables false
/-- How many bytes, from the first one on, are 0, or aren't. -/
def AheadAt (z : Nat → Int) (n : Nat) (zero : Bool) (k : Nat) : Prop := k ≤ n ∧ (∀ j, j < k → (z j == 0) = zero) ∧ (k < n → (z k == 0) = !zero)
set_option maxHeartbeats 2000000 in
theorem ahead_any {w : World} (A : Option Addr) (n c : Nat) (z : Nat → Int) (zero : Bool) (hn : n ≤ maxLen) (R : IRow w .u8 A n z) :
    Calls Try.prog 63 #[.slice A n c, .bool zero] w fun e w' => (∃ k : Nat, e = .returned (.int .i64 k) ∧ AheadAt z n zero k) ∧ w = w' := by
  unfold maxLen at hn
  cases zero
  · go_enter Try.func63, Try.ntmps63
    go_wp2_with fail
    go_loop [9] (fun i => ∃ k : Nat, k ≤ n ∧ i = .int .i64 k ∧ Hid (∀ j, j < k → (z j == 0) = false)) (fun i => n - (intOf i).toNat)
    case atStart => exact ⟨0, by omega, rfl, Lib.hid (fun j h => absurd h (by omega))⟩
    case round =>
      obtain ⟨k, hk, rfl, H⟩ := hrel
      by_cases hlt : k < n
      · obtain ⟨ad, rfl, hl, hc, hw⟩ := R k hlt
        clear hw hl
        rcases Bool.eq_false_or_eq_true (z k == 0) with e | e
        · have HE := Lib.hid e
          go_wp2_with fail
          go_ret
          exact ⟨⟨k, rfl, hk, H.out, fun _ => HE.out⟩, rfl⟩
        · have HE := Lib.hid e
          go_wp2_with fail
          go_round
          case rel => exact ⟨k + 1, by omega, by go_num, Lib.hid (fun j hj => by rcases Nat.lt_or_ge j k with h | h; exact H.out j h; rw [show j = k by omega]; exact HE.out)⟩
          case measure => simp [intOf]; omega
      · obtain rfl : k = n := by omega
        go_wp2_with fail
        go_ret
        exact ⟨⟨k, rfl, hk, H.out, fun h => absurd h (by omega)⟩, rfl⟩
  · go_enter Try.func63, Try.ntmps63
    go_wp2_with fail
    go_loop [9] (fun i => ∃ k : Nat, k ≤ n ∧ i = .int .i64 k ∧ Hid (∀ j, j < k → (z j == 0) = true)) (fun i => n - (intOf i).toNat)
    case atStart => exact ⟨0, by omega, rfl, Lib.hid (fun j h => absurd h (by omega))⟩
    case round =>
      obtain ⟨k, hk, rfl, H⟩ := hrel
      by_cases hlt : k < n
      · obtain ⟨ad, rfl, hl, hc, hw⟩ := R k hlt
        clear hw hl
        rcases Bool.eq_false_or_eq_true (z k == 0) with e | e
        · have HE := Lib.hid e
          go_wp2_with fail
          go_round
          case rel => exact ⟨k + 1, by omega, by go_num, Lib.hid (fun j hj => by rcases Nat.lt_or_ge j k with h | h; exact H.out j h; rw [show j = k by omega]; exact HE.out)⟩
          case measure => simp [intOf]; omega
        · have HE := Lib.hid e
          go_wp2_with fail
          go_ret
          exact ⟨⟨k, rfl, hk, H.out, fun _ => HE.out⟩, rfl⟩
      · obtain rfl : k = n := by omega
        go_wp2_with fail
        go_ret
        exact ⟨⟨k, rfl, hk, H.out, fun h => absurd h (by omega)⟩, rfl⟩
theorem ne_self (x : Int) : (x != x) = false := by simp
set_option maxHeartbeats 2000000 in
theorem same_yes {w : World} (A B : Option Addr) (n c d : Nat) (z : Nat → Int) (hn : n ≤ maxLen) (R : IRow w .u8 A n z) (Q : IRow w .u8 B n z) :
    Calls Try.prog 23 #[.slice A n c, .slice B n d] w fun e w' => e = .returned (.bool true) ∧ Below w.heap.size w w' := by
  unfold maxLen at hn
  have n0 : ((n : Int) != n) = false := by simp
  go_enter Try.func23, Try.ntmps23
  go_wp2_with fail
  clear n0
  go_loopw [5] (fun i wr => ∃ k : Nat, k ≤ n ∧ i = .int .i64 k ∧ wr.heap = w.heap ∧ Below w.heap.size w wr) (fun i _ => n - (intOf i).toNat)
  case atStart => exact ⟨0, by omega, rfl, rfl, Below.refl _ _⟩
  case round =>
    obtain ⟨k, hk, rfl, hh, hB⟩ := hrel
    have HH := Lib.hid hh
    clear hh
    by_cases hlt : k < n
    · obtain ⟨a1, rfl, _, x1, _⟩ := R k hlt
      obtain ⟨a2, rfl, _, x2, _⟩ := Q k hlt
      have x1' : wr.cell? (a1.add k) = _ := (World.cell?_of_block (by rw [HH.out])).trans x1
      have x2' : wr.cell? (a2.add k) = _ := (World.cell?_of_block (by rw [HH.out])).trans x2
      have NS := ne_self (z k)
      clear x1 x2
      generalize z k = V at *
      go_wp2_with fail
      go_quiet (fail)
      go_wp2_with fail
      go_roundw
      case rel => exact ⟨k + 1, by omega, by go_num, HH.out, below_drewN hB _⟩
      case measure => simp [intOf]; omega
    · obtain rfl : k = n := by omega
      go_wp2_with fail
      go_ret
      exact ⟨rfl, hB⟩
def smallB (ps : Nat → Pc) (m : Nat) : Bool := decide (m ≤ 20) && (List.range m).all fun i => decide ((ps i).n ≤ 20000)
theorem small_no (ps : Nat → Pc) (m k : Nat) (hk : k < m) (h : ¬ (ps k).n ≤ 20000) : smallB ps m = false := by
  unfold smallB
  rw [Bool.and_eq_false_iff]; right
  rw [List.all_eq_false]
  exact ⟨k, by simpa using hk, by simpa using h⟩
theorem small_yes (ps : Nat → Pc) (m : Nat) (hm : m ≤ 20) (h : ∀ k, k < m → (ps k).n ≤ 20000) : smallB ps m = true := by
  unfold smallB
  simp only [Bool.and_eq_true, decide_eq_true_eq, List.all_eq_true, List.mem_range]
  exact ⟨hm, h⟩
theorem small_len (ps : Nat → Pc) (m : Nat) (h : smallB ps m = true) : m ≤ 20 ∧ ∀ k, k < m → (ps k).n ≤ 20000 := by
  unfold smallB at h
  simpa only [Bool.and_eq_true, decide_eq_true_eq, List.all_eq_true, List.mem_range] using h
set_option maxHeartbeats 2000000 in
theorem small_any {w : World} (A : Option Addr) (m c : Nat) (ps : Nat → Pc) (hm : m ≤ maxLen) (R : PRow w A m ps) :
    Calls Try.prog 12 #[.slice A m c] w fun e w' => e = .returned (.bool (smallB ps m)) ∧ w = w' := by
  unfold maxLen at hm
  by_cases h20 : m ≤ 20
  · have d1 : decide ((20 : Int) < m) = false := decide_eq_false (by omega)
    go_enter Try.func12, Try.ntmps12
    go_wp2_with fail
    clear d1
    go_loop [3] (fun i => ∃ k : Nat, k ≤ m ∧ i = .int .i64 k ∧ Hid (∀ j, j < k → (ps j).n ≤ 20000)) (fun i => m - (intOf i).toNat)
    case atStart => exact ⟨0, by omega, rfl, Lib.hid (fun j h => absurd h (by omega))⟩
    case round =>
      obtain ⟨k, hk, rfl, H⟩ := hrel
      by_cases hlt : k < m
      · obtain ⟨ad, rfl, hl, c0, c1, ok⟩ := R k hlt
        have c1' := cell_next c1
        by_cases e : (ps k).n ≤ 20000
        · have e2 : decide ((20000 : Int) < (ps k).n) = false := decide_eq_false (by omega)
          have HE := Lib.hid e
          clear e c0 c1 ok
          go_wp2_with fail
          go_round
          case rel => exact ⟨k + 1, by omega, by go_num, Lib.hid (fun j hj => by
            rcases Nat.lt_or_ge j k with h | h
            · exact H.out j h
            · rw [show j = k by omega]; exact HE.out)⟩
          case measure => simp [intOf]; omega
        · have e2 : decide ((20000 : Int) < (ps k).n) = true := decide_eq_true (by omega)
          have T := Lib.hid (small_no ps m k hlt e)
          clear e c0 c1 ok
          go_wp2_with fail
          go_ret
          exact ⟨by rw [T.out]; rfl, rfl⟩
      · obtain rfl : k = m := by omega
        have T := Lib.hid (small_yes ps k h20 H.out)
        go_wp2_with fail
        go_ret
        exact ⟨by rw [T.out]; rfl, rfl⟩
  · have d1 : decide ((20 : Int) < m) = true := decide_eq_true (by omega)
    have T : Hid (smallB ps m = false) := Lib.hid (by unfold smallB; simp [h20])
    clear h20
    go_enter Try.func12, Try.ntmps12
    go_wp2_with fail
    go_ret
    exact ⟨by rw [T.out]; rfl, rfl⟩
end Go.Proofs.Ytfhndajhlpakoaa
