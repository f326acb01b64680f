/-
  Texts of these proofs, one behind the other: Cart6, MR.
-/
import Derived.Test.YtnhnphifhkkboaaDoorKSW19
import Derived.Test.YtnhnphifhkkboaaDoorKSW13
import Derived.Deep.QuietTactic
import Derived.BigQuiet
import Derived.WalkSmall
namespace Go.Proofs.YtnhnphifhkkboaaDoor
open Go.RowKit
set_option linter.unusedVariables false
/-- How many bytes, from the first one on, are 0, or aren't. -/
def AheadAt (z : Nat → Int) (n : Nat) (zero : Bool) (k : Nat) : Prop := k ≤ n ∧ (∀ j, j < k → (z j == 0) = zero) ∧ (k < n → (z k == 0) = !zero)
set_option maxHeartbeats 2000000 in
theorem ahead_any {w : World} (A : Option Addr) (n c : Nat) (z : Nat → Int) (zero : Bool) (hn : n ≤ maxLen) (R : IRow w .u8 A n z) :
    Calls Tryd.prog 129 #[.slice A n c, .bool zero] w fun e w' => (∃ k : Nat, e = .returned (.int .i64 k) ∧ AheadAt z n zero k) ∧ w = w' := by
  unfold maxLen at hn
  cases zero
  · go_enter Tryd.func129, Tryd.ntmps129
    go_wp2_with fail
    go_loop [9] (fun i => ∃ k : Nat, k ≤ n ∧ i = .int .i64 k ∧ Hid (∀ j, j < k → (z j == 0) = false)) (fun i => n - (intOf i).toNat)
    case atStart => exact ⟨0, by omega, rfl, Lib.hid (fun j h => absurd h (by omega))⟩
    case round =>
      obtain ⟨k, hk, rfl, H⟩ := hrel
      by_cases hlt : k < n
      · obtain ⟨ad, rfl, hl, hc, hw⟩ := R k hlt
        clear hw hl
        rcases Bool.eq_false_or_eq_true (z k == 0) with e | e
        · have HE := Lib.hid e
          go_wp2_with fail
          go_ret
          exact ⟨⟨k, rfl, hk, H.out, fun _ => HE.out⟩, rfl⟩
        · have HE := Lib.hid e
          go_wp2_with fail
          go_round
          case rel => exact ⟨k + 1, by omega, by go_num, Lib.hid (fun j hj => by rcases Nat.lt_or_ge j k with h | h; exact H.out j h; rw [show j = k by omega]; exact HE.out)⟩
          case measure => simp [intOf]; omega
      · obtain rfl : k = n := by omega
        go_wp2_with fail
        go_ret
        exact ⟨⟨k, rfl, hk, H.out, fun h => absurd h (by omega)⟩, rfl⟩
  · go_enter Tryd.func129, Tryd.ntmps129
    go_wp2_with fail
    go_loop [9] (fun i => ∃ k : Nat, k ≤ n ∧ i = .int .i64 k ∧ Hid (∀ j, j < k → (z j == 0) = true)) (fun i => n - (intOf i).toNat)
    case atStart => exact ⟨0, by omega, rfl, Lib.hid (fun j h => absurd h (by omega))⟩
    case round =>
      obtain ⟨k, hk, rfl, H⟩ := hrel
      by_cases hlt : k < n
      · obtain ⟨ad, rfl, hl, hc, hw⟩ := R k hlt
        clear hw hl
        rcases Bool.eq_false_or_eq_true (z k == 0) with e | e
        · have HE := Lib.hid e
          go_wp2_with fail
          go_round
          case rel => exact ⟨k + 1, by omega, by go_num, Lib.hid (fun j hj => by rcases Nat.lt_or_ge j k with h | h; exact H.out j h; rw [show j = k by omega]; exact HE.out)⟩
          case measure => simp [intOf]; omega
        · have HE := Lib.hid e
          go_wp2_with fail
          go_ret
          exact ⟨⟨k, rfl, hk, H.out, fun _ => HE.out⟩, rfl⟩
      · obtain rfl : k = n := by omega
        go_wp2_with fail
        go_ret
        exact ⟨⟨k, rfl, hk, H.out, fun h => absurd h (by omega)⟩, rfl⟩
set_option maxHeartbeats 1000000 in
theorem rcheck_any (A : Option Addr) (n c : Nat) (w : World) (hn : n ≤ maxLen) :
    Calls Tryd.prog 47 #[.slice A n c] w fun e w' => e = .returned (.int .i64 (imgE n)) ∧ w = w' := by
  unfold maxLen at hn
  by_cases h0 : n = 0
  · subst h0
    go_enter Tryd.func47, Tryd.ntmps47
    go_wp2
    go_ret
    exact ⟨rfl, rfl⟩
  · have d0 : ((n : Int) == 0) = false := beq_eq_false_iff_ne.2 (by omega)
    by_cases h : n % 8192 = 0
    · have d1 : ((n : Int) % 8192 != 0) = false := by rw [bne_eq_false_iff_eq]; omega
      by_cases h2 : n ≤ 1048576
      · have e : imgE n = 0 := by unfold imgE; rw [if_pos]; omega
        have H := Lib.hid e
        have d2 : decide ((1048576 : Int) < n) = false := decide_eq_false (by omega)
        clear e h h0
        go_enter Tryd.func47, Tryd.ntmps47
        go_wp2
        go_ret
        exact ⟨by rw [H.out]; rfl, rfl⟩
      · have e : imgE n = 6 := by unfold imgE; rw [if_neg]; omega
        have H := Lib.hid e
        have d2 : decide ((1048576 : Int) < n) = true := decide_eq_true (by omega)
        clear e h h0 h2
        go_enter Tryd.func47, Tryd.ntmps47
        go_wp2
        go_ret
        exact ⟨by rw [H.out]; rfl, rfl⟩
    · have d1 : ((n : Int) % 8192 != 0) = true := by rw [bne_iff_ne]; omega
      have e : imgE n = 6 := by unfold imgE; rw [if_neg]; omega
      have H := Lib.hid e
      clear e h h0
      go_enter Tryd.func47, Tryd.ntmps47
      go_wp2
      go_ret
      exact ⟨by rw [H.out]; rfl, rfl⟩
theorem ne_self (x : Int) : (x != x) = false := by simp
set_option maxHeartbeats 2000000 in
theorem same_yes {w : World} (A B : Option Addr) (n c d : Nat) (z : Nat → Int) (hn : n ≤ maxLen) (R : IRow w .u8 A n z) (Q : IRow w .u8 B n z) :
    Calls Tryd.prog 32 #[.slice A n c, .slice B n d] w fun e w' => e = .returned (.bool true) ∧ Below w.heap.size w w' := by
  unfold maxLen at hn
  have n0 : ((n : Int) != n) = false := by simp
  go_enter Tryd.func32, Tryd.ntmps32
  go_wp2_with fail
  clear n0
  go_loopw [5] (fun i wr => ∃ k : Nat, k ≤ n ∧ i = .int .i64 k ∧ wr.heap = w.heap ∧ Below w.heap.size w wr) (fun i _ => n - (intOf i).toNat)
  case atStart => exact ⟨0, by omega, rfl, rfl, Below.refl _ _⟩
  case round =>
    obtain ⟨k, hk, rfl, hh, hB⟩ := hrel
    have HH := Lib.hid hh
    clear hh
    by_cases hlt : k < n
    · obtain ⟨a1, rfl, _, x1, _⟩ := R k hlt
      obtain ⟨a2, rfl, _, x2, _⟩ := Q k hlt
      have x1' : wr.cell? (a1.add k) = _ := (World.cell?_of_block (by rw [HH.out])).trans x1
      have x2' : wr.cell? (a2.add k) = _ := (World.cell?_of_block (by rw [HH.out])).trans x2
      have NS := ne_self (z k)
      clear x1 x2
      generalize z k = V at *
      go_wp2_with fail
      go_quiet (fail)
      go_wp2_with fail
      go_roundw
      case rel => exact ⟨k + 1, by omega, by go_num, HH.out, below_drewN hB _⟩
      case measure => simp [intOf]; omega
    · obtain rfl : k = n := by omega
      go_wp2_with fail
      go_ret
      exact ⟨rfl, hB⟩
def smallB (ps : Nat → Pc) (m : Nat) : Bool := decide (m ≤ 20) && (List.range m).all fun i => decide ((ps i).n ≤ 20000)
theorem small_no (ps : Nat → Pc) (m k : Nat) (hk : k < m) (h : ¬ (ps k).n ≤ 20000) : smallB ps m = false := by
  unfold smallB
  rw [Bool.and_eq_false_iff]; right
  rw [List.all_eq_false]
  exact ⟨k, by simpa using hk, by simpa using h⟩
theorem small_yes (ps : Nat → Pc) (m : Nat) (hm : m ≤ 20) (h : ∀ k, k < m → (ps k).n ≤ 20000) : smallB ps m = true := by
  unfold smallB
  simp only [Bool.and_eq_true, decide_eq_true_eq, List.all_eq_true, List.mem_range]
  exact ⟨hm, h⟩
theorem small_len (ps : Nat → Pc) (m : Nat) (h : smallB ps m = true) : m ≤ 20 ∧ ∀ k, k < m → (ps k).n ≤ 20000 := by
  unfold smallB at h
  simpa only [Bool.and_eq_true, decide_eq_true_eq, List.all_eq_true, List.mem_range] using h
end Go.Proofs.YtnhnphifhkkboaaDoor
namespace Go.Proofs.YtnhnphifhkkboaaDoor
open Go.RowKit
set_option linter.unusedVariables false
/-- The rows of bytes that aren't 0 among the first i bytes: where each begins, and how long it is. -/
def runs (z : Nat → Int) : Nat → List (Nat × Nat)
  | 0 => []
  | i + 1 => if z i = 0 then runs z i else if 0 < i ∧ z (i - 1) ≠ 0 then (runs z i).dropLast ++ [(((runs z i).getLastD (0, 0)).1, ((runs z i).getLastD (0, 0)).2 + 1)] else runs z i ++ [(i, 1)]
theorem runs_len (z : Nat → Int) (i : Nat) : (runs z i).length ≤ i := by
  induction i with
  | zero => simp [runs]
  | succ i ih =>
    simp only [runs]
    split
    · omega
    · split
      · rename_i h
        have : 0 < (runs z i).length ∨ (runs z i).length = 0 := by omega
        rw [List.length_append, List.length_dropLast]; simp; omega
      · simp; omega
theorem runs_zero (z : Nat → Int) (e f : Nat) (h : e ≤ f) (hz : ∀ j, e ≤ j → j < f → z j = 0) : runs z f = runs z e := by
  induction f with
  | zero => rw [show e = 0 by omega]
  | succ f ih =>
    rcases Nat.lt_or_ge e (f + 1) with h1 | h1
    · simp only [runs]
      rw [if_pos (hz f (by omega) (by omega))]
      exact ih (by omega) fun j a b => hz j a (by omega)
    · rw [show e = f + 1 by omega]
theorem runs_succ (z : Nat → Int) (i : Nat) : runs z (i + 1) = if z i = 0 then runs z i else if 0 < i ∧ z (i - 1) ≠ 0 then (runs z i).dropLast ++ [(((runs z i).getLastD (0, 0)).1, ((runs z i).getLastD (0, 0)).2 + 1)] else runs z i ++ [(i, 1)] := rfl
theorem runs_block (z : Nat → Int) (f d : Nat) (hf : f = 0 ∨ z (f - 1) = 0) (hz : ∀ j, j < d + 1 → z (f + j) ≠ 0) : runs z (f + (d + 1)) = runs z f ++ [(f, d + 1)] := by
  induction d with
  | zero =>
    have h0 : z f ≠ 0 := hz 0 (by omega)
    rw [show f + (0 + 1) = f + 1 from rfl, runs_succ, if_neg h0, if_neg (by rintro ⟨a, b⟩; rcases hf with h | h; omega; exact b h)]
  | succ d ih =>
    have h1 := ih fun j hj => hz j (by omega)
    rw [show f + (d + 1 + 1) = (f + (d + 1)) + 1 from rfl, runs_succ, if_neg (hz (d + 1) (by omega)), if_pos ⟨by omega, by rw [show f + (d + 1) - 1 = f + d by omega]; exact hz d (by omega)⟩, h1]
    simp
end Go.Proofs.YtnhnphifhkkboaaDoor
