/-
  Texts of these proofs, one behind the other: Cart1, Cart6, MR.
-/
import Derived.Test.YtndhkdcdhpfajaaGreatKED25
import Derived.Test.YtndhkdcdhpfajaaGreatProg
import Derived.WalkKit
import Derived.WalkSpells
import Derived.Handy
import Derived.Lib.Hide
import Derived.Test.YtndhkdcdhpfajaaGreatKED05
import Derived.Deep.QuietTactic
import Derived.BigQuiet
import Derived.WalkSmall
namespace Go.Proofs.YtndhkdcdhpfajaaGreat
open Go.RowKit
set_option linter.unusedVariables false
def mayB (n : Int) : Bool := decide (1 ≤ n ∧ n ≤ 128)
set_option maxHeartbeats 400000 in
theorem may_any (n : Int) (w : World) :
  Calls Tryz.prog 145 #[.int .i64 n] w fun e w' => e = .returned (.bool (mayB n)) ∧ w = w' := by
 by_cases h : 1 ≤ n
 ·by_cases h2 : n ≤ 128
  ·have e : mayB n = true := decide_eq_true ⟨h, h2⟩
   have H := Lib.hid e
   clear e
   go_enter Tryz.func145, Tryz.ntmps145
   go_wp2
   go_ret
   exact ⟨by rw [H.out]; simp, rfl⟩
  ·have e : mayB n = false := decide_eq_false (by omega)
   have H := Lib.hid e
   have d : decide (n ≤ 128) = false := decide_eq_false h2
   clear e h2
   go_enter Tryz.func145, Tryz.ntmps145
   go_wp2
   go_ret
   exact ⟨by rw [H.out]; simp, rfl⟩
 ·have e : mayB n = false := decide_eq_false (by omega)
  have H := Lib.hid e
  have d : decide (1 ≤ n) = false := decide_eq_false h
  clear e h
  go_enter Tryz.func145, Tryz.ntmps145
  go_wp2
  go_ret
  exact ⟨by rw [H.out]; simp, rfl⟩
/-- Of so many bytes: are they an image? -/
def imgE (n : Nat) : Int := if 0 < n ∧ n % 8192 = 0 ∧ n ≤ 1048576 then 0 else 6
set_option maxHeartbeats 1000000 in
theorem check_any (A : Option Addr) (n c : Nat) (w : World) (hn : n ≤ maxLen) :
  Calls Tryz.prog 154 #[.slice A n c] w fun e w' => e = .returned (.int .i64 (imgE n)) ∧ w = w' := by
 unfold maxLen at hn
 by_cases h : n % 8192 = 0
 ·have d1 : ((n : Int) % 8192 != 0) = false := by rw [bne_eq_false_iff_eq]; omega
  by_cases h2 : mayB ((n : Int) / 8192) = true
  ·have e : imgE n = 0 := by unfold mayB at h2; simp only [decide_eq_true_eq] at h2; unfold imgE; rw [if_pos]; omega
   have H := Lib.hid e
   clear e h
   go_enter Tryz.func154, Tryz.ntmps154
   go_wp2_with (go_at_call 145; refine (may_any _ _).mono ?_; rintro e w' ⟨rfl, rfl⟩)
   go_ret
   exact ⟨by rw [H.out]; rfl, rfl⟩
  ·have h3 : mayB ((n : Int) / 8192) = false := by simpa using h2
   have e : imgE n = 6 := by unfold mayB at h2; simp only [decide_eq_true_eq] at h2; unfold imgE; rw [if_neg]; omega
   have H := Lib.hid e
   clear e h h2
   go_enter Tryz.func154, Tryz.ntmps154
   go_wp2_with (go_at_call 145; refine (may_any _ _).mono ?_; rintro e w' ⟨rfl, rfl⟩)
   go_ret
   exact ⟨by rw [H.out]; rfl, rfl⟩
 ·have d1 : ((n : Int) % 8192 != 0) = true := by rw [bne_iff_ne]; omega
  have e : imgE n = 6 := by unfold imgE; rw [if_neg]; omega
  have H := Lib.hid e
  clear e h
  go_enter Tryz.func154, Tryz.ntmps154
  go_wp2_with (go_at_call 145; refine (may_any _ _).mono ?_; rintro e w' ⟨rfl, rfl⟩)
  go_ret
  exact ⟨by rw [H.out]; rfl, rfl⟩
set_option maxHeartbeats 1000000 in
theorem within_yes (p : Pc) (S : Int) (w : World) (s0 : 0 ≤ S) (s1 : S ≤ 1099511627776) (h : good S p) (hn : p.n ≤ maxLen) :
  Calls Tryz.prog 146 #[.agg #[.int .i64 p.at_, .slice p.A p.n p.c], .int .i64 S] w fun e w' => e = .returned (.bool true) ∧ Below w.heap.size w w' := by
 obtain ⟨a, A, n, c, z⟩ := p
 obtain ⟨h0, h1⟩ := h
 simp only at h0 h1 hn ⊢
 unfold maxLen at hn
 go_enter Tryz.func146, Tryz.ntmps146
 go_wp2
 go_ret
 exact ⟨by simp, by go_grown⟩
set_option maxHeartbeats 1000000 in
theorem within_no (p : Pc) (S : Int) (w : World) (s0 : 0 ≤ S) (s1 : S ≤ 1099511627776) (h : ¬ good S p) (hn : p.n ≤ maxLen) (ha : p.at_ ≤ 9223372036854775807) :
  Calls Tryz.prog 146 #[.agg #[.int .i64 p.at_, .slice p.A p.n p.c], .int .i64 S] w fun e w' => e = .returned (.bool false) ∧ Below w.heap.size w w' := by
 obtain ⟨a, A, n, c, z⟩ := p
 unfold good at h
 simp only at h hn ha ⊢
 unfold maxLen at hn
 by_cases h0 : 0 ≤ a
 ·have d : decide ((n : Int) ≤ S - a) = false := decide_eq_false (by omega)
  clear h
  go_enter Tryz.func146, Tryz.ntmps146
  go_wp2
  go_ret
  exact ⟨by simp, by go_grown⟩
 ·have d : decide (0 ≤ a) = false := decide_eq_false h0
  clear h h0
  go_enter Tryz.func146, Tryz.ntmps146
  go_wp2
  go_ret
  exact ⟨by simp, by go_grown⟩
end Go.Proofs.YtndhkdcdhpfajaaGreat
namespace Go.Proofs.YtndhkdcdhpfajaaGreat
open Go.RowKit
set_option linter.unusedVariables false
/-- How many bytes, from the first one on, are 0, or aren't. -/
def AheadAt (z : Nat → Int) (n : Nat) (zero : Bool) (k : Nat) : Prop := k ≤ n ∧ (∀ j, j < k → (z j == 0) = zero) ∧ (k < n → (z k == 0) = !zero)
set_option maxHeartbeats 2000000 in
theorem ahead_any {w : World} (A : Option Addr) (n c : Nat) (z : Nat → Int) (zero : Bool) (hn : n ≤ maxLen) (R : IRow w .u8 A n z) :
  Calls Tryz.prog 155 #[.slice A n c, .bool zero] w fun e w' => (∃ k : Nat, e = .returned (.int .i64 k) ∧ AheadAt z n zero k) ∧ w = w' := by
 unfold maxLen at hn
 cases zero
 ·go_enter Tryz.func155, Tryz.ntmps155
  go_wp2_with fail
  go_loop [9] (fun i => ∃ k : Nat, k ≤ n ∧ i = .int .i64 k ∧ Hid (∀ j, j < k → (z j == 0) = false)) (fun i => n - (intOf i).toNat)
  case atStart => exact ⟨0, by omega, rfl, Lib.hid (fun j h => absurd h (by omega))⟩
  case round =>
   obtain ⟨k, hk, rfl, H⟩ := hrel
   by_cases hlt : k < n
   ·obtain ⟨ad, rfl, hl, hc, hw⟩ := R k hlt
    clear hw hl
    rcases Bool.eq_false_or_eq_true (z k == 0) with e | e
    ·have HE := Lib.hid e
     go_wp2_with fail
     go_ret
     exact ⟨⟨k, rfl, hk, H.out, fun _ => HE.out⟩, rfl⟩
    ·have HE := Lib.hid e
     go_wp2_with fail
     go_round
     case rel => exact ⟨k + 1, by omega, by go_num, Lib.hid (fun j hj => by rcases Nat.lt_or_ge j k with h | h; exact H.out j h; rw [show j = k by omega]; exact HE.out)⟩
     case measure => simp [intOf]; omega
   ·obtain rfl : k = n := by omega
    go_wp2_with fail
    go_ret
    exact ⟨⟨k, rfl, hk, H.out, fun h => absurd h (by omega)⟩, rfl⟩
 ·go_enter Tryz.func155, Tryz.ntmps155
  go_wp2_with fail
  go_loop [9] (fun i => ∃ k : Nat, k ≤ n ∧ i = .int .i64 k ∧ Hid (∀ j, j < k → (z j == 0) = true)) (fun i => n - (intOf i).toNat)
  case atStart => exact ⟨0, by omega, rfl, Lib.hid (fun j h => absurd h (by omega))⟩
  case round =>
   obtain ⟨k, hk, rfl, H⟩ := hrel
   by_cases hlt : k < n
   ·obtain ⟨ad, rfl, hl, hc, hw⟩ := R k hlt
    clear hw hl
    rcases Bool.eq_false_or_eq_true (z k == 0) with e | e
    ·have HE := Lib.hid e
     go_wp2_with fail
     go_round
     case rel => exact ⟨k + 1, by omega, by go_num, Lib.hid (fun j hj => by rcases Nat.lt_or_ge j k with h | h; exact H.out j h; rw [show j = k by omega]; exact HE.out)⟩
     case measure => simp [intOf]; omega
    ·have HE := Lib.hid e
     go_wp2_with fail
     go_ret
     exact ⟨⟨k, rfl, hk, H.out, fun _ => HE.out⟩, rfl⟩
   ·obtain rfl : k = n := by omega
    go_wp2_with fail
    go_ret
    exact ⟨⟨k, rfl, hk, H.out, fun h => absurd h (by omega)⟩, rfl⟩
theorem ne_self (x : Int) : (x != x) = false := by simp
set_option maxHeartbeats 2000000 in
theorem same_yes {w : World} (A B : Option Addr) (n c d : Nat) (z : Nat → Int) (hn : n ≤ maxLen) (R : IRow w .u8 A n z) (Q : IRow w .u8 B n z) :
  Calls Tryz.prog 63 #[.slice A n c, .slice B n d] w fun e w' => e = .returned (.bool true) ∧ Below w.heap.size w w' := by
 unfold maxLen at hn
 have n0 : ((n : Int) != n) = false := by simp
 go_enter Tryz.func63, Tryz.ntmps63
 go_wp2_with fail
 clear n0
 go_loopw [5] (fun i wr => ∃ k : Nat, k ≤ n ∧ i = .int .i64 k ∧ wr.heap = w.heap ∧ Below w.heap.size w wr) (fun i _ => n - (intOf i).toNat)
 case atStart => exact ⟨0, by omega, rfl, rfl, Below.refl _ _⟩
 case round =>
  obtain ⟨k, hk, rfl, hh, hB⟩ := hrel
  have HH := Lib.hid hh
  clear hh
  by_cases hlt : k < n
  ·obtain ⟨a1, rfl, _, x1, _⟩ := R k hlt
   obtain ⟨a2, rfl, _, x2, _⟩ := Q k hlt
   have x1' : wr.cell? (a1.add k) = _ := (World.cell?_of_block (by rw [HH.out])).trans x1
   have x2' : wr.cell? (a2.add k) = _ := (World.cell?_of_block (by rw [HH.out])).trans x2
   have NS := ne_self (z k)
   clear x1 x2
   generalize z k = V at *
   go_wp2_with fail
   go_quiet (fail)
   go_wp2_with fail
   go_roundw
   case rel => exact ⟨k + 1, by omega, by go_num, HH.out, below_drewN hB _⟩
   case measure => simp [intOf]; omega
  ·obtain rfl : k = n := by omega
   go_wp2_with fail
   go_ret
   exact ⟨rfl, hB⟩
end Go.Proofs.YtndhkdcdhpfajaaGreat
namespace Go.Proofs.YtndhkdcdhpfajaaGreat
open Go.RowKit
set_option linter.unusedVariables false
/-- The rows of bytes that aren't 0 among the first i bytes: where each begins, and how long it is. -/
def runs (z : Nat → Int) : Nat → List (Nat × Nat)
 | 0 => []
 | i + 1 => if z i = 0 then runs z i else if 0 < i ∧ z (i - 1) ≠ 0 then (runs z i).dropLast ++ [(((runs z i).getLastD (0, 0)).1, ((runs z i).getLastD (0, 0)).2 + 1)] else runs z i ++ [(i, 1)]
theorem runs_len (z : Nat → Int) (i : Nat) : (runs z i).length ≤ i := by
 induction i with
 | zero => simp [runs]
 | succ i ih =>
  simp only [runs]
  split
  ·omega
  ·split
   ·rename_i h
    have : 0 < (runs z i).length ∨ (runs z i).length = 0 := by omega
    rw [List.length_append, List.length_dropLast]; simp; omega
   ·simp; omega
theorem runs_zero (z : Nat → Int) (e f : Nat) (h : e ≤ f) (hz : ∀ j, e ≤ j → j < f → z j = 0) : runs z f = runs z e := by
 induction f with
 | zero => rw [show e = 0 by omega]
 | succ f ih =>
  rcases Nat.lt_or_ge e (f + 1) with h1 | h1
  ·simp only [runs]
   rw [if_pos (hz f (by omega) (by omega))]
   exact ih (by omega) fun j a b => hz j a (by omega)
  ·rw [show e = f + 1 by omega]
theorem runs_succ (z : Nat → Int) (i : Nat) : runs z (i + 1) = if z i = 0 then runs z i else if 0 < i ∧ z (i - 1) ≠ 0 then (runs z i).dropLast ++ [(((runs z i).getLastD (0, 0)).1, ((runs z i).getLastD (0, 0)).2 + 1)] else runs z i ++ [(i, 1)] := rfl
theorem runs_block (z : Nat → Int) (f d : Nat) (hf : f = 0 ∨ z (f - 1) = 0) (hz : ∀ j, j < d + 1 → z (f + j) ≠ 0) : runs z (f + (d + 1)) = runs z f ++ [(f, d + 1)] := by
 induction d with
 | zero =>
  have h0 : z f ≠ 0 := hz 0 (by omega)
  rw [show f + (0 + 1) = f + 1 from rfl, runs_succ, if_neg h0, if_neg (by rintro ⟨a, b⟩; rcases hf with h | h; omega; exact b h)]
 | succ d ih =>
  have h1 := ih fun j hj => hz j (by omega)
  rw [show f + (d + 1 + 1) = (f + (d + 1)) + 1 from rfl, runs_succ, if_neg (hz (d + 1) (by omega)), if_pos ⟨by omega, by rw [show f + (d + 1) - 1 = f + d by omega]; exact hz d (by omega)⟩, h1]
  simp
end Go.Proofs.YtndhkdcdhpfajaaGreat
