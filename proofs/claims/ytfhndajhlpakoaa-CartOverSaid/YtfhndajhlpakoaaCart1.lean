/-
  What cart's may, Check, within and the reference's Check answer; they only make memory.
-/
import Derived.Test.YtfhndajhlpakoaaCart0
import Derived.Test.YtfhndajhlpakoaaProg
import Derived.WalkKit
import Derived.WalkSpells
import Derived.Handy
import Derived.Lib.Hide
namespace Go.Proofs.Ytfhndajhlpakoaa
open Go.RowKit
set_option linter.unusedVariables false
def mayB (n : Int) : Bool := decide (1 ≤ n ∧ n ≤ 128)
set_option maxHeartbeats 400000 in
theorem may_any (n : Int) (w : World) :
    Calls Try.prog 45 #[.int .i64 n] w fun e w' => e = .returned (.bool (mayB n)) ∧ w = w' := by
  by_cases h : 1 ≤ n
  · by_cases h2 : n ≤ 128
    · have e : mayB n = true := decide_eq_true ⟨h, h2⟩
      have H := Lib.hid e
      clear e
      go_enter Try.func45, Try.ntmps45
      go_wp2
      go_ret
      exact ⟨by rw [H.out]; simp, rfl⟩
    · have e : mayB n = false := decide_eq_false (by omega)
      have H := Lib.hid e
      have d : decide (n ≤ 128) = false := decide_eq_false h2
      clear e h2
      go_enter Try.func45, Try.ntmps45
      go_wp2
      go_ret
      exact ⟨by rw [H.out]; simp, rfl⟩
  · have e : mayB n = false := decide_eq_false (by omega)
    have H := Lib.hid e
    have d : decide (1 ≤ n) = false := decide_eq_false h
    clear e h
    go_enter Try.func45, Try.ntmps45
    go_wp2
    go_ret
    exact ⟨by rw [H.out]; simp, rfl⟩
/-- Of so many bytes: are they an image? -/
def imgE (n : Nat) : Int := if 0 < n ∧ n % 8192 = 0 ∧ n ≤ 1048576 then 0 else 6
set_option maxHeartbeats 1000000 in
theorem check_any (A : Option Addr) (n c : Nat) (w : World) (hn : n ≤ maxLen) :
    Calls Try.prog 44 #[.slice A n c] w fun e w' => e = .returned (.int .i64 (imgE n)) ∧ w = w' := by
  unfold maxLen at hn
  by_cases h : n % 8192 = 0
  · have d1 : ((n : Int) % 8192 != 0) = false := by rw [bne_eq_false_iff_eq]; omega
    by_cases h2 : mayB ((n : Int) / 8192) = true
    · have e : imgE n = 0 := by unfold mayB at h2; simp only [decide_eq_true_eq] at h2; unfold imgE; rw [if_pos]; omega
      have H := Lib.hid e
      clear e h
      go_enter Try.func44, Try.ntmps44
      go_wp2_with (go_at_call 45; refine (may_any _ _).mono ?_; rintro e w' ⟨rfl, rfl⟩)
      go_ret
      exact ⟨by rw [H.out]; rfl, rfl⟩
    · have h3 : mayB ((n : Int) / 8192) = false := by simpa using h2
      have e : imgE n = 6 := by unfold mayB at h2; simp only [decide_eq_true_eq] at h2; unfold imgE; rw [if_neg]; omega
      have H := Lib.hid e
      clear e h h2
      go_enter Try.func44, Try.ntmps44
      go_wp2_with (go_at_call 45; refine (may_any _ _).mono ?_; rintro e w' ⟨rfl, rfl⟩)
      go_ret
      exact ⟨by rw [H.out]; rfl, rfl⟩
  · have d1 : ((n : Int) % 8192 != 0) = true := by rw [bne_iff_ne]; omega
    have e : imgE n = 6 := by unfold imgE; rw [if_neg]; omega
    have H := Lib.hid e
    clear e h
    go_enter Try.func44, Try.ntmps44
    go_wp2_with (go_at_call 45; refine (may_any _ _).mono ?_; rintro e w' ⟨rfl, rfl⟩)
    go_ret
    exact ⟨by rw [H.out]; rfl, rfl⟩
set_option maxHeartbeats 1000000 in
theorem within_yes (p : Pc) (S : Int) (w : World) (s0 : 0 ≤ S) (s1 : S ≤ 1099511627776) (h : good S p) (hn : p.n ≤ maxLen) :
    Calls Try.prog 46 #[.agg #[.int .i64 p.at_, .slice p.A p.n p.c], .int .i64 S] w fun e w' => e = .returned (.bool true) ∧ Below w.heap.size w w' := by
  obtain ⟨a, A, n, c, z⟩ := p
  obtain ⟨h0, h1⟩ := h
  simp only at h0 h1 hn ⊢
  unfold maxLen at hn
  go_enter Try.func46, Try.ntmps46
  go_wp2
  go_ret
  exact ⟨by simp, by go_grown⟩
set_option maxHeartbeats 1000000 in
theorem within_no (p : Pc) (S : Int) (w : World) (s0 : 0 ≤ S) (s1 : S ≤ 1099511627776) (h : ¬ good S p) (hn : p.n ≤ maxLen) (ha : p.at_ ≤ 9223372036854775807) :
    Calls Try.prog 46 #[.agg #[.int .i64 p.at_, .slice p.A p.n p.c], .int .i64 S] w fun e w' => e = .returned (.bool false) ∧ Below w.heap.size w w' := by
  obtain ⟨a, A, n, c, z⟩ := p
  unfold good at h
  simp only at h hn ha ⊢
  unfold maxLen at hn
  by_cases h0 : 0 ≤ a
  · have d : decide ((n : Int) ≤ S - a) = false := decide_eq_false (by omega)
    clear h
    go_enter Try.func46, Try.ntmps46
    go_wp2
    go_ret
    exact ⟨by simp, by go_grown⟩
  · have d : decide (0 ≤ a) = false := decide_eq_false h0
    clear h h0
    go_enter Try.func46, Try.ntmps46
    go_wp2
    go_ret
    exact ⟨by simp, by go_grown⟩
end Go.Proofs.Ytfhndajhlpakoaa
