/-
  The interrupts' controller: which kinds there are, their bits, places and names; which may not come.
-/
import Derived.Test.YtjknjlkjpccibaaIrq1
import Derived.BigQuiet
import Derived.Deep.QuietTactic
namespace Go.Proofs.Ytjknjlkjpccibaa
open Go.RowKit
set_option linter.unusedVariables false
set_option linter.unusedSimpArgs false
set_option maxRecDepth 100000
def inI (k f : Int) : Bool := decide (f ≤ k ∧ k ≤ 5)
theorem within_any (k f : Int) (w : World) :
    Calls Try.prog 40 #[.int .u8 k, .int .u8 f] w fun e w' => e = .returned (.bool (inI k f)) ∧ w = w' := by
  unfold inI
  by_cases h1 : f ≤ k
  · by_cases h2 : k ≤ 5
    · rw [decide_eq_true ⟨h1, h2⟩]
      go_enter Try.func40, Try.ntmps40
      go_wp2
      go_ret
      exact ⟨rfl, rfl⟩
    · rw [decide_eq_false (by omega)]
      have h2' : 5 < k := by omega
      go_enter Try.func40, Try.ntmps40
      go_wp2
      go_ret
      exact ⟨rfl, rfl⟩
  · rw [decide_eq_false (by omega)]
    have h1' : k < f := by omega
    go_enter Try.func40, Try.ntmps40
    go_wp2
    go_ret
    exact ⟨rfl, rfl⟩
theorem within_v {k f : Int} {x : Bool} {w : World} (e : inI k f = x) : Calls Try.prog 40 #[.int .u8 k, .int .u8 f] w fun e w' => e = .returned (.bool x) ∧ w = w' := e ▸ within_any k f w
/-- The bit of a kind. -/
def kbI (k : Int) : Int := if 3 ≤ k ∧ k ≤ 5 then 5 - k else -1
theorem kbit_any (k : Int) (w : World) (k0 : 0 ≤ k) (k1 : k ≤ 255) :
    Calls Try.prog 16 #[.int .u8 k] w fun e w' => e = .returned (.int .i64 (kbI k)) ∧ w = w' := by
  unfold kbI
  by_cases h : 3 ≤ k ∧ k ≤ 5
  · rw [if_pos h]
    have hin : inI k 3 = true := decide_eq_true h
    obtain ⟨h1, h2⟩ := h
    go_enter Try.func16, Try.ntmps16
    go_wp2_with (go_at_call 40; refine (within_v hin).mono ?_; rintro e w' ⟨rfl, rfl⟩)
    go_ret
    exact ⟨rfl, rfl⟩
  · rw [if_neg h]
    have hin : inI k 3 = false := decide_eq_false h
    clear h
    go_enter Try.func16, Try.ntmps16
    go_wp2_with (go_at_call 40; refine (within_v hin).mono ?_; rintro e w' ⟨rfl, rfl⟩)
    go_ret
    exact ⟨rfl, rfl⟩
theorem kbit_v {k x : Int} {w : World} (k0 : 0 ≤ k) (k1 : k ≤ 255) (e : kbI k = x) : Calls Try.prog 16 #[.int .u8 k] w fun e w' => e = .returned (.int .i64 x) ∧ w = w' := e ▸ kbit_any k w k0 k1
/-- May a kind not come? -/
def barI (d k : Int) (m : Bool) : Bool := decide (3 ≤ k ∧ k ≤ 5) && (m || bitB d (5 - k))
section
variable {w : World} {p : Option Addr} {d : Int}
theorem barred_of (hd : Calls Try.prog 12 #[.pointer p] w fun e w' => e = .returned (.int .u8 d) ∧ w = w') (k : Int) (m : Bool) (k0 : 0 ≤ k) (k1 : k ≤ 255) :
    Calls Try.prog 39 #[.pointer p, .int .u8 k, .bool m] w fun e w' => e = .returned (.bool (barI d k m)) ∧ w = w' := by
  by_cases h : 3 ≤ k ∧ k ≤ 5
  · have hb : kbI k = 5 - k := by unfold kbI; rw [if_pos h]
    cases m with
    | true =>
      have e : barI d k true = true := by unfold barI; rw [decide_eq_true h]; rfl
      rw [e]
      obtain ⟨h1, h2⟩ := h
      clear e hd
      go_enter Try.func39, Try.ntmps39
      go_wp2_with (go_at_call 16; refine (kbit_v k0 k1 hb).mono ?_; rintro e w' ⟨rfl, rfl⟩)
      go_ret
      exact ⟨rfl, rfl⟩
    | false =>
      have e : barI d k false = bitB d (5 - k) := by unfold barI; rw [decide_eq_true h]; rfl
      rw [e]
      obtain ⟨h1, h2⟩ := h
      clear e
      go_enter Try.func39, Try.ntmps39
      go_wp2_with (first | (go_at_call 16; refine (kbit_v k0 k1 hb).mono ?_; rintro e w' ⟨rfl, rfl⟩) | (go_at_call 12; refine hd.mono ?_; rintro e w' ⟨rfl, rfl⟩) | (go_at_call 20; refine (bit_any _ _ _).mono ?_; rintro e w' ⟨rfl, rfl⟩))
      go_ret
      exact ⟨rfl, rfl⟩
  · have e : barI d k m = false := by unfold barI; rw [decide_eq_false h]; rfl
    have hb : kbI k = -1 := by unfold kbI; rw [if_neg h]
    rw [e]
    clear e h hd
    go_enter Try.func39, Try.ntmps39
    go_wp2_with (go_at_call 16; refine (kbit_v k0 k1 hb).mono ?_; rintro e w' ⟨rfl, rfl⟩)
    go_ret
    exact ⟨rfl, rfl⟩
end
end Go.Proofs.Ytjknjlkjpccibaa
