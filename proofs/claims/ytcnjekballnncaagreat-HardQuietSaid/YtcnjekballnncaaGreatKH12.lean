/-
  Texts of these proofs, one behind the other: Irq2, G1.
-/
import Derived.Test.YtcnjekballnncaaGreatKH11
import Derived.BigQuiet
import Derived.Deep.QuietTactic
import Derived.WalkKit
import Derived.Handy
import Derived.WalkSpells
import Derived.WalkLawsBesides
namespace Go.Proofs.YtcnjekballnncaaGreat
open Go.RowKit
set_option linter.unusedVariables false
set_option linter.unusedSimpArgs false
set_option maxRecDepth 100000
def inI (k f : Int) : Bool := decide (f ≤ k ∧ k ≤ 5)
theorem within_any (k f : Int) (w : World) :
    Calls Tryz.prog 122 #[.int .u8 k, .int .u8 f] w fun e w' => e = .returned (.bool (inI k f)) ∧ w = w' := by
  unfold inI
  by_cases h1 : f ≤ k
  · by_cases h2 : k ≤ 5
    · rw [decide_eq_true ⟨h1, h2⟩]
      go_enter Tryz.func122, Tryz.ntmps122
      go_wp2
      go_ret
      exact ⟨rfl, rfl⟩
    · rw [decide_eq_false (by omega)]
      have h2' : 5 < k := by omega
      go_enter Tryz.func122, Tryz.ntmps122
      go_wp2
      go_ret
      exact ⟨rfl, rfl⟩
  · rw [decide_eq_false (by omega)]
    have h1' : k < f := by omega
    go_enter Tryz.func122, Tryz.ntmps122
    go_wp2
    go_ret
    exact ⟨rfl, rfl⟩
theorem within_v {k f : Int} {x : Bool} {w : World} (e : inI k f = x) : Calls Tryz.prog 122 #[.int .u8 k, .int .u8 f] w fun e w' => e = .returned (.bool x) ∧ w = w' := e ▸ within_any k f w
/-- The bit of a kind. -/
def kbI (k : Int) : Int := if 3 ≤ k ∧ k ≤ 5 then 5 - k else -1
theorem kbit_any (k : Int) (w : World) (k0 : 0 ≤ k) (k1 : k ≤ 255) :
    Calls Tryz.prog 116 #[.int .u8 k] w fun e w' => e = .returned (.int .i64 (kbI k)) ∧ w = w' := by
  unfold kbI
  by_cases h : 3 ≤ k ∧ k ≤ 5
  · rw [if_pos h]
    have hin : inI k 3 = true := decide_eq_true h
    obtain ⟨h1, h2⟩ := h
    go_enter Tryz.func116, Tryz.ntmps116
    go_wp2_with (go_at_call 122; refine (within_v hin).mono ?_; rintro e w' ⟨rfl, rfl⟩)
    go_ret
    exact ⟨rfl, rfl⟩
  · rw [if_neg h]
    have hin : inI k 3 = false := decide_eq_false h
    clear h
    go_enter Tryz.func116, Tryz.ntmps116
    go_wp2_with (go_at_call 122; refine (within_v hin).mono ?_; rintro e w' ⟨rfl, rfl⟩)
    go_ret
    exact ⟨rfl, rfl⟩
theorem kbit_v {k x : Int} {w : World} (k0 : 0 ≤ k) (k1 : k ≤ 255) (e : kbI k = x) : Calls Tryz.prog 116 #[.int .u8 k] w fun e w' => e = .returned (.int .i64 x) ∧ w = w' := e ▸ kbit_any k w k0 k1
/-- May a kind not come? -/
def barI (d k : Int) (m : Bool) : Bool := decide (3 ≤ k ∧ k ≤ 5) && (m || bitB d (5 - k))
section
variable {w : World} {p : Option Addr} {d : Int}
theorem barred_of (hd : Calls Tryz.prog 49 #[.pointer p] w fun e w' => e = .returned (.int .u8 d) ∧ w = w') (k : Int) (m : Bool) (k0 : 0 ≤ k) (k1 : k ≤ 255) :
    Calls Tryz.prog 97 #[.pointer p, .int .u8 k, .bool m] w fun e w' => e = .returned (.bool (barI d k m)) ∧ w = w' := by
  by_cases h : 3 ≤ k ∧ k ≤ 5
  · have hb : kbI k = 5 - k := by unfold kbI; rw [if_pos h]
    cases m with
    | true =>
      have e : barI d k true = true := by unfold barI; rw [decide_eq_true h]; rfl
      rw [e]
      obtain ⟨h1, h2⟩ := h
      clear e hd
      go_enter Tryz.func97, Tryz.ntmps97
      go_wp2_with (go_at_call 116; refine (kbit_v k0 k1 hb).mono ?_; rintro e w' ⟨rfl, rfl⟩)
      go_ret
      exact ⟨rfl, rfl⟩
    | false =>
      have e : barI d k false = bitB d (5 - k) := by unfold barI; rw [decide_eq_true h]; rfl
      rw [e]
      obtain ⟨h1, h2⟩ := h
      clear e
      go_enter Tryz.func97, Tryz.ntmps97
      go_wp2_with (first | (go_at_call 116; refine (kbit_v k0 k1 hb).mono ?_; rintro e w' ⟨rfl, rfl⟩) | (go_at_call 49; refine hd.mono ?_; rintro e w' ⟨rfl, rfl⟩) | (go_at_call 100; refine (bit_any _ _ _).mono ?_; rintro e w' ⟨rfl, rfl⟩))
      go_ret
      exact ⟨rfl, rfl⟩
  · have e : barI d k m = false := by unfold barI; rw [decide_eq_false h]; rfl
    have hb : kbI k = -1 := by unfold kbI; rw [if_neg h]
    rw [e]
    clear e h hd
    go_enter Tryz.func97, Tryz.ntmps97
    go_wp2_with (go_at_call 116; refine (kbit_v k0 k1 hb).mono ?_; rintro e w' ⟨rfl, rfl⟩)
    go_ret
    exact ⟨rfl, rfl⟩
end
end Go.Proofs.YtcnjekballnncaaGreat
namespace Go.Proofs.YtcnjekballnncaaGreat
open Go.RowKit

/-- A type whose values are one cell, and no aggregate. -/
def flat (P : Program) (e : TypeId) : Bool :=
  (match P.underlying e with | some (.struct _) => false | some (.array _ _) => false | some _ => true | none => false) && (P.info? e).any (fun i => i.size == 1)

theorem run_index_agg {P : Program} {t e : TypeId} {n : Nat} (ht : P.underlying t = some (.array n e)) (he : flat P e = true) {cs : Array Value} {k : IntKind} {i : Int} {v : Value} (h0 : 0 ≤ i) (h1 : i < n) (hv : cs[i.toNat]? = some v) (w : World) :
    (Instr.index t (.agg cs) (.int k i)).run P w = .ok v w := by
  unfold flat at he
  simp only [Bool.and_eq_true, Option.any_eq_true] at he
  obtain ⟨he, inf, hi, hs⟩ := he
  have hs : inf.size = 1 := by simpa using hs
  cases hu : P.underlying e with
  | none => simp [hu] at he
  | some d =>
    have hz : (typeInfo e).run P w = .ok inf w := by simp [typeInfo, hi]
    cases d <;> simp [hu] at he <;> simp [Instr.index, run_underlying ht, asIntOf, h0, h1, part, isAgg, run_underlying hu, sizeOf, hz, hs, hv]
end Go.Proofs.YtcnjekballnncaaGreat
