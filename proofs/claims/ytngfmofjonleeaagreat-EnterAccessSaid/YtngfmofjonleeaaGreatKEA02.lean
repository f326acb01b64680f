/-
  Texts of these proofs, one behind the other: G1, A1, G2, MB, M6.
-/
import Derived.WalkKit
import Derived.Handy
import Derived.WalkSpells
import Derived.WalkLawsBesides
import Derived.Test.YtngfmofjonleeaaGreatProg
import Derived.BigQuiet
import Derived.Deep.QuietTactic
import Derived.Lib.Hide
import Derived.Laws.BytesArg
import Derived.Deep.WholeRow
namespace Go.Proofs.YtngfmofjonleeaaGreat
open Go.RowKit

/-- A type whose values are one cell, and no aggregate. -/
def flat (P : Program) (e : TypeId) : Bool :=
  (match P.underlying e with | some (.struct _) => false | some (.array _ _) => false | some _ => true | none => false) && (P.info? e).any (fun i => i.size == 1)

theorem run_index_agg {P : Program} {t e : TypeId} {n : Nat} (ht : P.underlying t = some (.array n e)) (he : flat P e = true) {cs : Array Value} {k : IntKind} {i : Int} {v : Value} (h0 : 0 ≤ i) (h1 : i < n) (hv : cs[i.toNat]? = some v) (w : World) :
    (Instr.index t (.agg cs) (.int k i)).run P w = .ok v w := by
  unfold flat at he
  simp only [Bool.and_eq_true, Option.any_eq_true] at he
  obtain ⟨he, inf, hi, hs⟩ := he
  have hs : inf.size = 1 := by simpa using hs
  cases hu : P.underlying e with
  | none => simp [hu] at he
  | some d =>
    have hz : (typeInfo e).run P w = .ok inf w := by simp [typeInfo, hi]
    cases d <;> simp [hu] at he <;> simp [Instr.index, run_underlying ht, asIntOf, h0, h1, part, isAgg, run_underlying hu, sizeOf, hz, hs, hv]
end Go.Proofs.YtngfmofjonleeaaGreat
namespace Go.Proofs.YtngfmofjonleeaaGreat
open Go.RowKit

def maskI (n : Int) : Int := if 0 ≤ n ∧ n ≤ 7 then 2 ^ n.toNat else 0
set_option maxHeartbeats 400000 in
theorem mask_any (n : Int) (w : World) :
    Calls Tryz.prog 154 #[.int .i64 n] w fun e w' => e = .returned (.int .u8 (maskI n)) ∧ w = w' := by
  by_cases h0 : n < 0
  · have hm : maskI n = 0 := by unfold maskI; rw [if_neg (by omega)]
    rw [hm]; clear hm
    go_enter Tryz.func154, Tryz.ntmps154
    go_wp2
    go_ret
    exact ⟨rfl, rfl⟩
  · by_cases h1 : 7 < n
    · have hm : maskI n = 0 := by unfold maskI; rw [if_neg (by omega)]
      rw [hm]; clear hm
      go_enter Tryz.func154, Tryz.ntmps154
      go_wp2
      go_ret
      exact ⟨rfl, rfl⟩
    · have : n = 0 ∨ n = 1 ∨ n = 2 ∨ n = 3 ∨ n = 4 ∨ n = 5 ∨ n = 6 ∨ n = 7 := by omega
      clear h0 h1
      rcases this with rfl | rfl | rfl | rfl | rfl | rfl | rfl | rfl
      all_goals
        go_enter Tryz.func154, Tryz.ntmps154
        go_wp2
        go_ret
        exact ⟨rfl, rfl⟩

def bitB (b n : Int) : Bool := bits .and .u8 b (maskI n) != 0
set_option maxHeartbeats 400000 in
theorem bit_any (b n : Int) (w : World) :
    Calls Tryz.prog 143 #[.int .u8 b, .int .i64 n] w fun e w' => e = .returned (.bool (bitB b n)) ∧ w = w' := by
  go_enter Tryz.func143, Tryz.ntmps143
  go_wp2_with (go_at_call 154; refine (mask_any _ _).mono ?_; rintro e w' ⟨rfl, rfl⟩)
  go_ret
  exact ⟨rfl, rfl⟩

def withI (b n : Int) (on : Bool) : Int := if on then bits .or .u8 b (maskI n) else bits .andNot .u8 b (maskI n)
set_option maxHeartbeats 400000 in
theorem with_any (b n : Int) (on : Bool) (w : World) :
    Calls Tryz.prog 160 #[.int .u8 b, .int .i64 n, .bool on] w fun e w' => e = .returned (.int .u8 (withI b n on)) ∧ w = w' := by
  cases on
  all_goals
    go_enter Tryz.func160, Tryz.ntmps160
    go_wp2_with (go_at_call 154; refine (mask_any _ _).mono ?_; rintro e w' ⟨rfl, rfl⟩)
    go_ret
    exact ⟨rfl, rfl⟩

set_option maxHeartbeats 400000 in
theorem lo_any (x : Int) (w : World) :
    Calls Tryz.prog 50 #[.int .u16 x] w fun e w' => e = .returned (.int .u8 (IntKind.u8.wrap x)) ∧ w = w' := by
  go_enter Tryz.func50, Tryz.ntmps50
  go_wp2
  go_ret
  exact ⟨rfl, rfl⟩
set_option maxHeartbeats 400000 in
theorem hi_any (x : Int) (w : World) :
    Calls Tryz.prog 49 #[.int .u16 x] w fun e w' => e = .returned (.int .u8 (IntKind.u8.wrap (x / 256))) ∧ w = w' := by
  go_enter Tryz.func49, Tryz.ntmps49
  go_wp2
  go_ret
  exact ⟨rfl, rfl⟩
end Go.Proofs.YtngfmofjonleeaaGreat
namespace Go.Proofs.YtngfmofjonleeaaGreat
open Go.RowKit
end Go.Proofs.YtngfmofjonleeaaGreat
namespace Go.Proofs.YtngfmofjonleeaaGreat
open Go.RowKit
set_option linter.unusedVariables false
set_option maxRecDepth 100000
theorem bit0_fin : ∀ b : Fin 256, bitB (b.val : Int) 0 = decide ((b.val : Int) % 2 = 1) := by decide +kernel
theorem bit1_fin : ∀ b : Fin 256, bitB (b.val : Int) 1 = decide ((b.val : Int) / 2 % 2 = 1) := by decide +kernel
theorem bit0_eq {b : Int} (h0 : 0 ≤ b) (h1 : b ≤ 255) : bitB b 0 = decide (b % 2 = 1) := by
  have := bit0_fin ⟨b.toNat, by omega⟩
  rwa [show ((⟨b.toNat, by omega⟩ : Fin 256).val : Int) = b by simp; omega] at this
theorem bit1_eq {b : Int} (h0 : 0 ≤ b) (h1 : b ≤ 255) : bitB b 1 = decide (b / 2 % 2 = 1) := by
  have := bit1_fin ⟨b.toNat, by omega⟩
  rwa [show ((⟨b.toNat, by omega⟩ : Fin 256).val : Int) = b by simp; omega] at this
end Go.Proofs.YtngfmofjonleeaaGreat
namespace Go.Proofs.YtngfmofjonleeaaGreat
open Go.RowKit
set_option linter.unusedVariables false
set_option maxRecDepth 100000
end Go.Proofs.YtngfmofjonleeaaGreat
