/-
  What octet's figures and value answer, for every argument; they only make memory.
-/
import Derived.Test.YtcckojleeojpiaaA2
import Derived.Test.YtcckojleeojpiaaG1
namespace Go.Proofs.Ytcckojleeojpiaa
open Go.RowKit

def digI (k : Nat) : Int := if k < 10 then 48 + k else 55 + k
def figs : Array Value := #[.int .u8 48, .int .u8 49, .int .u8 50, .int .u8 51, .int .u8 52, .int .u8 53, .int .u8 54, .int .u8 55, .int .u8 56, .int .u8 57, .int .u8 65, .int .u8 66, .int .u8 67, .int .u8 68, .int .u8 69, .int .u8 70]
theorem figs_at (k : Nat) (h : k < 16) : figs[k]? = some (.int .u8 (digI k)) := by
  have : k = 0 ∨ k = 1 ∨ k = 2 ∨ k = 3 ∨ k = 4 ∨ k = 5 ∨ k = 6 ∨ k = 7 ∨ k = 8 ∨ k = 9 ∨ k = 10 ∨ k = 11 ∨ k = 12 ∨ k = 13 ∨ k = 14 ∨ k = 15 := by omega
  rcases this with rfl | rfl | rfl | rfl | rfl | rfl | rfl | rfl | rfl | rfl | rfl | rfl | rfl | rfl | rfl | rfl <;> rfl

set_option maxHeartbeats 400000 in
theorem figures_any (w : World) :
    Calls Try.prog 58 #[] w fun e w' => e = .returned (.agg figs) ∧ Below w.heap.size w w' := by
  go_enter Try.func58, Try.ntmps58
  go_wp2
  go_returns
  exact ⟨rfl, by go_grown⟩

def valB (c : Int) : Bool := decide ((48 ≤ c ∧ c ≤ 57) ∨ (65 ≤ c ∧ c ≤ 70))
def valI (c : Int) : Int := if valB c then (if c ≤ 57 then c - 48 else c - 55) else 0
theorem valI_bd (c : Int) : 0 ≤ valI c ∧ valI c ≤ 15 := by
  unfold valI valB; simp only [decide_eq_true_eq]; split <;> (try split) <;> omega
theorem val_dig (k : Nat) (h : k < 16) (c : Int) (e : digI k = c) : valB c = true ∧ valI c = k := by
  unfold digI at e
  have hb : valB c = true := by unfold valB; simp only [decide_eq_true_eq]; split at e <;> omega
  refine ⟨hb, ?_⟩
  unfold valI; rw [if_pos hb]
  split at e <;> split <;> omega
theorem val_none (c : Int) (h : ∀ j : Nat, j < 16 → digI j ≠ c) : valB c = false ∧ valI c = 0 := by
  have hb : valB c = false := by
    unfold valB; simp only [decide_eq_false_iff_not]
    intro hc
    rcases hc with hc | hc
    · exact h (c - 48).toNat (by omega) (by unfold digI; rw [if_pos (by omega)]; omega)
    · exact h (c - 55).toNat (by omega) (by unfold digI; rw [if_neg (by omega)]; omega)
  exact ⟨hb, by unfold valI; rw [hb]; rfl⟩
def NoneTo (c : Int) (k : Nat) : Prop := ∀ j : Nat, j < k → digI j ≠ c

set_option maxHeartbeats 400000 in
theorem value_any (c : Int) (w : World) :
    Calls Try.prog 60 #[.int .u8 c] w fun e w' => e = .returned (.tuple #[.int .u32 (valI c), .bool (valB c)]) ∧ Below w.heap.size w w' := by
  go_enter Try.func60, Try.ntmps60
  go_wp2_with (go_at_call 58; refine (figures_any _).mono ?_; rintro e w' ⟨rfl, hb⟩)
  go_loop [7] (fun i => ∃ k : Nat, k ≤ 16 ∧ i = .int .i64 k ∧ NoneTo c k) (fun i => 16 - (intOf i).toNat)
  case atStart => exact ⟨0, by omega, rfl, fun j h => absurd h (by omega)⟩
  case round =>
    obtain ⟨k, hk, rfl, hn⟩ := hrel
    by_cases hlt : k < 16
    · have hx := fun w => run_index_agg (P := Try.prog) (t := 82) Try.underlying82 (by kernel_rfl) (cs := figs) (k := .i64) (i := (k : Int)) (by omega) (by omega) (figs_at k hlt) w
      by_cases e : digI k = c
      · have he : (digI k == c) = true := by simpa using e
        have H := Lib.hid (val_dig k hlt c e)
        clear e
        go_wp2_with fail
        go_ret2
        exact ⟨by rw [H.out.1, H.out.2]; rfl, hb⟩
      · have he : (digI k == c) = false := by simpa using e
        have hn' : NoneTo c (k + 1) := fun j hj => by
          by_cases ej : j = k
          · subst ej; exact e
          · exact hn j (by omega)
        clear e
        go_wp2_with fail
        go_round
        case rel => exact ⟨k + 1, by omega, by go_num, hn'⟩
        case measure => simp [intOf]; omega
    · obtain rfl : k = 16 := by omega
      have H := Lib.hid (val_none c hn)
      go_wp2_with fail
      go_ret2
      exact ⟨by rw [H.out.1, H.out.2]; rfl, hb⟩
end Go.Proofs.Ytcckojleeojpiaa
