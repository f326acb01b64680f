/-
  Layer 17: beyond, Fold; the reference's wrong, Fold.
-/
import Derived.Test.YtnelcbbjnpaodaaProg
import Derived.Test.YtnelcbbjnpaodaaTrn0
import Derived.Test.YtnelcbbjnpaodaaG3
import Derived.WalkKit
import Derived.Handy
import Derived.PlainAid
import Derived.Lib.Hide
namespace Go.Proofs.Ytnelcbbjnpaodaa
open Go.RowKit
set_option linter.unusedVariables false
set_option linter.unusedSimpArgs false
set_option maxRecDepth 100000
/-- One of the first n is farther from 0 than F. -/
def farB (z : Nat → Int) (F : Int) : Nat → Bool
  | 0 => false
  | n + 1 => farB z F n || (decide (z n < -F) || decide (F < z n))
theorem farB_not {z : Nat → Int} {F : Int} : ∀ {n : Nat}, farB z F n = false ↔ ∀ i, i < n → -F ≤ z i ∧ z i ≤ F
  | 0 => by simp [farB]
  | n + 1 => by
    simp only [farB, Bool.or_eq_false_iff, decide_eq_false_iff_not, farB_not (n := n)]
    constructor
    · rintro ⟨h, h1, h2⟩ i hi
      by_cases e : i = n
      · subst e; omega
      · exact h i (by omega)
    · intro h
      exact ⟨fun i hi => h i (by omega), by have := h n (by omega); omega⟩
theorem farB_at {z : Nat → Int} {F : Int} {k : Nat} (h : z k < -F ∨ F < z k) : ∀ {n : Nat}, k < n → farB z F n = true
  | n + 1, hk => by
    simp only [farB, Bool.or_eq_true, decide_eq_true_eq]
    by_cases e : k = n
    · subst e; exact .inr h
    · exact .inl (farB_at h (by omega))
theorem farB_congr {z y : Nat → Int} {F : Int} : ∀ {n : Nat}, (∀ i, i < n → z i = y i) → farB z F n = farB y F n
  | 0, _ => rfl
  | n + 1, h => by simp only [farB]; rw [farB_congr (n := n) (fun i hi => h i (by omega)), h n (by omega)]
theorem tbeyond_any {w : World} {A : Option Addr} {n c : Nat} {z : Nat → Int} (hR : IRow w .i64 A n z) (hn : n ≤ 9223372036854775000) (F : Int) (F0 : 0 ≤ F) (F1 : F ≤ 1099511627776) :
    Calls Try.prog 26 #[.int .i64 F, .slice A n c] w fun e w' => e = .returned (.bool (farB z F n)) ∧ w = w' := by
  have HR := Lib.hid hR
  clear hR
  obtain ⟨E, hE⟩ : ∃ E, farB z F n = E := ⟨_, rfl⟩
  have HE := Lib.hid hE
  rw [hE]
  clear hE
  go_enter Try.func26, Try.ntmps26
  go_wp2_with fail
  go_loop [6, 9] (fun x i => ∃ k : Nat, k ≤ n ∧ i = .int .i64 k ∧ farB z F k = false) (fun _ i => n - (intOf i).toNat)
  case atStart => exact ⟨0, by omega, rfl, rfl⟩
  case round =>
    obtain ⟨k, hk, rfl, hf⟩ := hrel
    by_cases hlt : k < n
    · have i1 : (k : Int) < n := by omega
      obtain ⟨ad, rfl, hl, hc, hw⟩ := HR.out k hlt
      obtain ⟨v, hv⟩ : ∃ v, z k = v := ⟨_, rfl⟩
      rw [hv] at hc hw
      have HF := Lib.hid hf
      have HV := Lib.hid hv
      clear hf hv
      by_cases h1 : v < -F
      · have HT : E = true := HE.out.symm.trans (farB_at (.inl (by rw [HV.out]; exact h1)) hlt)
        subst HT
        go_wp2_with fail
        go_ret
        exact ⟨rfl, rfl⟩
      by_cases h2 : F < v
      · have HT : E = true := HE.out.symm.trans (farB_at (.inr (by rw [HV.out]; exact h2)) hlt)
        subst HT
        go_wp2_with fail
        go_ret
        exact ⟨rfl, rfl⟩
      go_wp2_with fail
      go_round
      case rel => exact ⟨k + 1, by omega, by go_num, by simp only [farB, HF.out, HV.out, h1, h2, decide_false, Bool.or_false]⟩
      case measure => simp [intOf]; omega
    · have i1 : ¬ (k : Int) < n := by omega
      obtain rfl : k = n := by omega
      obtain rfl : E = false := HE.out.symm.trans hf
      clear hf
      go_wp2_with fail
      go_ret
      exact ⟨rfl, rfl⟩
/-- What is wrong with a row. -/
def rowE (z : Nat → Int) (n : Nat) : Int := if 4096 < n then 2 else if farB z 262144 n = true then 1 else 0
theorem twrong_any {w : World} {A : Option Addr} {n c : Nat} {z : Nat → Int} (hR : IRow w .i64 A n z) (hn : n ≤ 9223372036854775000) :
    Calls Try.prog 30 #[.slice A n c] w fun e w' => e = .returned (.int .i64 (rowE z n)) ∧ w = w' := by
  have HR := Lib.hid hR
  clear hR
  obtain ⟨E, hE⟩ : ∃ E, rowE z n = E := ⟨_, rfl⟩
  have HE := Lib.hid hE
  rw [hE]
  clear hE
  by_cases h0 : 4096 < n
  · obtain rfl : E = 2 := by rw [← HE.out]; unfold rowE; rw [if_pos h0]
    have i0 : (4096 : Int) < n := by omega
    go_enter Try.func30, Try.ntmps30
    go_wp2_with fail
    go_ret
    exact ⟨rfl, rfl⟩
  have HN := Lib.hid h0
  have i0 : ¬ (4096 : Int) < n := by omega
  go_enter Try.func30, Try.ntmps30
  go_wp2_with fail
  go_loop [3] (fun i => ∃ k : Nat, k ≤ n ∧ i = .int .i64 k ∧ farB z 262144 k = false) (fun i => n - (intOf i).toNat)
  case atStart => exact ⟨0, by omega, rfl, rfl⟩
  case round =>
    obtain ⟨k, hk, rfl, hf⟩ := hrel
    by_cases hlt : k < n
    · have i1 : (k : Int) < n := by omega
      have i2 : (0 : Int) ≤ (k : Int) := by omega
      obtain ⟨ad, rfl, hl, hc, hw⟩ := HR.out k hlt
      obtain ⟨v, hv⟩ : ∃ v, z k = v := ⟨_, rfl⟩
      rw [hv] at hc hw
      have HF := Lib.hid hf
      have HV := Lib.hid hv
      clear hf hv
      by_cases h1 : v < -262144
      · obtain rfl : E = 1 := by rw [← HE.out]; unfold rowE; rw [if_neg HN.out, if_pos (farB_at (.inl (by rw [HV.out]; exact h1)) hlt)]
        go_wp2_with fail
        go_ret
        exact ⟨rfl, rfl⟩
      by_cases h2 : 262144 < v
      · obtain rfl : E = 1 := by rw [← HE.out]; unfold rowE; rw [if_neg HN.out, if_pos (farB_at (.inr (by rw [HV.out]; exact h2)) hlt)]
        go_wp2_with fail
        go_ret
        exact ⟨rfl, rfl⟩
      go_wp2_with fail
      go_round
      case rel => exact ⟨k + 1, by omega, by go_num, by simp only [farB, HF.out, HV.out, h1, h2, decide_false, Bool.or_false]⟩
      case measure => simp [intOf]; omega
    · have i1 : ¬ (k : Int) < n := by omega
      obtain rfl : k = n := by omega
      obtain rfl : E = 0 := by rw [← HE.out]; unfold rowE; rw [if_neg HN.out, hf]; rfl
      clear hf
      go_wp2_with fail
      go_ret
      exact ⟨rfl, rfl⟩
end Go.Proofs.Ytnelcbbjnpaodaa
