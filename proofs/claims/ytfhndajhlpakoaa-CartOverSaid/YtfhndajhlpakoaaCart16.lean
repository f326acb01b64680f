/-
  The pieces of an image, laid in again, are the image; cart's Pieces of bytes that are none.
-/
import Derived.Test.YtfhndajhlpakoaaCart15
namespace Go.Proofs.Ytfhndajhlpakoaa
open Go.RowKit
set_option linter.unusedVariables false
theorem runs_cover (z : Nat → Int) (n : Nat) : ∀ i, i < n → z i ≠ 0 → ∃ x ∈ runs z n, x.1 ≤ i ∧ i < x.1 + x.2 := by
  induction n with
  | zero => intro i hi; omega
  | succ n ih =>
    intro i hi hz
    by_cases h : z n = 0
    · rw [runs_succ, if_pos h]
      have : i ≠ n := fun e => hz (by rw [e]; exact h)
      exact ih i (by omega) hz
    · by_cases c : 0 < n ∧ z (n - 1) ≠ 0
      · obtain ⟨L, f, d, e, h1, h2⟩ := runs_last z n c.1 c.2
        rw [runs_more z n c.1 c.2 h e]
        rw [e] at ih
        rcases Nat.lt_or_ge i n with hl | hl
        · obtain ⟨x, hx, x1, x2⟩ := ih i hl hz
          simp only [List.mem_append, List.mem_singleton] at hx
          rcases hx with hx | rfl
          · exact ⟨x, by simp [hx], x1, x2⟩
          · exact ⟨(f, d + 1), by simp, x1, by show i < f + (d + 1); have : i < f + d := x2; omega⟩
        · exact ⟨(f, d + 1), by simp, by show f ≤ i; omega, by show i < f + (d + 1); omega⟩
      · rw [runs_new z n (by
          by_cases h0 : n = 0
          · exact Or.inl h0
          · right
            rcases Decidable.em (z (n - 1) = 0) with k | k
            · exact k
            · exact absurd ⟨by omega, k⟩ c) h]
        rcases Nat.lt_or_ge i n with hl | hl
        · obtain ⟨x, hx, x1, x2⟩ := ih i hl hz
          exact ⟨x, by simp [hx], x1, x2⟩
        · exact ⟨(n, 1), by simp, hl, by show i < n + 1; exact hi⟩
theorem laid_or (ps : Nat → Pc) (k i : Nat) : (∃ q, q < k ∧ (ps q).at_ ≤ i ∧ (i : Int) < (ps q).at_ + (ps q).n ∧ laid ps k i = (ps q).z ((i : Int) - (ps q).at_).toNat) ∨ ((∀ q, q < k → ¬ ((ps q).at_ ≤ i ∧ (i : Int) < (ps q).at_ + (ps q).n)) ∧ laid ps k i = 0) := by
  induction k with
  | zero => exact Or.inr ⟨fun q hq => by omega, rfl⟩
  | succ k ih =>
    by_cases c : (ps k).at_ ≤ i ∧ (i : Int) < (ps k).at_ + (ps k).n
    · left
      exact ⟨k, by omega, c.1, c.2, by simp only [laid]; rw [if_pos c]⟩
    · have e : laid ps (k + 1) i = laid ps k i := by simp only [laid]; rw [if_neg c]
      rcases ih with ⟨q, hq, a, b, h⟩ | ⟨h1, h2⟩
      · exact Or.inl ⟨q, by omega, a, b, by rw [e, h]⟩
      · exact Or.inr ⟨fun q hq => by
          rcases Nat.lt_or_ge q k with h | h
          · exact h1 q h
          · rw [show q = k by omega]; exact c, by rw [e, h2]⟩
theorem laid_runs {w : World} {z : Nat → Int} {n : Nat} {ps : Nat → Pc} (h : PL w z (runs z n) ps) (i : Nat) (hi : i < n) : laid ps (runs z n).length i = z i := by
  rcases laid_or ps (runs z n).length i with ⟨q, hq, a, b, e⟩ | ⟨h1, h2⟩
  · obtain ⟨p1, p2, p3, _, _⟩ := h q hq
    rw [e, p3, p1]
    rw [p1] at a b
    show z _ = z i
    congr 1
    omega
  · rw [h2]
    rcases Decidable.em (z i = 0) with k | k
    · exact k.symm
    · exfalso
      obtain ⟨x, hx, x1, x2⟩ := runs_cover z n i hi k
      obtain ⟨q, hq, rfl⟩ := List.getElem_of_mem hx
      obtain ⟨p1, p2, _, _, _⟩ := h q hq
      have eg : (runs z n).getD q (0, 0) = (runs z n)[q] := by rw [List.getD_eq_getElem?_getD, List.getElem?_eq_getElem hq]; rfl
      rw [eg] at p1 p2
      exact h1 q hq ⟨by rw [p1]; omega, by rw [p1, p2]; omega⟩
theorem runs_good {w : World} {z : Nat → Int} {n : Nat} {ps : Nat → Pc} (h : PL w z (runs z n) ps) (i : Nat) (hi : i < (runs z n).length) : good (n : Int) (ps i) := by
  obtain ⟨p1, p2, _, _, _⟩ := h i hi
  have := runs_at z n i hi
  unfold good
  rw [p1, p2]
  omega
theorem prow_any {w : World} {B : Nat} {z : Nat → Int} {L : List (Nat × Nat)} {ps : Nat → Pc} {v : Value} (h : w.ownsRow B 25 2 v L.length (cellsP ps L.length)) (hP : PL w z L ps) : ∃ Ap cap, v = .slice Ap L.length cap ∧ PRow w Ap L.length ps := by
  rcases Nat.eq_zero_or_pos L.length with h0 | h0
  · rw [h0] at h ⊢
    rcases h.2 with ⟨e, _⟩ | ⟨g', cap, cur, he, _⟩
    · exact ⟨_, _, e, fun i hi => by omega⟩
    · exact ⟨_, _, he, fun i hi => by omega⟩
  · obtain ⟨g, cap, rfl, _⟩ := own_slice h h0
    exact ⟨_, _, rfl, prow_own h rfl hP⟩
theorem pieces_bad {w : World} (A : Option Addr) (n c : Nat) (hn : n ≤ maxLen) (hE : imgE n = 6) :
    Calls Try.prog 39 #[.slice A n c] w fun e w' => e = .returned (.tuple #[.slice none 0 0, .int .i64 6]) ∧ w = w' := by
  have HN := Lib.hid hn
  clear hn
  go_enter Try.func39, Try.ntmps39
  go_wp2_with fail
  refine wp_scope_first 0 (fun _ _ => False) (fun _ _ => 0) rfl (fun _ _ h => h.elim) ?_
  intro _
  go_wp2_with (go_at_call 44; refine (asV (check_any _ _ _ _ HN.out) (by rw [hE])).mono ?_; rintro e w' ⟨rfl, rfl⟩)

  simp only [Exit.jump]
  go_ret2
  exact ⟨rfl, rfl⟩
theorem imgE_or (n : Nat) : imgE n = 0 ∨ imgE n = 6 := by unfold imgE; split <;> simp
theorem imgE_pages {n : Nat} (h : imgE n = 0) : 0 < n ∧ n % 8192 = 0 ∧ n ≤ 1048576 := by
  unfold imgE at h
  split at h
  · assumption
  · cases h
end Go.Proofs.Ytfhndajhlpakoaa
