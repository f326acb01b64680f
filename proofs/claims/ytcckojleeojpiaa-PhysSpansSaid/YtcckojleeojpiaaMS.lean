/-
  Plain facts on the rows of a kind of address.
-/
import Derived.Test.YtcckojleeojpiaaPhys6
namespace Go.Proofs.Ytcckojleeojpiaa
open Go.RowKit
set_option linter.unusedVariables false
def rowAt (x : Int) (k : Nat) : Int × Int := (spanTo x 11).getD k (0, 0)
def inTo (x y : Int) (k : Nat) : Bool := ((spanTo x 11).take k).any fun p => decide (p.1 ≤ y) && decide (y < p.1 + p.2)
theorem kindN_none (x : Int) (h : 8 < x) (k : Nat) : spanTo x k = [] := by
  induction k with
  | zero => rfl
  | succ k ih =>
    have := kindN_bd k
    rw [spanTo_no x k (by omega), ih]
def rowOk (x : Int) (k : Nat) : Bool :=
  let p := rowAt x k
  decide (1 ≤ p.2) && decide (0 ≤ p.1) && decide (p.1 + p.2 ≤ 2097152) && (whereI p.1 == x) && (whereI (p.1 + p.2 - 1) == x) && (decide (p.1 ≤ 0) || !(whereI (p.1 - 1) == x)) && (decide (2097152 ≤ p.1 + p.2) || !(whereI (p.1 + p.2) == x)) &&
    (k == 0 || decide ((rowAt x (k - 1)).1 + (rowAt x (k - 1)).2 < p.1))
theorem rows_ok : ∀ x : Fin 9, ∀ k : Fin 11, k.val < (spanTo (x.val : Int) 11).length → rowOk x.val k.val = true := by decide +kernel
theorem row_ok (x : Int) (x0 : 0 ≤ x) (k : Nat) (hk : k < (spanTo x 11).length) :
    1 ≤ (rowAt x k).2 ∧ 0 ≤ (rowAt x k).1 ∧ (rowAt x k).1 + (rowAt x k).2 ≤ 2097152 ∧ whereI (rowAt x k).1 = x ∧ whereI ((rowAt x k).1 + (rowAt x k).2 - 1) = x ∧ (0 < (rowAt x k).1 → (whereI ((rowAt x k).1 - 1) == x) = false) ∧
      ((rowAt x k).1 + (rowAt x k).2 < 2097152 → (whereI ((rowAt x k).1 + (rowAt x k).2) == x) = false) ∧ (0 < k → (rowAt x (k - 1)).1 + (rowAt x (k - 1)).2 < (rowAt x k).1) := by
  by_cases h : 8 < x
  · rw [kindN_none x h 11] at hk; exact absurd hk (by simp)
  · obtain ⟨n, rfl⟩ := Int.eq_ofNat_of_zero_le x0
    have hl := spanTo_len (n : Int) 11
    have := rows_ok ⟨n, by omega⟩ ⟨k, by omega⟩ hk
    unfold rowOk at this
    simp only [Bool.and_eq_true, Bool.or_eq_true, decide_eq_true_eq, beq_iff_eq, Bool.not_eq_true'] at this
    obtain ⟨⟨⟨⟨⟨⟨⟨h1, h2⟩, h3⟩, h4⟩, h5⟩, h6⟩, h7⟩, h8⟩ := this
    exact ⟨h1, h2, h3, h4, h5, fun h => h6.resolve_left (by omega), fun h => h7.resolve_left (by omega), fun h => h8.resolve_left (by omega)⟩
theorem inTo_succ (x y : Int) (k : Nat) (hk : k < (spanTo x 11).length) : inTo x y (k + 1) = (inTo x y k || (decide ((rowAt x k).1 ≤ y) && decide (y < (rowAt x k).1 + (rowAt x k).2))) := by
  unfold inTo rowAt
  rw [List.take_succ_eq_append_getElem hk, List.any_append, List.getD_eq_getElem?_getD, List.getElem?_eq_getElem hk]
  simp
theorem span_any_iff (x y : Int) (j : Nat) (hj : j ≤ 11) : ((spanTo x j).any fun p => decide (p.1 ≤ y) && decide (y < p.1 + p.2)) = true ↔ ∃ k, k < j ∧ kindN k = x ∧ fromN k ≤ y ∧ y < fromN (k + 1) := by
  induction j with
  | zero => simp [spanTo]
  | succ j ih =>
    have fb := fromN_bd j (by omega)
    by_cases e : kindN j = x
    · rw [spanTo_yes x j e, List.any_append, Bool.or_eq_true, ih (by omega)]
      constructor
      · rintro (⟨k, a, b⟩ | h)
        · exact ⟨k, by omega, b⟩
        · simp at h; exact ⟨j, by omega, e, h.1, by omega⟩
      · rintro ⟨k, a, b, c, d⟩
        by_cases ek : k = j
        · subst ek; right; simp; omega
        · left; exact ⟨k, by omega, b, c, d⟩
    · rw [spanTo_no x j e, ih (by omega)]
      constructor
      · rintro ⟨k, a, b⟩; exact ⟨k, by omega, b⟩
      · rintro ⟨k, a, b, c⟩
        exact ⟨k, by
          rcases Nat.lt_or_ge k j with h | h
          · exact h
          · have : k = j := by omega
            subst this; exact absurd b e, b, c⟩
theorem in_all (x a : Int) : inTo x (a % 2097152) (spanTo x 11).length = (whereI a == x) := by
  unfold inTo
  rw [List.take_length, Bool.eq_iff_iff, span_any_iff x _ 11 (Nat.le_refl _), beq_iff_eq]
  have y0 : 0 ≤ a % 2097152 := by omega
  have y1 : a % 2097152 < 2097152 := by omega
  unfold whereI
  generalize a % 2097152 = y at *
  have pl := partAt_lt y
  have pi := partAt_in y y0 y1
  constructor
  · rintro ⟨k, a, b, c, d⟩
    have h1 := (partAt_iff y y0 y1 k a).1 c
    have h2 : ¬ k + 1 ≤ partAt y := by
      intro h
      have := fromN_mono (k + 1) (partAt y) h (by omega)
      omega
    rw [show partAt y = k by omega]; exact b
  · intro h; exact ⟨partAt y, pl, h, pi⟩
theorem rowC_at (L : List (Int × Int)) (k : Nat) (hk : k < L.length) : (rowC L)[k * 2]? = some (.int .u32 (L.getD k (0, 0)).1) ∧ (rowC L)[k * 2 + 1]? = some (.int .u32 (L.getD k (0, 0)).2) := by
  induction L generalizing k with
  | nil => exact absurd hk (by simp)
  | cons p L ih =>
    cases k with
    | zero => simp [rowC]
    | succ k =>
      have := ih k (by simpa using hk)
      simp only [rowC, List.flatMap_cons] at this ⊢
      rw [show (k + 1) * 2 = k * 2 + 2 by omega, show k * 2 + 2 + 1 = (k * 2 + 1) + 2 by omega]
      simpa using this
end Go.Proofs.Ytcckojleeojpiaa
