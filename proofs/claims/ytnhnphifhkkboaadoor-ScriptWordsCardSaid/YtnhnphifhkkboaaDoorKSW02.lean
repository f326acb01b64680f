/-
  Texts of these proofs, one behind the other: Scr0.
-/
import Derived.Lib.FieldsP
import Derived.Lib.DecodeN
namespace Go.Proofs.YtnhnphifhkkboaaDoor
open Go
set_option linter.unusedVariables false
set_option linter.unusedSimpArgs false
/-- Where a word begins, and the words that are over, when so many bytes are seen. -/
def wsS (s : ByteArray) : Nat → Nat × List (Nat × Nat)
  | 0 => (0, [])
  | k + 1 => if s.get! k = 32 then (k + 1, if (wsS s k).1 < k then (wsS s k).2 ++ [((wsS s k).1, k)] else (wsS s k).2) else wsS s k
def spW (s : ByteArray) : List (Nat × Nat) := if (wsS s s.size).1 < s.size then (wsS s s.size).2 ++ [((wsS s s.size).1, s.size)] else (wsS s s.size).2
def wordsB (s : ByteArray) : List ByteArray := (spW s).map fun x => s.extract x.1 x.2
theorem wsS_le (s : ByteArray) : ∀ k, (wsS s k).1 ≤ k
  | 0 => Nat.le_refl _
  | k + 1 => by
    have := wsS_le s k
    unfold wsS
    split
    · exact Nat.le_refl _
    · omega
theorem wsS_skip (s : ByteArray) (pos : Nat) : ∀ k, (∀ j, j < k → s.get! (pos + j) ≠ 32) → wsS s (pos + k) = wsS s pos
  | 0, _ => rfl
  | k + 1, h => by
    have h1 := wsS_skip s pos k (fun j hj => h j (by omega))
    show wsS s ((pos + k) + 1) = _
    rw [wsS, if_neg (h k (by omega)), h1]
theorem dec_ge (s : ByteArray) (i : Nat) (hi : i < s.size) (h : 128 ≤ (s.get! i).toNat) : ∃ r k, Utf8.decode s i = (r, k) ∧ r ≠ 32 ∧ 1 ≤ k ∧ i + k ≤ s.size ∧ ∀ j, j < k → s.get! (i + j) ≠ 32 := by
  rw [Lib.decode_at]
  have ne : ∀ j, 32 < (s.get! j).toNat → s.get! j ≠ 32 := fun j hj e => by rw [e] at hj; revert hj; decide
  have n0 := ne i (by omega)
  have key : ∀ r k, r ≠ 32 → k = 1 → ∃ r' k', (r, k) = (r', k') ∧ r' ≠ 32 ∧ 1 ≤ k' ∧ i + k' ≤ s.size ∧ ∀ j, j < k' → s.get! (i + j) ≠ 32 := fun r k hr hk => ⟨r, k, rfl, hr, by omega, by omega, fun j hj => by
    have : j = 0 := by omega
    subst this; exact n0⟩
  unfold Lib.decodeN
  rw [if_neg (by omega)]
  split
  · rename_i h2
    split
    · refine ⟨_, 2, rfl, by omega, by omega, by omega, fun j hj => ?_⟩
      rcases (by omega : j = 0 ∨ j = 1) with rfl | rfl
      · exact n0
      · exact ne _ (by omega)
    · exact key _ _ (by decide) rfl
  · split
    · rename_i h2
      split
      · refine ⟨_, 3, rfl, by omega, by omega, by omega, fun j hj => ?_⟩
        rcases (by omega : j = 0 ∨ j = 1 ∨ j = 2) with rfl | rfl | rfl
        · exact n0
        · exact ne _ (by omega)
        · exact ne _ (by omega)
      · exact key _ _ (by decide) rfl
    · split
      · rename_i h2
        split
        · refine ⟨_, 4, rfl, by omega, by omega, by omega, fun j hj => ?_⟩
          rcases (by omega : j = 0 ∨ j = 1 ∨ j = 2 ∨ j = 3) with rfl | rfl | rfl | rfl
          · exact n0
          · exact ne _ (by omega)
          · exact ne _ (by omega)
          · exact ne _ (by omega)
        · exact key _ _ (by decide) rfl
      · exact key _ _ (by decide) rfl
theorem dec_lt (s : ByteArray) (i : Nat) (h : (s.get! i).toNat < 128) : Utf8.decode s i = ((s.get! i).toNat, 1) := by
  rw [Lib.decode_at]; unfold Lib.decodeN; rw [if_pos h]
def stW (s : ByteArray) (k : Nat) : Option Nat := if (wsS s k).1 < k then some (wsS s k).1 else none
theorem spans_words (s : ByteArray) : ∀ (f pos : Nat), pos ≤ s.size → s.size ≤ pos + f →
    Lib.spansFromP (fun x => x == 32) s f pos (stW s pos) (wsS s pos).2 = ((wsS s s.size).2, stW s s.size)
  | 0, pos, h1, h2 => by
    have : pos = s.size := by omega
    subst this; rfl
  | f + 1, pos, h1, h2 => by
    unfold Lib.spansFromP
    split
    · rename_i hp
      by_cases hb : (s.get! pos).toNat < 128
      · rw [dec_lt s pos hb]
        have hle := wsS_le s pos
        by_cases h32 : (s.get! pos).toNat = 32
        · have e : s.get! pos = 32 := UInt8.toNat_inj.1 h32
          have hw : wsS s (pos + 1) = (pos + 1, if (wsS s pos).1 < pos then (wsS s pos).2 ++ [((wsS s pos).1, pos)] else (wsS s pos).2) := by rw [wsS, if_pos e]
          have hs : stW s (pos + 1) = none := by unfold stW; rw [hw]; simp
          have IH := spans_words s f (pos + 1) (by omega) (by omega)
          rw [hs, hw] at IH
          simp only [h32, beq_self_eq_true, if_true]
          unfold stW
          split
          · rename_i a hst
            split at hst
            · rename_i hlt
              injection hst with hst; subst hst
              rw [if_pos hlt] at IH
              exact IH
            · cases hst
          · rename_i hst
            split at hst
            · cases hst
            · rename_i hlt
              rw [if_neg hlt] at IH
              exact IH
        · have e : ¬ s.get! pos = 32 := fun e => h32 (by rw [e]; rfl)
          have hw : wsS s (pos + 1) = wsS s pos := by rw [wsS, if_neg e]
          have hs : stW s (pos + 1) = some (wsS s pos).1 := by unfold stW; rw [hw, if_pos (by omega)]
          have IH := spans_words s f (pos + 1) (by omega) (by omega)
          rw [hs, hw] at IH
          have e2 : (((s.get! pos).toNat : Nat) == 32) = false := by simp [h32]
          simp only [e2, Bool.false_eq_true, if_false]
          unfold stW
          split
          · rename_i a hst
            split at hst
            · injection hst with hst; subst hst; exact IH
            · cases hst
          · rename_i hst
            split at hst
            · cases hst
            · have : (wsS s pos).1 = pos := by omega
              rw [this] at IH
              exact IH
      · obtain ⟨r, k, hd, hr, hk, hsz, hne⟩ := dec_ge s pos hp (by omega)
        rw [hd]
        have hle := wsS_le s pos
        have hw : wsS s (pos + k) = wsS s pos := wsS_skip s pos k hne
        have hs : stW s (pos + k) = some (wsS s pos).1 := by unfold stW; rw [hw, if_pos (by omega)]
        have IH := spans_words s f (pos + k) (by omega) (by omega)
        rw [hs, hw] at IH
        have e2 : (r == 32) = false := by simp [hr]
        simp only [e2, Bool.false_eq_true, if_false]
        unfold stW
        split
        · rename_i a hst
          split at hst
          · injection hst with hst; subst hst; exact IH
          · cases hst
        · rename_i hst
          split at hst
          · cases hst
          · have : (wsS s pos).1 = pos := by omega
            rw [this] at IH
            exact IH
    · have : pos = s.size := by omega
      subst this; rfl
theorem goFields_words (s : ByteArray) : Lib.goFieldsP (fun x => x == 32) s = wordsB s := by
  unfold Lib.goFieldsP Lib.spansOfP wordsB spW
  have h := spans_words s s.size 0 (by omega) (by omega)
  have h0 : stW s 0 = none := rfl
  rw [h0] at h
  rw [show (wsS s 0).2 = [] from rfl] at h
  rw [h]
  unfold Lib.closeSpans stW
  by_cases hlt : (wsS s s.size).1 < s.size
  · simp only [if_pos hlt]
  · simp only [if_neg hlt]
theorem wsS_len (s : ByteArray) : ∀ k, (wsS s k).2.length ≤ k ∧ ((wsS s k).1 < k → (wsS s k).2.length < k)
  | 0 => ⟨Nat.le_refl _, fun h => absurd h (by omega)⟩
  | k + 1 => by
    have ih := wsS_len s k
    have hle := wsS_le s k
    unfold wsS
    split
    · dsimp only
      split
      · rename_i h1 h2
        have := ih.2 h2
        rw [List.length_append]; simp; omega
      · constructor <;> intros <;> omega
    · constructor
      · omega
      · intro h; omega
theorem spW_len (s : ByteArray) : (spW s).length ≤ s.size := by
  have := wsS_len s s.size
  unfold spW
  split
  · rename_i h
    have := this.2 h
    rw [List.length_append]; simp; omega
  · exact this.1
end Go.Proofs.YtnhnphifhkkboaaDoor
