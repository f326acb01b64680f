/-
  Edges and lines, plainly: how a line stands behind so many edges, how many go by up to a stamp, what rises, and the first edge that is wrong.
-/
import Derived.Test.YtjedlldmmnacbaaG19
namespace Go.Proofs.Ytjedlldmmnacbaa
open Go.RowKit
set_option linter.unusedVariables false
/-- Behind the first edges: is that line up? -/
def upTo (es : Nat → Iib) : Nat → Int → Bool
  | 0, _ => false
  | k + 1, l => if (es k).b = l then (es k).c else upTo es k l
def passF (es : Nat → Iib) (n : Nat) (t : Int) : Nat → Nat → Nat
  | 0, s => s
  | f + 1, s => if s < n ∧ (es s).a ≤ t then passF es n t f (s + 1) else s
/-- How many edges went by at a stamp, s of them having gone by ahead. -/
def pass (es : Nat → Iib) (n : Nat) (t : Int) (s : Nat) : Nat := passF es n t (n - s) s
section
variable {es : Nat → Iib} {n : Nat} {t : Int} {s : Nat}
theorem pass_stop (h : n ≤ s ∨ t < (es s).a) : pass es n t s = s := by
  unfold pass
  cases hn : n - s with
  | zero => rfl
  | succ f => simp only [passF]; rw [if_neg (by omega)]
theorem pass_step (h1 : s < n) (h2 : (es s).a ≤ t) : pass es n t s = pass es n t (s + 1) := by
  unfold pass
  rw [show n - s = (n - (s + 1)) + 1 by omega]
  simp only [passF]
  rw [if_pos ⟨h1, h2⟩]
theorem pass_run (k : Nat) (h : ∀ i, i < k → s + i < n ∧ (es (s + i)).a ≤ t) : pass es n t s = pass es n t (s + k) := by
  induction k with
  | zero => rfl
  | succ k ih =>
    rw [ih (fun i hi => h i (by omega)), pass_step (h k (by omega)).1 (h k (by omega)).2]
    rfl
theorem pass_ex (hs : s ≤ n) : ∃ k, pass es n t s = s + k ∧ s + k ≤ n ∧ (∀ i, i < k → (es (s + i)).a ≤ t) ∧ (s + k = n ∨ t < (es (s + k)).a) := by
  obtain ⟨d, hd⟩ : ∃ d, n - s = d := ⟨_, rfl⟩
  induction d generalizing s with
  | zero => exact ⟨0, pass_stop (.inl (by omega)), by omega, fun i hi => absurd hi (by omega), .inl (by omega)⟩
  | succ d ih =>
    by_cases h : (es s).a ≤ t
    · obtain ⟨k, h1, h2, h3, h4⟩ := ih (s := s + 1) (by omega) (by omega)
      refine ⟨k + 1, by rw [pass_step (by omega) h, h1]; omega, by omega, fun i hi => ?_, by rw [show s + (k + 1) = s + 1 + k by omega]; exact h4⟩
      rcases i with _ | i
      · exact h
      · rw [show s + (i + 1) = s + 1 + i by omega]; exact h3 i (by omega)
    · exact ⟨0, pass_stop (.inr (by omega)), by omega, fun i hi => absurd hi (by omega), .inr (by simp; omega)⟩
/-- Gone on from where one stamp led, it is as gone on to the later one of both. -/
theorem pass_two (u : Int) : pass es n u (pass es n t 0) = pass es n (if t < u then u else t) 0 := by
  obtain ⟨k, h1, h2, h3, h4⟩ := pass_ex (es := es) (n := n) (t := t) (s := 0) (Nat.zero_le _)
  rw [Nat.zero_add] at h1 h2 h4
  simp only [Nat.zero_add] at h3
  rw [h1]
  by_cases h : t < u
  · rw [if_pos h]
    have := pass_run (es := es) (n := n) (t := u) (s := 0) k (fun i hi => ⟨by omega, by have := h3 i hi; rw [Nat.zero_add]; omega⟩)
    rw [this, Nat.zero_add]
  · rw [if_neg h, h1]
    exact pass_stop (by omega)
end
/-- What rose, k more edges having gone by behind the first s. -/
def roseTo (es : Nat → Iib) (r : Bool) (s : Nat) : Nat → Bool
  | 0 => r
  | k + 1 => roseTo es r s k || ((es (s + k)).b == 1 && (es (s + k)).c && !upTo es (s + k) 1)
/-- What is wrong with an edge, those ahead of it being right. -/
def badE (es : Nat → Iib) (i : Nat) : Int := if 3 < (es i).b then 8 else if (es i).a < 0 ∨ 26388279066624 < (es i).a ∨ (0 < i ∧ (es i).a < (es (i - 1)).a) then 7 else 0
def prevE (es : Nat → Iib) (k : Nat) : Int := if k = 0 then 0 else (es (k - 1)).a
def wrongI (a b q : Int) : Int := if 4 ≤ b then 8 else if a < q ∨ 26388279066624 < a then 7 else 0
theorem wrong_bad (es : Nat → Iib) (k : Nat) (h : ∀ j, j < k → badE es j = 0) : wrongI (es k).a (es k).b (prevE es k) = badE es k := by
  unfold wrongI badE prevE
  by_cases h1 : 3 < (es k).b
  · rw [if_pos h1, if_pos (by omega)]
  · rw [if_neg h1, if_neg (by omega)]
    by_cases h0 : k = 0
    · subst h0
      rw [if_pos rfl]
      by_cases h2 : (es 0).a < 0 ∨ 26388279066624 < (es 0).a
      · rw [if_pos h2, if_pos (by omega)]
      · rw [if_neg h2, if_neg (by omega)]
    · rw [if_neg h0]
      have hp := h (k - 1) (by omega)
      unfold badE at hp
      have hp' : 0 ≤ (es (k - 1)).a := by
        by_cases q : (es (k - 1)).a < 0
        · by_cases r : 3 < (es (k - 1)).b
          · rw [if_pos r] at hp; omega
          · rw [if_neg r, if_pos (.inl q)] at hp; omega
        · omega
      by_cases h2 : (es k).a < (es (k - 1)).a ∨ 26388279066624 < (es k).a
      · rw [if_pos h2, if_pos (by omega)]
      · rw [if_neg h2, if_neg (by omega)]
theorem badE_cases (es : Nat → Iib) (i : Nat) : badE es i = 0 ∨ badE es i = 7 ∨ badE es i = 8 := by
  unfold badE
  split
  · omega
  · split <;> omega
def chkF (es : Nat → Iib) : Nat → Int × Int
  | 0 => (0, 0)
  | k + 1 => if (chkF es k).1 ≠ 0 then chkF es k else if badE es k ≠ 0 then (badE es k, (k : Int)) else (0, 0)
/-- The first edge that is wrong, and what is. -/
def chk (es : Nat → Iib) (n : Nat) : Int × Int := if 1000 < n then (2, 1000) else chkF es n
theorem chkF_ok {es : Nat → Iib} {k : Nat} (h : ∀ j, j < k → badE es j = 0) : chkF es k = (0, 0) := by
  induction k with
  | zero => rfl
  | succ k ih =>
    simp only [chkF]
    rw [ih (fun j hj => h j (by omega)), h k (by omega)]
    simp
theorem chkF_bad {es : Nat → Iib} {k n : Nat} (h : ∀ j, j < k → badE es j = 0) (hb : badE es k ≠ 0) (hk : k < n) : chkF es n = (badE es k, (k : Int)) := by
  induction n with
  | zero => omega
  | succ n ih =>
    simp only [chkF]
    by_cases e : k = n
    · subst e
      rw [chkF_ok h, if_neg (by simp), if_pos hb]
    · rw [ih (by omega), if_pos hb]
theorem chkF_zero {es : Nat → Iib} {n : Nat} (h : (chkF es n).1 = 0) : ∀ j, j < n → badE es j = 0 := by
  induction n with
  | zero => intro j hj; omega
  | succ n ih =>
    simp only [chkF] at h
    by_cases e : (chkF es n).1 = 0
    · rw [if_neg (by simpa using e)] at h
      intro j hj
      by_cases ej : j = n
      · subst ej
        by_cases hb : badE es j = 0
        · exact hb
        · rw [if_pos hb] at h; exact absurd h hb
      · exact ih e j (by omega)
    · rw [if_pos e] at h; exact absurd h e
theorem chk_zero {es : Nat → Iib} {n : Nat} (h : (chk es n).1 = 0) : n ≤ 1000 ∧ (∀ j, j < n → badE es j = 0) ∧ chk es n = (0, 0) := by
  unfold chk at h ⊢
  by_cases e : 1000 < n
  · rw [if_pos e] at h; exact absurd h (by decide)
  · rw [if_neg e] at h ⊢
    exact ⟨by omega, chkF_zero h, chkF_ok (chkF_zero h)⟩
theorem bad_zero {es : Nat → Iib} {i : Nat} (h : badE es i = 0) : (es i).b ≤ 3 ∧ 0 ≤ (es i).a ∧ (es i).a ≤ 26388279066624 := by
  unfold badE at h
  by_cases h1 : 3 < (es i).b
  · rw [if_pos h1] at h; omega
  · rw [if_neg h1] at h
    by_cases h2 : (es i).a < 0 ∨ 26388279066624 < (es i).a ∨ (0 < i ∧ (es i).a < (es (i - 1)).a)
    · rw [if_pos h2] at h; omega
    · omega
end Go.Proofs.Ytjedlldmmnacbaa
