/-
  Plain facts: clocks counted down from step to step; noise that goes on.
-/
import Derived.Test.YtnelcbbjnpaodaaNoi0
namespace Go.Proofs.Ytnelcbbjnpaodaa
set_option linter.unusedVariables false
/-- How many steps come in N clocks, L being left and p each time; how many are left then. -/
def dnS (N L p : Nat) : Nat := if N < L then 0 else 1 + (N - L) / p
def dnL (N L p : Nat) : Nat := if N < L then L - N else p - (N - L) % p
theorem dnS_le {N L p : Nat} (hL : 0 < L) : dnS N L p ≤ N := by
  unfold dnS
  split
  · omega
  · have := Nat.div_le_self (N - L) p; omega
theorem dnL_pos {N L p : Nat} (hL : 0 < L) (hp : 0 < p) : 0 < dnL N L p := by
  unfold dnL
  split
  · omega
  · have := Nat.mod_lt (N - L) hp; omega
theorem dnL_le {N L p m : Nat} (hL : L ≤ m) (hp : p ≤ m) : dnL N L p ≤ m := by
  unfold dnL
  split <;> omega
theorem dn_lt {N L p : Nat} (h : N < L) : dnS N L p = 0 ∧ dnL N L p = L - N := by unfold dnS dnL; rw [if_pos h, if_pos h]; exact ⟨rfl, rfl⟩
/-- One step. -/
theorem dn_step {N L p : Nat} (h : L ≤ N) (hp : 0 < p) : dnS N L p = 1 + dnS (N - L) p p ∧ dnL N L p = dnL (N - L) p p := by
  unfold dnS dnL
  rw [if_neg (show ¬ N < L by omega), if_neg (show ¬ N < L by omega)]
  by_cases h2 : N - L < p
  · rw [if_pos h2, if_pos h2, Nat.div_eq_of_lt h2, Nat.mod_eq_of_lt h2]; exact ⟨rfl, rfl⟩
  · rw [if_neg h2, if_neg h2]
    have e : N - L = (N - L - p) + p := by omega
    constructor
    · conv => lhs; rw [e]
      rw [Nat.add_div_right _ hp]; omega
    · conv => lhs; rw [e]
      rw [Nat.add_mod_right]
/-- In parts it is as at once. -/
theorem dn_add (p : Nat) (hp : 0 < p) (a b L : Nat) (hL : 0 < L) : dnS (a + b) L p = dnS a L p + dnS b (dnL a L p) p ∧ dnL (a + b) L p = dnL b (dnL a L p) p := by
  induction a using Nat.strongRecOn generalizing L with
  | _ a ih =>
    by_cases h : a < L
    · obtain ⟨e1, e2⟩ := dn_lt (p := p) h
      rw [e1, e2]
      unfold dnS dnL
      by_cases h2 : a + b < L
      · rw [if_pos h2, if_pos (by omega), if_pos h2, if_pos (by omega)]; omega
      · rw [if_neg h2, if_neg (by omega), if_neg h2, if_neg (by omega), show a + b - L = b - (L - a) by omega, Nat.zero_add]; exact ⟨rfl, rfl⟩
    · obtain ⟨e1, e2⟩ := dn_step (p := p) (by omega : L ≤ a) hp
      obtain ⟨f1, f2⟩ := dn_step (p := p) (by omega : L ≤ a + b) hp
      obtain ⟨i1, i2⟩ := ih (a - L) (by omega) p hp
      rw [e1, e2, f1, f2, show a + b - L = a - L + b by omega, i1, i2]
      omega
/-- How many clocks a step takes. -/
def perN (fr : Int) : Nat := if fr % 32 = 31 then 32 else (64 * (31 - fr % 32)).toNat
theorem perN_bd (fr : Int) : 0 < perN fr ∧ perN fr ≤ 1984 := by unfold perN; split <;> omega
structure Nz where
  st : Nat
  left : Nat
  fr : Int
def Nz.ok (x : Nz) : Prop := (0 < x.st ∧ x.st < 2 ^ 18) ∧ (0 < x.left ∧ x.left ≤ 1984) ∧ 0 ≤ x.fr ∧ x.fr ≤ 255
def Nz.new (fr : Int) : Nz := ⟨1, perN fr, fr⟩
theorem Nz.new_ok {fr : Int} (h : 0 ≤ fr) (h' : fr ≤ 255) : (Nz.new fr).ok := ⟨⟨by show 0 < 1; decide, by show 1 < 2 ^ 18; decide⟩, perN_bd fr, h, h'⟩
def Nz.go (x : Nz) (N : Nat) : Nz := ⟨it nx (dnS N x.left (perN x.fr)) x.st, dnL N x.left (perN x.fr), x.fr⟩
def Nz.set (x : Nz) (fr : Int) : Nz := ⟨x.st, x.left, fr⟩
theorem Nz.set_ok {x : Nz} (h : x.ok) {fr : Int} (h0 : 0 ≤ fr) (h1 : fr ≤ 255) : (x.set fr).ok := ⟨h.1, h.2.1, h0, h1⟩
theorem it_pos {s : Nat} (hs : s < 2 ^ 18) (h0 : 0 < s) (n : Nat) : 0 < it nx n s := by
  rcases Nat.eq_zero_or_pos (it nx n s) with e | e
  · have := it_back n hs
    rw [e, (it_lin bk_lin n).zero] at this
    omega
  · exact e
theorem Nz.go_ok {x : Nz} (h : x.ok) (N : Nat) : (x.go N).ok := by
  obtain ⟨⟨a0, a1⟩, ⟨b0, b1⟩, c⟩ := h
  exact ⟨⟨it_pos a1 a0 _, it_lt nx_lin _ a1⟩, ⟨dnL_pos b0 (perN_bd _).1, dnL_le b1 (perN_bd _).2⟩, c⟩
theorem Nz.go_zero {x : Nz} (h : x.ok) : x.go 0 = x := by
  obtain ⟨e1, e2⟩ := dn_lt (p := perN x.fr) h.2.1.1
  unfold Nz.go
  rw [e1, e2]; rfl
theorem Nz.go_lt {x : Nz} {N : Nat} (h : N < x.left) : x.go N = ⟨x.st, x.left - N, x.fr⟩ := by
  obtain ⟨e1, e2⟩ := dn_lt (p := perN x.fr) h
  unfold Nz.go
  rw [e1, e2]; rfl
theorem Nz.go_step {x : Nz} {N : Nat} (h : x.left ≤ N) : x.go N = Nz.go ⟨nx x.st, perN x.fr, x.fr⟩ (N - x.left) := by
  obtain ⟨e1, e2⟩ := dn_step (p := perN x.fr) h (perN_bd _).1
  unfold Nz.go
  rw [e1, e2, it_add]; rfl
theorem Nz.go_add {x : Nz} (h : x.ok) (a b : Nat) : x.go (a + b) = (x.go a).go b := by
  obtain ⟨e1, e2⟩ := dn_add (perN x.fr) (perN_bd _).1 a b x.left h.2.1.1
  unfold Nz.go
  dsimp only
  rw [e1, e2, it_add]
end Go.Proofs.Ytnelcbbjnpaodaa
