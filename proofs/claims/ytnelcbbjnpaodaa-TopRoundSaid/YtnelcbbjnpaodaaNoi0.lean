/-
  Plain facts: 18 bits that go round; what is linear; many steps.
-/
import Derived.Test.YtnelcbbjnpaodaaG4
namespace Go.Proofs.Ytnelcbbjnpaodaa
set_option linter.unusedVariables false
/-- The state behind a state, and the one ahead. -/
def nxP (s : Nat) : Nat := (s / 2 ^ 0 % 2 + s / 2 ^ 1 % 2 + s / 2 ^ 11 % 2 + s / 2 ^ 12 % 2 + s / 2 ^ 17 % 2) % 2
def nx (s : Nat) : Nat := 2 ^ 17 * nxP s + s / 2
def bkP (s : Nat) : Nat := (s / 2 ^ 0 % 2 + s / 2 ^ 10 % 2 + s / 2 ^ 11 % 2 + s / 2 ^ 16 % 2 + s / 2 ^ 17 % 2) % 2
def bk (s : Nat) : Nat := 2 ^ 1 * (s % 2 ^ 17) + bkP s
theorem tb (s i : Nat) : s.testBit i = decide (s / 2 ^ i % 2 = 1) := Nat.testBit_eq_decide_div_mod_eq
theorem par5 (a b c d e : Nat) : decide ((a % 2 + b % 2 + c % 2 + d % 2 + e % 2) % 2 % 2 = 1) = ((((decide (a % 2 = 1)).xor (decide (b % 2 = 1))).xor (decide (c % 2 = 1))).xor (decide (d % 2 = 1))).xor (decide (e % 2 = 1)) := by
  rcases Nat.mod_two_eq_zero_or_one a with h1 | h1 <;> rcases Nat.mod_two_eq_zero_or_one b with h2 | h2 <;> rcases Nat.mod_two_eq_zero_or_one c with h3 | h3 <;> rcases Nat.mod_two_eq_zero_or_one d with h4 | h4 <;> rcases Nat.mod_two_eq_zero_or_one e with h5 | h5 <;> rw [h1, h2, h3, h4, h5] <;> decide
theorem lowBit (p i : Nat) (h : p < 2) (hi : i ≠ 0) : p.testBit i = false := Nat.testBit_lt_two_pow (Nat.lt_of_lt_of_le (show p < 2 ^ 1 from h) (Nat.pow_le_pow_right (by omega) (by omega : 1 ≤ i)))
theorem nx_bit (s : Nat) (hs : s < 2 ^ 18) (i : Nat) : (nx s).testBit i = if i < 17 then s.testBit (i + 1) else if i = 17 then (((s.testBit 0).xor (s.testBit 1)).xor (s.testBit 11)).xor (s.testBit 12) |>.xor (s.testBit 17) else false := by
  have h1 : s / 2 < 2 ^ 17 := by omega
  unfold nx
  rw [Nat.testBit_two_pow_mul_add _ h1]
  by_cases h : i < 17
  · rw [if_pos h, if_pos h, Nat.testBit_succ]
  · rw [if_neg h, if_neg h]
    by_cases h17 : i = 17
    · rw [if_pos h17, h17, Nat.sub_self]
      simp only [tb]
      unfold nxP
      rw [Nat.pow_zero, Nat.div_one ((_ : Nat) % 2)]
      exact par5 _ _ _ _ _
    · rw [if_neg h17]
      exact lowBit _ _ (Nat.mod_lt _ (by omega)) (by omega)
theorem bk_bit (s : Nat) (hs : s < 2 ^ 18) (i : Nat) : (bk s).testBit i = if i = 0 then ((((s.testBit 0).xor (s.testBit 10)).xor (s.testBit 11)).xor (s.testBit 16)).xor (s.testBit 17) else if i < 18 then s.testBit (i - 1) else false := by
  have h1 : bkP s < 2 ^ 1 := Nat.mod_lt _ (by omega)
  unfold bk
  rw [Nat.testBit_two_pow_mul_add _ h1]
  by_cases h : i = 0
  · rw [if_pos h, if_pos (by omega), h]
    simp only [tb]
    unfold bkP
    rw [Nat.pow_zero, Nat.div_one ((_ : Nat) % 2)]
    exact par5 _ _ _ _ _
  · rw [if_neg h, if_neg (by omega), Nat.testBit_mod_two_pow]
    by_cases h18 : i < 18
    · rw [if_pos h18, decide_eq_true (by omega : i - 1 < 17), Bool.true_and]
    · rw [if_neg h18, decide_eq_false (by omega : ¬ i - 1 < 17), Bool.false_and]
theorem nx_lt (s : Nat) (hs : s < 2 ^ 18) : nx s < 2 ^ 18 := by
  have : nxP s < 2 := Nat.mod_lt _ (by omega)
  unfold nx
  omega
theorem bk_lt (s : Nat) : bk s < 2 ^ 18 := by
  have : bkP s < 2 := Nat.mod_lt _ (by omega)
  unfold bk
  omega
theorem high18 {s : Nat} (hs : s < 2 ^ 18) {i : Nat} (hi : ¬ i < 18) : s.testBit i = false := Nat.testBit_lt_two_pow (Nat.lt_of_lt_of_le hs (Nat.pow_le_pow_right (by omega) (by omega)))
theorem bk_nx (s : Nat) (hs : s < 2 ^ 18) : bk (nx s) = s := by
  apply Nat.eq_of_testBit_eq
  intro i
  rw [bk_bit _ (nx_lt s hs)]
  by_cases h : i = 0
  · subst h
    rw [if_pos rfl]
    rw [show (nx s).testBit 0 = s.testBit 1 from nx_bit s hs 0, show (nx s).testBit 10 = s.testBit 11 from nx_bit s hs 10, show (nx s).testBit 11 = s.testBit 12 from nx_bit s hs 11, show (nx s).testBit 16 = s.testBit 17 from nx_bit s hs 16, show (nx s).testBit 17 = _ from nx_bit s hs 17, if_neg (by omega), if_pos rfl]
    cases s.testBit 0 <;> cases s.testBit 1 <;> cases s.testBit 11 <;> cases s.testBit 12 <;> cases s.testBit 17 <;> rfl
  · rw [if_neg h]
    by_cases h18 : i < 18
    · rw [if_pos h18, nx_bit s hs, if_pos (by omega), Nat.sub_add_cancel (by omega)]
    · rw [if_neg h18, high18 hs h18]
theorem nx_bk (s : Nat) (hs : s < 2 ^ 18) : nx (bk s) = s := by
  apply Nat.eq_of_testBit_eq
  intro i
  rw [nx_bit _ (bk_lt s)]
  by_cases h : i < 17
  · rw [if_pos h, bk_bit s hs, if_neg (by omega), if_pos (by omega), Nat.add_sub_cancel]
  · rw [if_neg h]
    by_cases h17 : i = 17
    · subst h17
      rw [if_pos rfl]
      rw [show (bk s).testBit 0 = _ from bk_bit s hs 0, if_pos rfl, show (bk s).testBit 1 = s.testBit 0 from bk_bit s hs 1, show (bk s).testBit 11 = s.testBit 10 from bk_bit s hs 11, show (bk s).testBit 12 = s.testBit 11 from bk_bit s hs 12, show (bk s).testBit 17 = s.testBit 16 from bk_bit s hs 17]
      cases s.testBit 0 <;> cases s.testBit 10 <;> cases s.testBit 11 <;> cases s.testBit 16 <;> cases s.testBit 17 <;> rfl
    · rw [if_neg h17, high18 hs (by omega)]
theorem xor_lt18 {a b : Nat} (ha : a < 2 ^ 18) (hb : b < 2 ^ 18) : a ^^^ b < 2 ^ 18 := Nat.xor_lt_two_pow ha hb
/-- What is linear, over 18 bits. -/
structure Lin (F : Nat → Nat) : Prop where
  lt : ∀ s, s < 2 ^ 18 → F s < 2 ^ 18
  zero : F 0 = 0
  xor : ∀ a b, a < 2 ^ 18 → b < 2 ^ 18 → F (a ^^^ b) = F a ^^^ F b
theorem nx_lin : Lin nx := by
  refine ⟨nx_lt, by decide, fun a b ha hb => ?_⟩
  apply Nat.eq_of_testBit_eq
  intro i
  rw [Nat.testBit_xor, nx_bit _ (xor_lt18 ha hb), nx_bit a ha, nx_bit b hb]
  simp only [Nat.testBit_xor]
  split
  · rfl
  split
  · cases a.testBit 0 <;> cases a.testBit 1 <;> cases a.testBit 11 <;> cases a.testBit 12 <;> cases a.testBit 17 <;> cases b.testBit 0 <;> cases b.testBit 1 <;> cases b.testBit 11 <;> cases b.testBit 12 <;> cases b.testBit 17 <;> rfl
  · rfl
theorem bk_lin : Lin bk := by
  refine ⟨fun s _ => bk_lt s, by decide, fun a b ha hb => ?_⟩
  apply Nat.eq_of_testBit_eq
  intro i
  rw [Nat.testBit_xor, bk_bit _ (xor_lt18 ha hb), bk_bit a ha, bk_bit b hb]
  simp only [Nat.testBit_xor]
  split
  · cases a.testBit 0 <;> cases a.testBit 10 <;> cases a.testBit 11 <;> cases a.testBit 16 <;> cases a.testBit 17 <;> cases b.testBit 0 <;> cases b.testBit 10 <;> cases b.testBit 11 <;> cases b.testBit 16 <;> cases b.testBit 17 <;> rfl
  split
  · rfl
  · rfl
/-- So many steps. -/
def it (F : Nat → Nat) : Nat → Nat → Nat
  | 0, s => s
  | n + 1, s => F (it F n s)
theorem it_add (F : Nat → Nat) (a b s : Nat) : it F (a + b) s = it F b (it F a s) := by
  induction b with
  | zero => rfl
  | succ b ih => rw [← Nat.add_assoc]; show F (it F (a + b) s) = F _; rw [ih]
theorem it_lt {F : Nat → Nat} (h : Lin F) (n : Nat) {s : Nat} (hs : s < 2 ^ 18) : it F n s < 2 ^ 18 := by
  induction n with
  | zero => exact hs
  | succ n ih => exact h.lt _ ih
theorem it_lin {F : Nat → Nat} (h : Lin F) (n : Nat) : Lin (it F n) := by
  refine ⟨fun s hs => it_lt h n hs, ?_, fun a b ha hb => ?_⟩
  · induction n with
    | zero => rfl
    | succ n ih => show F _ = 0; rw [ih, h.zero]
  · induction n with
    | zero => rfl
    | succ n ih => show F _ = F _ ^^^ F _; rw [ih, h.xor _ _ (it_lt h n ha) (it_lt h n hb)]
/-- Back as often. -/
theorem it_back (n : Nat) {s : Nat} (hs : s < 2 ^ 18) : it bk n (it nx n s) = s := by
  induction n generalizing s with
  | zero => rfl
  | succ n ih =>
    rw [Nat.add_comm n 1, it_add, it_add, show it nx 1 s = nx s from rfl]
    have e := ih (nx_lt s hs)
    have : it bk 1 (it bk n (it nx n (nx s))) = s := by rw [e]; exact bk_nx s hs
    rwa [← it_add, Nat.add_comm n 1, it_add] at this
theorem it_on (n : Nat) {s : Nat} (hs : s < 2 ^ 18) : it nx n (it bk n s) = s := by
  induction n generalizing s with
  | zero => rfl
  | succ n ih =>
    rw [Nat.add_comm n 1, it_add, it_add, show it bk 1 s = bk s from rfl]
    have e := ih (bk_lt s)
    have : it nx 1 (it nx n (it bk n (bk s))) = s := by rw [e]; exact nx_bk s hs
    rwa [← it_add, Nat.add_comm n 1, it_add] at this
/-- So many steps on, or back. -/
def jmp (n : Int) (s : Nat) : Nat := if 0 ≤ n then it nx n.toNat s else it bk (-n).toNat s
theorem jmp_lt (n : Int) {s : Nat} (hs : s < 2 ^ 18) : jmp n s < 2 ^ 18 := by
  unfold jmp
  split
  · exact it_lt nx_lin _ hs
  · exact it_lt bk_lin _ hs
theorem jmp_lin (n : Int) : Lin (jmp n) := by
  unfold jmp
  split
  · exact it_lin nx_lin _
  · exact it_lin bk_lin _
theorem jmp_add (a b : Int) {s : Nat} (hs : s < 2 ^ 18) : jmp (a + b) s = jmp b (jmp a s) := by
  unfold jmp
  by_cases ha : 0 ≤ a
  · by_cases hb : 0 ≤ b
    · rw [if_pos ha, if_pos hb, if_pos (by omega), show (a + b).toNat = a.toNat + b.toNat by omega, it_add]
    · rw [if_pos ha, if_neg hb]
      by_cases hab : 0 ≤ a + b
      · rw [if_pos hab, show a.toNat = (a + b).toNat + (-b).toNat by omega, it_add, it_back _ (it_lt nx_lin _ hs)]
      · rw [if_neg hab, show (-b).toNat = a.toNat + (-(a + b)).toNat by omega, it_add, it_back _ hs]
  · by_cases hb : 0 ≤ b
    · rw [if_neg ha, if_pos hb]
      by_cases hab : 0 ≤ a + b
      · rw [if_pos hab, show b.toNat = (-a).toNat + (a + b).toNat by omega, it_add, it_on _ hs]
      · rw [if_neg hab, show (-a).toNat = (-(a + b)).toNat + b.toNat by omega, it_add, it_on _ (it_lt bk_lin _ hs)]
    · rw [if_neg ha, if_neg hb, if_neg (by omega), show (-(a + b)).toNat = (-a).toNat + (-b).toNat by omega, it_add]
/-- What the bits below k lead to, each by itself. -/
def ldTo (F : Nat → Nat) (s : Nat) : Nat → Nat
  | 0 => 0
  | k + 1 => ldTo F s k ^^^ (F (2 ^ k) * (s / 2 ^ k % 2))
theorem mod_succ_xor (s k : Nat) : s % 2 ^ (k + 1) = (s % 2 ^ k) ^^^ (2 ^ k * (s / 2 ^ k % 2)) := by
  apply Nat.eq_of_testBit_eq
  intro i
  rw [Nat.testBit_xor, Nat.testBit_mod_two_pow, Nat.testBit_mod_two_pow]
  have e := Nat.testBit_two_pow_mul_add (i := k) (b := 0) (s / 2 ^ k % 2) (Nat.two_pow_pos k) i
  rw [Nat.add_zero] at e
  rw [e]
  by_cases h : i < k
  · rw [if_pos h, decide_eq_true h, decide_eq_true (by omega : i < k + 1)]; simp
  · rw [if_neg h, decide_eq_false h, Bool.false_and, Bool.false_xor]
    by_cases hk : i = k
    · subst hk
      rw [Nat.sub_self, decide_eq_true (by omega), Bool.true_and, tb, tb, Nat.pow_zero, Nat.div_one, Nat.mod_mod]
    · rw [decide_eq_false (by omega), Bool.false_and, lowBit _ _ (Nat.mod_lt _ (by omega)) (by omega)]
theorem ldTo_eq {F : Nat → Nat} (h : Lin F) (s k : Nat) (hk : k ≤ 18) : ldTo F s k = F (s % 2 ^ k) := by
  induction k with
  | zero => rw [Nat.pow_zero, Nat.mod_one, h.zero]; rfl
  | succ k ih =>
    have hp : 2 ^ k < 2 ^ 18 := Nat.pow_lt_pow_right (by omega) (by omega)
    have h1 : s % 2 ^ k < 2 ^ 18 := Nat.lt_trans (Nat.mod_lt _ (Nat.two_pow_pos k)) hp
    have h2 : 2 ^ k * (s / 2 ^ k % 2) < 2 ^ 18 := by
      rcases Nat.mod_two_eq_zero_or_one (s / 2 ^ k) with e | e <;> rw [e]
      · rw [Nat.mul_zero]; exact Nat.two_pow_pos 18
      · rw [Nat.mul_one]; exact hp
    show ldTo F s k ^^^ _ = _
    rw [ih (by omega), mod_succ_xor, h.xor _ _ h1 h2]
    congr 1
    rcases Nat.mod_two_eq_zero_or_one (s / 2 ^ k) with e | e <;> rw [e]
    · rw [Nat.mul_zero, Nat.mul_zero, h.zero]
    · rw [Nat.mul_one, Nat.mul_one]
theorem ldTo_lt {F : Nat → Nat} (h : Lin F) (s k : Nat) (hk : k ≤ 18) : ldTo F s k < 2 ^ 18 := by
  rw [ldTo_eq h s k hk]
  exact h.lt _ (Nat.lt_of_lt_of_le (Nat.mod_lt s (Nat.two_pow_pos k)) (Nat.pow_le_pow_right (by omega) hk))
theorem ldTo_all {F : Nat → Nat} (h : Lin F) {s : Nat} (hs : s < 2 ^ 18) : ldTo F s 18 = F s := by
  rw [ldTo_eq h s 18 (Nat.le_refl _), Nat.mod_eq_of_lt hs]
theorem lin_comp {F : Nat → Nat} (h : Lin F) : Lin (fun s => F (F s)) :=
  ⟨fun s hs => h.lt _ (h.lt _ hs), by show F (F 0) = 0; rw [h.zero, h.zero], fun a b ha hb => by show F (F _) = _; rw [h.xor _ _ ha hb, h.xor _ _ (h.lt _ ha) (h.lt _ hb)]⟩
theorem lin_of (F : Nat → Nat) (e s : Nat) : it F e (it F e s) = it F (2 * e) s := by rw [Nat.two_mul, it_add]
end Go.Proofs.Ytnelcbbjnpaodaa
