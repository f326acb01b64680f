/-
  Plain facts: seven bits that are counted down, tick by tick.
-/
import Derived.Test.YtbdmpgpdnnjmpaaG4
namespace Go.Proofs.Ytbdmpgpdnnjmpaa
set_option linter.unusedVariables false
/-- What is counted behind a tick. -/
def tkS (r c : Nat) : Nat := if c = 0 then r else c - 1
/-- What is counted behind n ticks, and how often it was over. -/
def tkC (r : Nat) : Nat → Nat → Nat
  | 0, c => c
  | n + 1, c => tkC r n (tkS r c)
def tkO (r : Nat) : Nat → Nat → Nat
  | 0, _ => 0
  | n + 1, c => (if c = 0 then 1 else 0) + tkO r n (tkS r c)
theorem tkC_add (r a b c : Nat) : tkC r (a + b) c = tkC r b (tkC r a c) := by
  induction a generalizing c with
  | zero => simp [tkC]
  | succ a ih => rw [Nat.add_right_comm]; simp only [tkC]; exact ih _
theorem tkO_add (r a b c : Nat) : tkO r (a + b) c = tkO r a c + tkO r b (tkC r a c) := by
  induction a generalizing c with
  | zero => simp [tkC, tkO]
  | succ a ih => rw [Nat.add_right_comm]; simp only [tkC, tkO]; rw [ih]; omega
theorem tkO_le (r n c : Nat) : tkO r n c ≤ n := by
  induction n generalizing c with
  | zero => simp [tkO]
  | succ n ih => simp only [tkO]; have := ih (tkS r c); split <;> omega
theorem tkS_le {r c m : Nat} (h : r ≤ m) (h' : c ≤ m) : tkS r c ≤ m := by unfold tkS; split <;> omega
theorem tkC_le {r n c m : Nat} (h : r ≤ m) (h' : c ≤ m) : tkC r n c ≤ m := by
  induction n generalizing c with
  | zero => simpa [tkC] using h'
  | succ n ih => simp only [tkC]; exact ih (tkS_le h h')
theorem tk_loop {r m c : Nat} (h : tkC r m c = c) (k : Nat) : tkC r (k * m) c = c ∧ tkO r (k * m) c = k * tkO r m c := by
  induction k with
  | zero => simp [tkC, tkO]
  | succ k ih =>
    rw [Nat.succ_mul, tkC_add, tkO_add, ih.1, ih.2, h]
    exact ⟨rfl, by rw [Nat.succ_mul]⟩
theorem tk_down {r n c : Nat} (h : n ≤ c) : tkC r n c = c - n ∧ tkO r n c = 0 := by
  induction n generalizing c with
  | zero => simp [tkC, tkO]
  | succ n ih =>
    have e : tkS r c = c - 1 := by unfold tkS; rw [if_neg (by omega)]
    obtain ⟨a, b⟩ := ih (c := c - 1) (by omega)
    simp only [tkC, tkO, e]
    rw [a, b, if_neg (by omega)]
    omega
theorem tk_over (r c : Nat) : tkC r (c + 1) c = r ∧ tkO r (c + 1) c = 1 := by
  obtain ⟨a, b⟩ := tk_down (r := r) (Nat.le_refl c)
  rw [tkC_add, tkO_add, a, b]
  simp [tkC, tkO, tkS]
theorem tk_round {r c : Nat} (h : c ≤ r) : tkC r (r + 1) c = c ∧ tkO r (r + 1) c = 1 := by
  obtain ⟨a, b⟩ := tk_over r c
  obtain ⟨x, y⟩ := tk_down (r := r) (n := r - c) (c := r) (by omega)
  rw [show r + 1 = (c + 1) + (r - c) by omega, tkC_add, tkO_add, a, b, x, y]
  omega
/-- From where it begins again. -/
theorem tk_begun (r q : Nat) : tkC r q r = r - q % (r + 1) := by
  have e := Nat.div_add_mod' q (r + 1)
  have l := Nat.mod_lt q (by omega : 0 < r + 1)
  obtain ⟨a, b⟩ := tk_loop (tk_round (Nat.le_refl r)).1 (q / (r + 1))
  rw [← e, tkC_add, a, (tk_down (by omega)).1, e]
theorem tk_rounds (r c k : Nat) : tkO r (c + 1 + k * (r + 1)) c = k + 1 := by
  obtain ⟨a, b⟩ := tk_over r c
  obtain ⟨x, y⟩ := tk_loop (tk_round (Nat.le_refl r)).1 k
  rw [tkO_add, a, b, y, (tk_round (Nat.le_refl r)).2]
  omega
structure Tm where
  gone : Nat
  c : Nat
  r : Nat
  on : Bool
def Tm.ok (s : Tm) : Prop := s.gone < 3072 ∧ s.c ≤ 127 ∧ s.r ≤ 127
def Tm.new : Tm := ⟨0, 0, 0, false⟩
theorem Tm.new_ok : Tm.new.ok := ⟨by decide, by decide, by decide⟩
/-- It goes on by so many master clocks. -/
def Tm.goN (s : Tm) (n : Nat) : Tm := if s.on = true then ⟨(s.gone + n) % 3072, tkC s.r ((s.gone + n) / 3072) s.c, s.r, true⟩ else s
def Tm.overN (s : Tm) (n : Nat) : Nat := if s.on = true then tkO s.r ((s.gone + n) / 3072) s.c else 0
def Tm.wr (s : Tm) (reg b : Int) : Tm :=
  if reg = 0 then ⟨s.gone, s.c, (b % 128).toNat, s.on⟩
  else if reg = 1 then if b % 2 = 1 then if s.on = true then s else ⟨0, s.r, s.r, true⟩ else ⟨s.gone, s.c, s.r, false⟩
  else s
theorem Tm.go_ok {s : Tm} (h : s.ok) (n : Nat) : (s.goN n).ok := by
  obtain ⟨a, b, c⟩ := h
  unfold Tm.goN
  split
  · exact ⟨Nat.mod_lt _ (by omega), tkC_le c b, c⟩
  · exact ⟨a, b, c⟩
theorem Tm.wr_ok {s : Tm} (h : s.ok) (reg b : Int) : (s.wr reg b).ok := by
  obtain ⟨a1, a2, a3⟩ := h
  unfold Tm.wr
  repeat' split
  all_goals (refine ⟨?_, ?_, ?_⟩ <;> (try dsimp only) <;> omega)
theorem Tm.over_le {s : Tm} (h : s.ok) (n : Nat) : s.overN n ≤ n := by
  obtain ⟨a, _, _⟩ := h
  unfold Tm.overN
  split
  · exact Nat.le_trans (tkO_le _ _ _) (by omega)
  · omega
/-- Gone on in parts it is as gone on at once. -/
theorem Tm.go_add {s : Tm} (h : s.ok) (a b : Nat) : s.goN (a + b) = (s.goN a).goN b ∧ s.overN (a + b) = s.overN a + (s.goN a).overN b := by
  obtain ⟨g, c, r, on⟩ := s
  cases on with
  | false => simp [Tm.goN, Tm.overN]
  | true =>
    have e1 : (g + (a + b)) % 3072 = ((g + a) % 3072 + b) % 3072 := by omega
    have e2 : (g + (a + b)) / 3072 = (g + a) / 3072 + ((g + a) % 3072 + b) / 3072 := by omega
    simp only [Tm.goN, Tm.overN, if_true]
    rw [e1, e2, tkC_add, tkO_add]
    exact ⟨rfl, rfl⟩
end Go.Proofs.Ytbdmpgpdnnjmpaa
