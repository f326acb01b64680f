/-
  Pages: within, moved.
-/
import Derived.Test.YtndhkdcdhpfajaaDoorMmu1
namespace Go.Proofs.YtndhkdcdhpfajaaDoor
open Go.RowKit Go.Shelf
set_option linter.unusedVariables false
set_option linter.unusedSimpArgs false
set_option maxRecDepth 100000
attribute [local go_sem] Oper.semAt_some
/-- Pages of which those of a mask are in a bank. -/
def mvd (z : Nat → Int) (m b : Int) (i : Nat) : Int := if bitB m i = true then b else z i
def p8 (z : Nat → Int) : Array Value := #[.int .u8 (z 0), .int .u8 (z 1), .int .u8 (z 2), .int .u8 (z 3), .int .u8 (z 4), .int .u8 (z 5), .int .u8 (z 6), .int .u8 (z 7)]
theorem p8_i (z : Nat → Int) : p8 z = iArr .u8 8 z := rfl
/-- Those that have been moved so far. -/
def mvL (z : Nat → Int) (b : Int) (l : List (Fin 8)) (i : Nat) : Int := if l.any (fun x => x.val == i) then b else z i
theorem mvL_snoc (z : Nat → Int) (b : Int) (l : List (Fin 8)) (x : Fin 8) : (p8 (mvL z b l)).setIfInBounds x.val (.int .u8 b) = p8 (mvL z b (l ++ [x])) := by
  rw [p8_i, p8_i, iArr_set]
  exact iArr_congr fun i _ => by
    unfold mvL
    simp only [List.any_append, List.any_cons, List.any_nil, Bool.or_false]
    by_cases e : i = x.val
    · subst e; simp
    · have : (x.val == i) = false := by simp; omega
      rw [if_neg e, this, Bool.or_false]
theorem mvL_all (z : Nat → Int) (m b : Int) : p8 (mvL z b (wthL (fun i => bitB m i) 8)) = p8 (mvd z m b) := by
  rw [p8_i, p8_i]
  exact iArr_congr fun i hi => by
    unfold mvL mvd
    have : (wthL (fun i => bitB m i) 8).any (fun x => x.val == i) = bitB m i := by
      apply Bool.eq_iff_iff.2
      rw [List.any_eq_true]
      constructor
      · rintro ⟨x, hx, e⟩
        have := (wthL_mem _ 8 (by omega) x).1 hx
        have e : x.val = i := by simpa using e
        rw [← e]; exact this.2
      · intro h
        exact ⟨⟨i, hi⟩, (wthL_mem _ 8 (by omega) _).2 ⟨hi, h⟩, by simp⟩
    rw [this]
end Go.Proofs.YtndhkdcdhpfajaaDoor
