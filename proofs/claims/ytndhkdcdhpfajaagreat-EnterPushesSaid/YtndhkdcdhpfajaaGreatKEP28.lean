/-
  Texts of these proofs, one behind the other: Mmu1, Mmu2.
-/
import Derived.Test.YtndhkdcdhpfajaaGreatKEP13
import Derived.Test.YtndhkdcdhpfajaaGreatKEP08
import Derived.Test.YtndhkdcdhpfajaaGreatKEP27
import Derived.Test.YtndhkdcdhpfajaaGreatKEP12
import Derived.RangeFuncNested
import Derived.RangeFuncBound
import Derived.RangeFuncCalls
import Derived.RangeFuncLeaves
import Derived.RangeFuncFrom
import Derived.Shelf.Abstract
import Derived.Shelf.RegionOpen
import Derived.OwnWalkIn
import Derived.TacticsInMore
import Derived.LoopNIn
import Derived.LoopIn
import Derived.Lib.Hide
namespace Go.Proofs.YtndhkdcdhpfajaaGreat
open Go.RowKit Go.Shelf
set_option linter.unusedVariables false
set_option linter.unusedSimpArgs false
set_option maxRecDepth 100000
attribute [local go_sem] Oper.semAt_some
/-- The pages of a mask up to one, in their order. -/
def wthL (f : Nat → Bool) : Nat → List (Fin 8)
  | 0 => []
  | k + 1 => if h : k < 8 then (if f k then wthL f k ++ [⟨k, h⟩] else wthL f k) else wthL f k
theorem wthL_pre (f : Nat → Bool) (k m : Nat) (h : k ≤ m) : wthL f k <+: wthL f m := by
  induction m with
  | zero =>
    obtain rfl : k = 0 := by omega
    exact List.prefix_rfl
  | succ m ih =>
    by_cases e : k = m + 1
    · subst e; exact List.prefix_rfl
    · have := ih (by omega)
      simp only [wthL]
      split
      · split
        · exact this.trans (List.prefix_append _ _)
        · exact this
      · exact this
theorem wthL_len (f : Nat → Bool) (k : Nat) : (wthL f k).length ≤ k := by
  induction k with
  | zero => simp [wthL]
  | succ k ih =>
    simp only [wthL]
    split
    · split
      · simp; omega
      · omega
    · omega
theorem wthL_mem (f : Nat → Bool) (k : Nat) (hk : k ≤ 8) (x : Fin 8) : x ∈ wthL f k ↔ x.val < k ∧ f x.val = true := by
  induction k with
  | zero => simp [wthL]
  | succ k ih =>
    have ih := ih (by omega)
    simp only [wthL, dif_pos (show k < 8 by omega)]
    by_cases hf : f k = true
    · rw [if_pos hf, List.mem_append, ih]
      simp only [List.mem_singleton]
      constructor
      · rintro (⟨h1, h2⟩ | rfl)
        · exact ⟨by omega, h2⟩
        · exact ⟨by simp, hf⟩
      · rintro ⟨h1, h2⟩
        by_cases e : x.val = k
        · exact .inr (Fin.ext e)
        · exact .inl ⟨by omega, h2⟩
    · rw [if_neg hf, ih]
      constructor
      · rintro ⟨h1, h2⟩; exact ⟨by omega, h2⟩
      · rintro ⟨h1, h2⟩
        refine ⟨?_, h2⟩
        by_cases e : x.val = k
        · rw [e] at h2; exact absurd h2 hf
        · omega
/-- The cell that the iterator reads is kept. -/
def KpM (bn : Nat) (m : Int) (A B : World) : Prop := Blk A bn 5 #[.int .u8 m] → Blk B bn 5 #[.int .u8 m]
theorem blk_put {W : World} {g l : Nat} {t : TypeId} {cs : Array Value} (h : Blk W g t cs) {o o' : Obj} (ho : W.heap[l]? = some o) (hc : o.isCells = false) : Blk (W.putObj l o') g t cs :=
  h.grown (grownBy_putObj' W l o') fun e => by
    cases e
    have h' : W.heap[g]? = some (Obj.cells cs t (0, 0)) := h
    rw [h'] at ho
    cases ho
    exact absurd hc (by simp [Obj.isCells])
theorem mblk_own {W W' : World} {g : Nat} {t : TypeId} {cs : Array Value} {row : Option Nat} (h : Blk W g t cs) (hg : W.grownBy W' row) (hr : ∀ r, row = some r → ∃ o : Obj, W.heap[r]? = some o ∧ o.isCells = false) : Blk W' g t cs :=
  h.grown hg fun e => by
    obtain ⟨o, ho, hc⟩ := hr g e.symm
    have h' : W.heap[g]? = some (Obj.cells cs t (0, 0)) := h
    rw [h'] at ho
    cases ho
    exact absurd hc (by simp [Obj.isCells])
end Go.Proofs.YtndhkdcdhpfajaaGreat
namespace Go.Proofs.YtndhkdcdhpfajaaGreat
open Go.RowKit Go.Shelf
set_option linter.unusedVariables false
set_option linter.unusedSimpArgs false
set_option maxRecDepth 100000
attribute [local go_sem] Oper.semAt_some
/-- Pages of which those of a mask are in a bank. -/
def mvd (z : Nat → Int) (m b : Int) (i : Nat) : Int := if bitB m i = true then b else z i
def p8 (z : Nat → Int) : Array Value := #[.int .u8 (z 0), .int .u8 (z 1), .int .u8 (z 2), .int .u8 (z 3), .int .u8 (z 4), .int .u8 (z 5), .int .u8 (z 6), .int .u8 (z 7)]
theorem p8_i (z : Nat → Int) : p8 z = iArr .u8 8 z := rfl
/-- Those that have been moved so far. -/
def mvL (z : Nat → Int) (b : Int) (l : List (Fin 8)) (i : Nat) : Int := if l.any (fun x => x.val == i) then b else z i
theorem mvL_snoc (z : Nat → Int) (b : Int) (l : List (Fin 8)) (x : Fin 8) : (p8 (mvL z b l)).setIfInBounds x.val (.int .u8 b) = p8 (mvL z b (l ++ [x])) := by
  rw [p8_i, p8_i, iArr_set]
  exact iArr_congr fun i _ => by
    unfold mvL
    simp only [List.any_append, List.any_cons, List.any_nil, Bool.or_false]
    by_cases e : i = x.val
    · subst e; simp
    · have : (x.val == i) = false := by simp; omega
      rw [if_neg e, this, Bool.or_false]
theorem mvL_all (z : Nat → Int) (m b : Int) : p8 (mvL z b (wthL (fun i => bitB m i) 8)) = p8 (mvd z m b) := by
  rw [p8_i, p8_i]
  exact iArr_congr fun i hi => by
    unfold mvL mvd
    have : (wthL (fun i => bitB m i) 8).any (fun x => x.val == i) = bitB m i := by
      apply Bool.eq_iff_iff.2
      rw [List.any_eq_true]
      constructor
      · rintro ⟨x, hx, e⟩
        have := (wthL_mem _ 8 (by omega) x).1 hx
        have e : x.val = i := by simpa using e
        rw [← e]; exact this.2
      · intro h
        exact ⟨⟨i, hi⟩, (wthL_mem _ 8 (by omega) _).2 ⟨hi, h⟩, by simp⟩
    rw [this]
theorem info8 : (Tryz.prog.info? 30).map (·.size) = some 8 := by kernel_rfl
end Go.Proofs.YtndhkdcdhpfajaaGreat
