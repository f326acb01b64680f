/-
  Texts of these proofs, one behind the other: Cart0, G17.
-/
import Derived.Test.YtndhkdcdhpfajaaGreatKED09
import Derived.Test.YtndhkdcdhpfajaaGreatKED03
import Derived.Test.YtndhkdcdhpfajaaGreatKED01
import Derived.Laws.CopyOwn
import Derived.Test.YtndhkdcdhpfajaaGreatKED05
namespace Go.Proofs.YtndhkdcdhpfajaaGreat
open Go.RowKit
set_option linter.unusedVariables false
/-- A piece lies within so many bytes. -/
def good (S : Int) (p : Pc) : Prop := 0 ≤ p.at_ ∧ (p.n : Int) ≤ S - p.at_
instance (S : Int) (p : Pc) : Decidable (good S p) := by unfold good; infer_instance
/-- The byte at a place, when k pieces have been laid. -/
def laid (ps : Nat → Pc) : Nat → Nat → Int
 | 0, _ => 0
 | k + 1, i => if (ps k).at_ ≤ i ∧ (i : Int) < (ps k).at_ + (ps k).n then (ps k).z ((i : Int) - (ps k).at_).toNat else laid ps k i
/-- Cells that are bytes. -/
def BArr (C : List Value) (S : Nat) (f : Nat → Int) : Prop := C.length = S ∧ ∀ i, i < S → C[i]? = some (.int .u8 (f i))
theorem BArr.zero (S : Nat) : BArr (List.replicate S (.int .u8 0)) S (fun _ => 0) := ⟨by simp, fun i hi => by simp [hi]⟩
theorem BArr.congr {C : List Value} {S : Nat} {f g : Nat → Int} (h : BArr C S f) (e : ∀ i, i < S → f i = g i) : BArr C S g := ⟨h.1, fun i hi => by rw [h.2 i hi, e i hi]⟩
theorem splice_at {α : Type} (L : List α) (off : Nat) (cs : List α) (h : off + cs.length ≤ L.length) (i : Nat) : (splice L off cs)[i]? = if off ≤ i ∧ i < off + cs.length then cs[i - off]? else L[i]? := by
 unfold splice
 by_cases h1 : i < off
 ·rw [List.getElem?_append_left (by simp; omega), if_neg (by omega), List.getElem?_take_of_lt h1]
 ·rw [List.getElem?_append_right (by simp; omega)]
  have e : (L.take off).length = off := by simp; omega
  rw [e]
  by_cases h2 : i < off + cs.length
  ·rw [if_pos ⟨by omega, h2⟩, List.getElem?_append_left (by omega)]
  ·rw [if_neg (by omega), List.getElem?_append_right (by omega), List.getElem?_drop]
   congr 1; omega
theorem BArr.lay {C : List Value} {S : Nat} {ps : Nat → Pc} {k : Nat} (h : BArr C S (laid ps k)) (hg : good S (ps k)) : BArr (splice C (ps k).at_.toNat (bytesOf (ps k).z (ps k).n)) S (laid ps (k + 1)) := by
 obtain ⟨g0, g1⟩ := hg
 have hl : (ps k).at_.toNat + (bytesOf (ps k).z (ps k).n).length ≤ C.length := by rw [bytesOf_len, h.1]; omega
 refine ⟨by rw [length_splice _ _ _ hl, h.1], fun i hi => ?_⟩
 rw [splice_at _ _ _ hl, bytesOf_len]
 by_cases c : (ps k).at_ ≤ i ∧ (i : Int) < (ps k).at_ + (ps k).n
 ·have e1 : laid ps (k + 1) i = (ps k).z ((i : Int) - (ps k).at_).toNat := by simp only [laid]; rw [if_pos c]
  rw [if_pos (by omega), e1, bytesOf_at _ _ _ (by omega)]
  congr 3; omega
 ·have e1 : laid ps (k + 1) i = laid ps k i := by simp only [laid]; rw [if_neg c]
  rw [if_neg (by omega), e1]
  exact h.2 i hi
theorem BArr.set_ {C : List Value} {S : Nat} {f : Nat → Int} (h : BArr C S f) (j : Nat) (hj : j < S) (x : Int) : BArr (C.set j (.int .u8 x)) S (fun i => if i = j then x else f i) := by
 refine ⟨by rw [List.length_set, h.1], fun i hi => ?_⟩
 rw [List.getElem?_set]
 by_cases e : j = i
 ·subst e; simp [h.1, hj]
 ·rw [if_neg e, h.2 i hi]; simp [show ¬ i = j from fun h => e h.symm]
/-- The bytes when j bytes of a piece have been laid. -/
def laidTo (f : Nat → Int) (p : Pc) (j : Nat) (i : Nat) : Int := if p.at_ ≤ i ∧ (i : Int) < p.at_ + j then p.z ((i : Int) - p.at_).toNat else f i
theorem laidTo_zero (f : Nat → Int) (p : Pc) : laidTo f p 0 = f := by
 funext i
 unfold laidTo
 rw [if_neg (by omega)]
theorem BArr.step {C : List Value} {S : Nat} {f : Nat → Int} {p : Pc} {j off : Nat} (h : BArr C S (laidTo f p j)) (e : p.at_ = off) (hj : off + j < S) : BArr (C.set (off + j) (.int .u8 (p.z j))) S (laidTo f p (j + 1)) := by
 refine (h.set_ (off + j) hj (p.z j)).congr fun i hi => ?_
 unfold laidTo
 rw [e]
 by_cases c : i = off + j
 ·subst c
  rw [if_pos rfl, if_pos (by omega)]
  congr 1; omega
 ·rw [if_neg c]
  by_cases d : (off : Int) ≤ i ∧ (i : Int) < off + j
  ·rw [if_pos d, if_pos (by omega)]
  ·rw [if_neg d, if_neg (by omega)]
end Go.Proofs.YtndhkdcdhpfajaaGreat
namespace Go.Proofs.YtndhkdcdhpfajaaGreat
open Go.ChangeShapes Go.WideShapes Go.Deep Go.RowKit
set_option linter.unusedVariables false
def I2Row (w : World) (k0 k1 : IntKind) (A : Option Addr) (m : Nat) (ps : Nat → Int × Int) : Prop :=
 ∀ i, i < m → ∃ ad : Addr, A = some ad ∧ ad.block < w.heap.size ∧ w.cell? (ad.add (i * 2)) = some (.int k0 (ps i).1) ∧ w.cell? (ad.add (i * 2 + 1)) = some (.int k1 (ps i).2) ∧ (Lit.int k0 (ps i).1).wf = true ∧ (Lit.int k1 (ps i).2).wf = true
theorem I2Row.keep {w w' : World} {k0 k1 : IntKind} {A : Option Addr} {m : Nat} {ps : Nat → Int × Int} (h : I2Row w k0 k1 A m ps) (hb : Below w.heap.size w w') : I2Row w' k0 k1 A m ps := fun i hi => by
 obtain ⟨ad, e, hl, h1, h2, h3⟩ := h i hi
 exact ⟨ad, e, Nat.lt_of_lt_of_le hl hb.size, (hb.cell (by rw [block_of_add]; exact hl)).trans h1, (hb.cell (by rw [block_of_add]; exact hl)).trans h2, h3⟩
section
variable {H : Type} {enc : TypeId × Value → H} {P : Program} {w : World} {base : Nat} {r : Reach} {b0 : Nat} {t e : TypeId} {v : Value} {d : DataW H} {ps : List MemPlace} {f0 f1 : Field}
end
end Go.Proofs.YtndhkdcdhpfajaaGreat
