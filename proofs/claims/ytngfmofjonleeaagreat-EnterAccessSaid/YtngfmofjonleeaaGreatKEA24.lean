/-
  Texts of these proofs, one behind the other: Cart0, G17.
-/
import Derived.Test.YtngfmofjonleeaaGreatKEA09
import Derived.Test.YtngfmofjonleeaaGreatKEA03
import Derived.Test.YtngfmofjonleeaaGreatKEA01
import Derived.Laws.CopyOwn
import Derived.Test.YtngfmofjonleeaaGreatKEA05
namespace Go.Proofs.YtngfmofjonleeaaGreat
open Go.RowKit
set_option linter.unusedVariables false
/-- A piece lies within so many bytes. -/
def good (S : Int) (p : Pc) : Prop := 0 ≤ p.at_ ∧ (p.n : Int) ≤ S - p.at_
instance (S : Int) (p : Pc) : Decidable (good S p) := by unfold good; infer_instance
/-- The byte at a place, when k pieces have been laid. -/
def laid (ps : Nat → Pc) : Nat → Nat → Int
  | 0, _ => 0
  | k + 1, i => if (ps k).at_ ≤ i ∧ (i : Int) < (ps k).at_ + (ps k).n then (ps k).z ((i : Int) - (ps k).at_).toNat else laid ps k i
/-- Cells that are bytes. -/
def BArr (C : List Value) (S : Nat) (f : Nat → Int) : Prop := C.length = S ∧ ∀ i, i < S → C[i]? = some (.int .u8 (f i))
theorem BArr.zero (S : Nat) : BArr (List.replicate S (.int .u8 0)) S (fun _ => 0) := ⟨by simp, fun i hi => by simp [hi]⟩
theorem BArr.congr {C : List Value} {S : Nat} {f g : Nat → Int} (h : BArr C S f) (e : ∀ i, i < S → f i = g i) : BArr C S g := ⟨h.1, fun i hi => by rw [h.2 i hi, e i hi]⟩
theorem BArr.set_ {C : List Value} {S : Nat} {f : Nat → Int} (h : BArr C S f) (j : Nat) (hj : j < S) (x : Int) : BArr (C.set j (.int .u8 x)) S (fun i => if i = j then x else f i) := by
  refine ⟨by rw [List.length_set, h.1], fun i hi => ?_⟩
  rw [List.getElem?_set]
  by_cases e : j = i
  · subst e; simp [h.1, hj]
  · rw [if_neg e, h.2 i hi]; simp [show ¬ i = j from fun h => e h.symm]
/-- The bytes when j bytes of a piece have been laid. -/
def laidTo (f : Nat → Int) (p : Pc) (j : Nat) (i : Nat) : Int := if p.at_ ≤ i ∧ (i : Int) < p.at_ + j then p.z ((i : Int) - p.at_).toNat else f i
theorem BArr.step {C : List Value} {S : Nat} {f : Nat → Int} {p : Pc} {j off : Nat} (h : BArr C S (laidTo f p j)) (e : p.at_ = off) (hj : off + j < S) : BArr (C.set (off + j) (.int .u8 (p.z j))) S (laidTo f p (j + 1)) := by
  refine (h.set_ (off + j) hj (p.z j)).congr fun i hi => ?_
  unfold laidTo
  rw [e]
  by_cases c : i = off + j
  · subst c
    rw [if_pos rfl, if_pos (by omega)]
    congr 1; omega
  · rw [if_neg c]
    by_cases d : (off : Int) ≤ i ∧ (i : Int) < off + j
    · rw [if_pos d, if_pos (by omega)]
    · rw [if_neg d, if_neg (by omega)]
end Go.Proofs.YtngfmofjonleeaaGreat
namespace Go.Proofs.YtngfmofjonleeaaGreat
open Go.ChangeShapes Go.WideShapes Go.Deep Go.RowKit
set_option linter.unusedVariables false
def I2Row (w : World) (k0 k1 : IntKind) (A : Option Addr) (m : Nat) (ps : Nat → Int × Int) : Prop :=
  ∀ i, i < m → ∃ ad : Addr, A = some ad ∧ ad.block < w.heap.size ∧ w.cell? (ad.add (i * 2)) = some (.int k0 (ps i).1) ∧ w.cell? (ad.add (i * 2 + 1)) = some (.int k1 (ps i).2) ∧ (Lit.int k0 (ps i).1).wf = true ∧ (Lit.int k1 (ps i).2).wf = true
theorem I2Row.keep {w w' : World} {k0 k1 : IntKind} {A : Option Addr} {m : Nat} {ps : Nat → Int × Int} (h : I2Row w k0 k1 A m ps) (hb : Below w.heap.size w w') : I2Row w' k0 k1 A m ps := fun i hi => by
  obtain ⟨ad, e, hl, h1, h2, h3⟩ := h i hi
  exact ⟨ad, e, Nat.lt_of_lt_of_le hl hb.size, (hb.cell (by rw [block_of_add]; exact hl)).trans h1, (hb.cell (by rw [block_of_add]; exact hl)).trans h2, h3⟩
section
variable {H : Type} {enc : TypeId × Value → H} {P : Program} {w : World} {base : Nat} {r : Reach} {b0 : Nat} {t e : TypeId} {v : Value} {d : DataW H} {ps : List MemPlace} {f0 f1 : Field}
end
end Go.Proofs.YtngfmofjonleeaaGreat
