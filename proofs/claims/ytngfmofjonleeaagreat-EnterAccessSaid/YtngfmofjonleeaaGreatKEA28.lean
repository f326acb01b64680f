/-
  Texts of these proofs, one behind the other: Ram10, Ram5, Ram9, Ram11.
-/
import Derived.Test.YtngfmofjonleeaaGreatKEA27
import Derived.Shelf.SlMaps.Clone
import Derived.Deep.QuietTactic
import Derived.BigQuiet
import Derived.LoopTactic
import Derived.Test.YtngfmofjonleeaaGreatKEA24
import Derived.Test.YtngfmofjonleeaaGreatKEA03
import Derived.IntWalk
import Derived.Deep.Cut
import Derived.Deep.CutRange
import Derived.Test.YtngfmofjonleeaaGreatKEA26
import Derived.Deep.LoopGhost
namespace Go.Proofs.YtngfmofjonleeaaGreat
open Go.RowKit Go.Shelf Go.Proofs
set_option linter.unusedVariables false
set_option linter.unusedSimpArgs false
set_option maxRecDepth 100000
end Go.Proofs.YtngfmofjonleeaaGreat
namespace Go.Proofs.YtngfmofjonleeaaGreat
open Go.RowKit
set_option linter.unusedVariables false
set_option linter.unusedSimpArgs false
set_option maxRecDepth 100000
/-- Two memories' bytes, block by block. -/
def RA (w : World) (v : Value) (f : Nat → Int) : Prop := (v = .pointer none ∧ f = fun _ => 0) ∨ ∃ g mb, v = .pointer (some ⟨g, 0, none⟩) ∧ RD w g mb f
theorem RA.keep {w w' : World} {v : Value} {f : Nat → Int} (h : RA w v f) (k : Below w.heap.size w w') : RA w' v f := by
  rcases h with h | ⟨g, mb, e, h⟩
  · exact .inl h
  · exact .inr ⟨g, mb, e, h.keep k⟩
end Go.Proofs.YtngfmofjonleeaaGreat
namespace Go.Proofs.YtngfmofjonleeaaGreat
open Go.RowKit
set_option linter.unusedVariables false
set_option linter.unusedSimpArgs false
set_option maxRecDepth 100000
/-- The first 8192 cells are these bytes. -/
def BAt (C : List Value) (f : Nat → Int) : Prop := ∀ i, i < 8192 → C[i]? = some (.int .u8 (f i))
theorem BAt.row {w : World} {g : Nat} {C : List Value} {f : Nat → Int} (h : Blk w g 5 C.toArray) (hA : BAt C f) (hw : ∀ i, (Lit.int .u8 (f i)).wf = true) : IRow w .u8 (some ⟨g, 0, none⟩) 8192 f := fun i hi =>
  ⟨_, rfl, h.lt, by rw [add_zero_block, h.cell]; simpa using hA i hi, hw i⟩
/-- Memory at g and a row of bytes at gp have the same bytes. -/
def Both (w : World) (g gp : Nat) (mb : Option Nat) (f : Nat → Int) : Prop := RD w g mb f ∧ ∃ C : List Value, Blk w gp 5 C.toArray ∧ BAt C f
def Grew (w : World) (mb mb' : Option Nat) : Prop := mb' = mb ∨ ∃ b', mb' = some b' ∧ w.heap.size ≤ b'
theorem Grew.trans {w w1 : World} {a b c : Option Nat} (h : Grew w a b) (k : Grew w1 b c) (hs : w.heap.size ≤ w1.heap.size) : Grew w a c := by
  rcases k with k | ⟨y, k, k2⟩
  · rw [k]; exact h
  · exact .inr ⟨y, k, by omega⟩
theorem Grew.off {w : World} {a b : Option Nat} (h : Grew w a b) (x : Nat) (e : b = some x) : a = some x ∨ w.heap.size ≤ x := by
  rcases h with h | ⟨y, h, h2⟩
  · exact .inl (h ▸ e)
  · rw [h] at e; cases e; exact .inr h2
theorem set_arr_ (C : List Value) (i : Nat) (u : Value) : (List.toArray C).setIfInBounds i u = List.toArray (C.set i u) := by simp
theorem BAt.wr {C : List Value} {f : Nat → Int} (h : BAt C f) (a b : Int) (a0 : 0 ≤ a) (a1 : a ≤ 65535) : BAt (C.set (a % 8192).toNat (.int .u8 b)) (fw f a b) := fun i hi => by
  have hl : i < C.length := (List.getElem?_eq_some_iff.1 (h i hi)).1
  rw [List.getElem?_set]
  unfold fw
  by_cases e : (a % 8192).toNat = i
  · rw [if_pos e, if_pos (by omega), if_pos e.symm]
  · rw [if_neg e, h i hi, if_neg (by omega)]
end Go.Proofs.YtngfmofjonleeaaGreat
namespace Go.Proofs.YtngfmofjonleeaaGreat
open Go.RowKit
set_option linter.unusedVariables false
set_option linter.unusedSimpArgs false
set_option maxRecDepth 100000
end Go.Proofs.YtngfmofjonleeaaGreat
