/-
  Texts of these proofs, one behind the other: Ram5.
-/
import Derived.Test.YtdfjpdcnjjgljaaKMT23
import Derived.Deep.QuietTactic
import Derived.BigQuiet
import Derived.LoopTactic
namespace Go.Proofs.Ytdfjpdcnjjgljaa
open Go.RowKit
set_option linter.unusedVariables false
set_option linter.unusedSimpArgs false
set_option maxRecDepth 100000
/-- Nothing is unlike up to there; there it is, or that is the end, and then -1 is told. -/
def FirstD (a b : Nat → Int) (m : Nat) (r : Int) : Prop := (r = -1 ∧ ∀ i, i < m → a i = b i) ∨ ∃ k, k < m ∧ r = (k : Int) ∧ a k ≠ b k ∧ ∀ i, i < k → a i = b i
/-- Two memories' bytes, block by block. -/
def RA (w : World) (v : Value) (f : Nat → Int) : Prop := (v = .pointer none ∧ f = fun _ => 0) ∨ ∃ g mb, v = .pointer (some ⟨g, 0, none⟩) ∧ RD w g mb f
theorem RA.keep {w w' : World} {v : Value} {f : Nat → Int} (h : RA w v f) (k : Below w.heap.size w w') : RA w' v f := by
  rcases h with h | ⟨g, mb, e, h⟩
  · exact .inl h
  · exact .inr ⟨g, mb, e, h.keep k⟩
theorem block_ra {w : World} {v : Value} {f : Nat → Int} (h : RA w v f) (k : Nat) (hk : k < 128) :
    Calls Try.prog 15 #[v, .int .i64 k] w fun e w' => e = .returned (.agg (bk f k)) ∧ Below w.heap.size w w' := by
  rcases h with ⟨rfl, rfl⟩ | ⟨g, mb, rfl, h⟩
  · exact block_nil k w
  · exact block_any h k hk
def SameB (r : Int) : Bool := decide (r < 0)
end Go.Proofs.Ytdfjpdcnjjgljaa
