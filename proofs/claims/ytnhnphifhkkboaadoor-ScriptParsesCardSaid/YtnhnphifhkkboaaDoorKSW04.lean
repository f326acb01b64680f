/-
  Texts of these proofs, one behind the other: G1, G2.
-/
import Derived.WalkKit
import Derived.Handy
import Derived.WalkSpells
import Derived.WalkLawsBesides
import Derived.Laws.BytesArg
import Derived.Deep.WholeRow
namespace Go.Proofs.YtnhnphifhkkboaaDoor
open Go.RowKit

/-- A type whose values are one cell, and no aggregate. -/
def flat (P : Program) (e : TypeId) : Bool :=
  (match P.underlying e with | some (.struct _) => false | some (.array _ _) => false | some _ => true | none => false) && (P.info? e).any (fun i => i.size == 1)

theorem run_index_agg {P : Program} {t e : TypeId} {n : Nat} (ht : P.underlying t = some (.array n e)) (he : flat P e = true) {cs : Array Value} {k : IntKind} {i : Int} {v : Value} (h0 : 0 ≤ i) (h1 : i < n) (hv : cs[i.toNat]? = some v) (w : World) :
    (Instr.index t (.agg cs) (.int k i)).run P w = .ok v w := by
  unfold flat at he
  simp only [Bool.and_eq_true, Option.any_eq_true] at he
  obtain ⟨he, inf, hi, hs⟩ := he
  have hs : inf.size = 1 := by simpa using hs
  cases hu : P.underlying e with
  | none => simp [hu] at he
  | some d =>
    have hz : (typeInfo e).run P w = .ok inf w := by simp [typeInfo, hi]
    cases d <;> simp [hu] at he <;> simp [Instr.index, run_underlying ht, asIntOf, h0, h1, part, isAgg, run_underlying hu, sizeOf, hz, hs, hv]
end Go.Proofs.YtnhnphifhkkboaaDoor
namespace Go.Proofs.YtnhnphifhkkboaaDoor
open Go.RowKit
/-- string(b), b a new block of bytes. -/
theorem conv_new {P : Program} {src e dst t : TypeId} (V : World) (xs : List Int) {len cap g : Nat} (hlen : xs.length = len) (hg : g = V.heap.size) (hs : P.underlying src = some (.slice e)) (he : P.underlying e = some (.int .u8)) (hd : P.underlying dst = some .string) :
    (convert src dst (.slice (some ⟨g, 0, none⟩) len cap)).run P (V.alloc (.cells (xs.map (Value.int .u8)).toArray t)) = .ok (.string (strOfNums xs)) (V.alloc (.cells (xs.map (Value.int .u8)).toArray t)) := by
  subst hg
  refine run_convert_bytes_arg _ src e hs he V.heap.size 0 len cap xs hlen (fun i hi => ?_) dst hd
  rw [Nat.zero_add, cell_of_row _ _ i _ t (0, 0) (heap_alloc_last V _)]
  simp [List.getD, List.getElem?_eq_getElem (show i < xs.length by omega)]
end Go.Proofs.YtnhnphifhkkboaaDoor
