/-
  Texts of these proofs, one behind the other: G2.
-/
import Derived.Test.YtndhkdcdhpfajaaGreatKEP15
import Derived.Laws.BytesArg
import Derived.Deep.WholeRow
namespace Go.Proofs.YtndhkdcdhpfajaaGreat
open Go.RowKit
/-- string(b), b a new block of bytes. -/
theorem conv_new {P : Program} {src e dst t : TypeId} (V : World) (xs : List Int) {len cap g : Nat} (hlen : xs.length = len) (hg : g = V.heap.size) (hs : P.underlying src = some (.slice e)) (he : P.underlying e = some (.int .u8)) (hd : P.underlying dst = some .string) :
    (convert src dst (.slice (some ⟨g, 0, none⟩) len cap)).run P (V.alloc (.cells (xs.map (Value.int .u8)).toArray t)) = .ok (.string (strOfNums xs)) (V.alloc (.cells (xs.map (Value.int .u8)).toArray t)) := by
  subst hg
  refine run_convert_bytes_arg _ src e hs he V.heap.size 0 len cap xs hlen (fun i hi => ?_) dst hd
  rw [Nat.zero_add, cell_of_row _ _ i _ t (0, 0) (heap_alloc_last V _)]
  simp [List.getD, List.getElem?_eq_getElem (show i < xs.length by omega)]
end Go.Proofs.YtndhkdcdhpfajaaGreat
