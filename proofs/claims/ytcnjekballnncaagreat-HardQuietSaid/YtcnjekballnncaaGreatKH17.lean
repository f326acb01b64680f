/-
  Texts of these proofs, one behind the other: G2, A4.
-/
import Derived.Test.YtcnjekballnncaaGreatKH12
import Derived.Laws.BytesArg
import Derived.Deep.WholeRow
import Derived.Test.YtcnjekballnncaaGreatKH16
namespace Go.Proofs.YtcnjekballnncaaGreat
open Go.RowKit
/-- string(b), b a new block of bytes. -/
theorem conv_new {P : Program} {src e dst t : TypeId} (V : World) (xs : List Int) {len cap g : Nat} (hlen : xs.length = len) (hg : g = V.heap.size) (hs : P.underlying src = some (.slice e)) (he : P.underlying e = some (.int .u8)) (hd : P.underlying dst = some .string) :
    (convert src dst (.slice (some ⟨g, 0, none⟩) len cap)).run P (V.alloc (.cells (xs.map (Value.int .u8)).toArray t)) = .ok (.string (strOfNums xs)) (V.alloc (.cells (xs.map (Value.int .u8)).toArray t)) := by
  subst hg
  refine run_convert_bytes_arg _ src e hs he V.heap.size 0 len cap xs hlen (fun i hi => ?_) dst hd
  rw [Nat.zero_add, cell_of_row _ _ i _ t (0, 0) (heap_alloc_last V _)]
  simp [List.getD, List.getElem?_eq_getElem (show i < xs.length by omega)]
end Go.Proofs.YtcnjekballnncaaGreat
namespace Go.Proofs.YtcnjekballnncaaGreat
open Go.RowKit
def hexL (n : Int) : Nat → List Int
  | 0 => []
  | k + 1 => hexL (n / 16) k ++ [digI (n % 16).toNat]
theorem figs_int (m : Int) (a : 0 ≤ m) (b : m < 16) : figs[m.toNat]? = some (.int .u8 (digI m.toNat)) := figs_at _ (by omega)
def held8 (d : Int) : Nat := if d < 1 then 1 else if 8 < d then 8 else d.toNat
end Go.Proofs.YtcnjekballnncaaGreat
