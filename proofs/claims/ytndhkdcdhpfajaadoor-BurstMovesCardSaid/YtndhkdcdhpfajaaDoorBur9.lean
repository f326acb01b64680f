/-
  Blocks on their way: a memory of 64 bytes that they read and write.
-/
import Derived.Test.YtndhkdcdhpfajaaDoorBur8
import Derived.Test.YtndhkdcdhpfajaaDoorMov4
import Derived.Test.YtndhkdcdhpfajaaDoorSam1
import Derived.Test.YtndhkdcdhpfajaaDoorG18
import Derived.Test.YtndhkdcdhpfajaaDoorG8
import Derived.Deep.WholeRow
namespace Go.Proofs.YtndhkdcdhpfajaaDoor
open Go.RowKit
set_option linter.unusedVariables false
set_option linter.unusedSimpArgs false
set_option maxRecDepth 100000
theorem zero_of64 {n : Nat} {cs : Array Value} {t : TypeId} (h : (Tryd.prog.info? t).map (fun i => (i.zero, i.size)) = some (some (.agg cs), n)) :
    (∀ w, (zeroValue t).run Tryd.prog w = .ok (.agg cs) w) ∧ (Tryd.prog.info? t).map (·.size) = some n := zero_of_info h
theorem info64 : (Tryd.prog.info? 37).map (fun i => (i.zero, i.size)) = some (some (.agg (iArr .u8 64 fun _ => 0)), 64) := by kernel_rfl
theorem zero64 (w : World) : (zeroValue 37).run Tryd.prog w = .ok (.agg (iArr .u8 64 fun _ => 0)) w := (zero_of_info info64).1 w
theorem size64 : (Tryd.prog.info? 37).map (·.size) = some 64 := (zero_of_info info64).2
theorem store64 (W : World) (z z' : Nat → Int) : (storeCells ⟨W.heap.size, 0, none⟩ (iArr .u8 64 z').toList).run Tryd.prog (W.alloc (.cells (iArr .u8 64 z) 37)) = .ok () (W.alloc (.cells (iArr .u8 64 z') 37)) :=
  run_storeCells_new (P := Tryd.prog) W 37 (iArr .u8 64 z) (iArr .u8 64 z') (by rw [iArr_size]; exact size64) (by rw [iArr_size, iArr_size]) (by rw [Array.all_eq_true']; intro v hv; exact iArr_one _ _ _ v (by simpa using hv))
/-- Memory, when m bytes are moved, and the next one is in phase p. -/
def Hf (k : Nat) (f t : Int) (z : Nat → Int) (m p : Nat) : Nat → Int := if p = 5 then mvM k f t 64 z (List.range (m + 1)) else mvM k f t 64 z (List.range m)
theorem Hf_ne {k : Nat} {f t : Int} {z : Nat → Int} {m p : Nat} (h : p ≠ 5) : Hf k f t z m p = mvM k f t 64 z (List.range m) := if_neg h
theorem Hf_five {k : Nat} {f t : Int} {z : Nat → Int} {m : Nat} : Hf k f t z m 5 = mvM k f t 64 z (List.range (m + 1)) := rfl
theorem IRow.arr {w : World} {g n : Nat} {t : TypeId} {z : Nat → Int} (h : Blk w g t (iArr .u8 n z)) (hz : ∀ i, i < n → 0 ≤ z i ∧ z i ≤ 255) : IRow w .u8 (some ⟨g, 0, none⟩) n z := fun i hi => by
  obtain ⟨a, b⟩ := hz i hi
  refine ⟨_, rfl, h.lt, ?_, by simp [Lit.wf, IntKind.min, IntKind.max, IntKind.signed, IntKind.bits]; omega⟩
  rw [add_zero_block, h.cell]
  exact iArr_at _ _ _ _ hi
theorem cntB_nat (l : Nat) (h : l ≠ 0) : cntP (l : Int) = (l : Int) := if_neg (by omega)
end Go.Proofs.YtndhkdcdhpfajaaDoor
