/-
  Texts of these proofs, one behind the other: Laid17.
-/
import Derived.Test.YtnhnphifhkkboaaDoorRows
import Derived.Test.YtnhnphifhkkboaaDoorKSW49
import Derived.Lib.LaidTab
import Derived.Test.YtnhnphifhkkboaaDoorKSW01
import Derived.ProofKit
import Derived.LaidMore
import Derived.OpenShut
import Derived.Stop.Joined
import Derived.Lay
namespace Go.Proofs.YtnhnphifhkkboaaDoor
open Go.ChangeShapes Go.WideShapes Go.ChangeAt Go.RowKit
set_option linter.unusedVariables false
set_option linter.unusedSimpArgs false
set_option maxRecDepth 100000
theorem tabs_of {P : Program} {w : World} {nm : String} {g n fuel : Nat} {t e : TypeId} {cs : Array Value} {f : Nat → List UInt8} {p : List MemPlace} (hg : P.globalNamed nm = some g) (ht : P.underlying t = some (.array n e)) (he : P.underlying e = some .string) (ce : P.cellsOf e = 1) (hn : 0 < n)
    (hv : w.var? P nm = some cs) (hd : DataW.trod (fun _ => ()) P w 0 (fun _ => true) false fuel t cs.toList = some (.agg ((List.range n).map fun i => .lit (.string (f i))), p)) : g < w.heap.size ∧ ∀ k, k < n → w.cell? ⟨g, k, none⟩ = some (.string ⟨(f k).toArray⟩) := by
  obtain ⟨xs, m, rfl, hx, hl, hxn, hel⟩ := DataW.trod_array ht hd
  have hc : ∀ k, k < n → w.cell? ⟨g, k, none⟩ = some (.string ⟨(f k).toArray⟩) := fun k hk => by
    have h1 := hel k hk
    have hxk : xs[k]? = some (xs[k]'(by omega)) := List.getElem?_eq_getElem (by omega)
    rw [hxk, ce, Nat.mul_one] at h1
    obtain ⟨z, e1, e2, _⟩ := DataW.trod_string he h1
    have e3 : (xs[k]'(by omega)).1 = .lit (.string (f k)) := by
      have h2 : (xs.map (·.1))[k]? = some (xs[k]'(by omega)).1 := by rw [List.getElem?_map, hxk]; rfl
      have h3 : (xs.map (·.1)) = (List.range n).map fun i => .lit (.string (f i)) := by
        simp only [Prod.mk.injEq, DataW.agg.injEq] at hx
        exact hx.1.symm
      rw [h3] at h2
      simpa [hk] using h2.symm
    rw [e2] at e3
    simp only [DataW.lit.injEq, Lit.string.injEq] at e3
    have ez : z = ⟨(f k).toArray⟩ := by rw [← e3]
    rw [ez] at e1
    have := World.var?_cell hg hv k
    rw [this]
    have h4 : cs.toList[k]? = some (.string ⟨(f k).toArray⟩) := by
      have h5 : (cs.toList.drop k)[0]? = some (.string ⟨(f k).toArray⟩) := by
        have : ((cs.toList.drop k).take 1)[0]? = some (.string ⟨(f k).toArray⟩) := by rw [e1]; rfl
        simpa using this
      simpa using h5
    simpa using h4
  exact ⟨cell_lt (hc 0 hn), hc⟩
def nmSU : Nat → List UInt8 | 0 => [114, 101, 115, 101, 116] | 1 => [110, 109, 105] | 2 => [105, 114, 113, 49] | _ => [105, 114, 113, 50]
theorem nmSU_eq : ∀ k : Nat, k < 4 → (⟨(nmSU k).toArray⟩ : ByteArray) = nmN k := fun k hk => by
  match k, hk with
  | 0, _ | 1, _ | 2, _ | 3, _ => rfl
  | k + 4, h => exact absurd h (by omega)
theorem gPow : Tryd.prog.globalNamed "internal/strconv.uint64pow10" = some 1 := by kernel_rfl
theorem tPow : (Tryd.prog.globals[1]?).map (·.type) = some 202 := by kernel_rfl
theorem gNmS : Tryd.prog.globalNamed "gannet/script.names" = some 0 := by kernel_rfl
theorem tNmS : (Tryd.prog.globals[0]?).map (·.type) = some 109 := by kernel_rfl
abbrev laid2 : List (String × DataW Unit) := [("math/bits.deBruijn32tab", Rows.laid_math_bits_deBruijn32tab), ("math/bits.deBruijn64tab", Rows.laid_math_bits_deBruijn64tab), ("internal/strconv.uint64pow10", Rows.laid_internal_strconv_uint64pow10), ("gannet/script.names", Rows.laid_gannet_script_names)]
theorem of_laid {W : World} (h : laidMet Tryd.prog laid2 W) : Tabs W := by
  obtain ⟨ps, ⟨g0, t0, cs0, f0, p0, q0, hg0, ht0, hv0, hd0, ⟨g1, t1, cs1, f1, p1, q1, hg1, ht1, hv1, hd1, ⟨g2, t2, cs2, f2, p2, q2, hg2, ht2, hv2, hd2, ⟨g3, t3, cs3, f3, p3, q3, hg3, ht3, hv3, hd3, _, _⟩, _⟩, _⟩, _⟩, _, _⟩ := h
  obtain rfl := Option.some.inj (gPow.symm.trans hg2)
  obtain rfl := Option.some.inj (tPow.symm.trans ht2)
  obtain rfl := Option.some.inj (gNmS.symm.trans hg3)
  obtain rfl := Option.some.inj (tNmS.symm.trans ht3)
  have c4 : Tryd.prog.cellsOf 9 = 1 := by kernel_rfl
  have a := tabs_of (f := nmSU) gNmS Tryd.underlying109 Tryd.underlying9 c4 (by decide) hv3 hd3
  have b : cs2.toList = Lib.pow10Tab.map fun z => Value.int .u64 z := Lib.cells_of_tab (k := .u64) (zs := Lib.pow10Tab) Tryd.underlying202 Tryd.underlying170 (by kernel_rfl) (by kernel_rfl) hd2
  refine ⟨⟨a.1, fun k hk => by rw [a.2 k hk, nmSU_eq k hk]⟩, ?_⟩
  unfold pow10T Lib.TabIs
  rw [hv2, ← b]
end Go.Proofs.YtnhnphifhkkboaaDoor
