/-
  What the package-level table of mmu holds when the call begins: out of the row's condition.
-/
import Derived.Test.YtccimkmlbcgekaaDoorRows
import Derived.Test.YtccimkmlbcgekaaDoorMmu8
import Derived.ProofKit
import Derived.LaidMore
import Derived.OpenShut
import Derived.Stop.Joined
import Derived.Lay
namespace Go.Proofs.YtccimkmlbcgekaaDoor
open Go.ChangeShapes Go.WideShapes Go.ChangeAt Go.RowKit
set_option linter.unusedVariables false
set_option maxRecDepth 100000
theorem tab16_of {P : Program} {w : World} {nm : String} {g n fuel : Nat} {t e : TypeId} {cs : Array Value} {f : Nat → Int} {p : List MemPlace} (hg : P.globalNamed nm = some g) (ht : P.underlying t = some (.array n e)) (he : P.underlying e = some (.int .u16)) (ce : P.cellsOf e = 1) (hn : 0 < n)
    (hv : w.var? P nm = some cs) (hd : DataW.trod (fun _ => ()) P w 0 (fun _ => true) false fuel t cs.toList = some (.agg ((List.range n).map fun i => .lit (.int .u16 (f i))), p)) : Tab16 w g n f := by
  obtain ⟨xs, m, rfl, hx, hl, hxn, hel⟩ := DataW.trod_array ht hd
  have hc : ∀ k, k < n → w.cell? ⟨g, k, none⟩ = some (.int .u16 (f k)) := fun k hk => by
    have h1 := hel k hk
    have hxk : xs[k]? = some (xs[k]'(by omega)) := List.getElem?_eq_getElem (by omega)
    rw [hxk, ce, Nat.mul_one] at h1
    obtain ⟨z, e1, e2, _⟩ := DataW.trod_int he h1
    have e3 : (xs[k]'(by omega)).1 = .lit (.int .u16 (f k)) := by
      have h2 : (xs.map (·.1))[k]? = some (xs[k]'(by omega)).1 := by rw [List.getElem?_map, hxk]; rfl
      have h3 : (xs.map (·.1)) = (List.range n).map fun i => .lit (.int .u16 (f i)) := by
        simp only [Prod.mk.injEq, DataW.agg.injEq] at hx
        exact hx.1.symm
      rw [h3] at h2
      simpa [hk] using h2.symm
    rw [e2] at e3
    simp only [DataW.lit.injEq, Lit.int.injEq, true_and] at e3
    rw [e3] at e1
    have := World.var?_cell hg hv k
    rw [this]
    have h4 : cs.toList[k]? = some (.int .u16 (f k)) := by
      have h5 : (cs.toList.drop k)[0]? = some (.int .u16 (f k)) := by
        have : ((cs.toList.drop k).take 1)[0]? = some (.int .u16 (f k)) := by rw [e1]; rfl
        simpa using this
      simpa using h5
    simpa using h4
  exact ⟨cell_lt (hc 0 hn), hc⟩
def Tabs (w : World) : Prop := Tab16 w 1 3 prt
theorem gPor : Tryd.prog.globalNamed "gannet/mmu.ports" = some 1 := by kernel_rfl
theorem tPor : (Tryd.prog.globals[1]?).map (·.type) = some 79 := by kernel_rfl
abbrev laid2 : List (String × DataW Unit) := [("gannet/mmu.ports", Rows.laid_gannet_mmu_ports)]
theorem of_laid {W : World} (h : laidMet Tryd.prog laid2 W) : Tabs W := by
  obtain ⟨ps, ⟨g0, t0, cs0, f0, p0, q0, hg0, ht0, hv0, hd0, _, _⟩, _, _⟩ := h
  obtain rfl := Option.some.inj (gPor.symm.trans hg0)
  obtain rfl := Option.some.inj (tPor.symm.trans ht0)
  have c3 : Tryd.prog.cellsOf 35 = 1 := by kernel_rfl
  exact tab16_of gPor Tryd.underlying79 Tryd.underlying35 c3 (by decide) hv0 hd0
end Go.Proofs.YtccimkmlbcgekaaDoor
