/-
  What the two package-level tables hold when the call begins: out of the row's condition.
-/
import Derived.Test.YtaamfcbpelbboaaDoorRows
import Derived.Test.YtaamfcbpelbboaaDoorMix8
import Derived.ProofKit
import Derived.LaidMore
import Derived.OpenShut
import Derived.Stop.Joined
import Derived.Lay
namespace Go.Proofs.YtaamfcbpelbboaaDoor
open Go.ChangeShapes Go.WideShapes Go.ChangeAt Go.RowKit
set_option linter.unusedVariables false
set_option maxRecDepth 100000
theorem tab_of {P : Program} {w : World} {nm : String} {g n fuel : Nat} {t e : TypeId} {cs : Array Value} {f : Nat → Int} {p : List MemPlace} (hg : P.globalNamed nm = some g) (ht : P.underlying t = some (.array n e)) (he : P.underlying e = some (.int .i64)) (ce : P.cellsOf e = 1) (hn : 0 < n)
    (hv : w.var? P nm = some cs) (hd : DataW.trod (fun _ => ()) P w 0 (fun _ => true) false fuel t cs.toList = some (.agg ((List.range n).map fun i => .lit (.int .i64 (f i))), p)) : TabAt w g n f := by
  obtain ⟨xs, m, rfl, hx, hl, hxn, hel⟩ := DataW.trod_array ht hd
  have hc : ∀ k, k < n → w.cell? ⟨g, k, none⟩ = some (.int .i64 (f k)) := fun k hk => by
    have h1 := hel k hk
    have hxk : xs[k]? = some (xs[k]'(by omega)) := List.getElem?_eq_getElem (by omega)
    rw [hxk, ce, Nat.mul_one] at h1
    obtain ⟨z, e1, e2, _⟩ := DataW.trod_int he h1
    have e3 : (xs[k]'(by omega)).1 = .lit (.int .i64 (f k)) := by
      have h2 : (xs.map (·.1))[k]? = some (xs[k]'(by omega)).1 := by rw [List.getElem?_map, hxk]; rfl
      have h3 : (xs.map (·.1)) = (List.range n).map fun i => .lit (.int .i64 (f i)) := by
        simp only [Prod.mk.injEq, DataW.agg.injEq] at hx
        exact hx.1.symm
      rw [h3] at h2
      simpa [hk] using h2.symm
    rw [e2] at e3
    simp only [DataW.lit.injEq, Lit.int.injEq, true_and] at e3
    rw [e3] at e1
    have := World.var?_cell hg hv k
    rw [this]
    have h4 : cs.toList[k]? = some (.int .i64 (f k)) := by
      have h5 : (cs.toList.drop k)[0]? = some (.int .i64 (f k)) := by
        have : ((cs.toList.drop k).take 1)[0]? = some (.int .i64 (f k)) := by rw [e1]; rfl
        simpa using this
      simpa using h5
    simpa using h4
  exact ⟨cell_lt (hc 0 hn), hc⟩
theorem gPow : Tryd.prog.globalNamed "gannet/mix.powers" = some 0 := by kernel_rfl
theorem gDep : Tryd.prog.globalNamed "gannet/psg.depths" = some 1 := by kernel_rfl
theorem tPow : (Tryd.prog.globals[0]?).map (·.type) = some 57 := by kernel_rfl
theorem tDep : (Tryd.prog.globals[1]?).map (·.type) = some 57 := by kernel_rfl
abbrev laid2 : List (String × DataW Unit) := [("gannet/psg.depths", Rows.laid_gannet_psg_depths), ("gannet/mix.powers", Rows.laid_gannet_mix_powers)]
theorem of_laid {W : World} (h : laidMet Tryd.prog laid2 W) : Tabs W := by
  obtain ⟨ps, ⟨g0, t0, cs0, f0, p0, q0, hg0, ht0, hv0, hd0, ⟨g1, t1, cs1, f1, p1, q1, hg1, ht1, hv1, hd1, _, _⟩, _⟩, _, _⟩ := h
  obtain rfl := Option.some.inj (gDep.symm.trans hg0)
  obtain rfl := Option.some.inj (gPow.symm.trans hg1)
  obtain rfl := Option.some.inj (tDep.symm.trans ht0)
  obtain rfl := Option.some.inj (tPow.symm.trans ht1)
  have c3 : Tryd.prog.cellsOf 3 = 1 := by kernel_rfl
  exact ⟨tab_of gPow Tryd.underlying57 Tryd.underlying3 c3 (by decide) hv1 hd1, tab_of gDep Tryd.underlying57 Tryd.underlying3 c3 (by decide) hv0 hd0⟩
end Go.Proofs.YtaamfcbpelbboaaDoor
