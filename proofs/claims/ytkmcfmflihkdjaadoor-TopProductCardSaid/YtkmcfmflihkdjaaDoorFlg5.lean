/-
  Flags: what must be whatever is asked; the letters' table when the call begins.
-/
import Derived.Test.YtkmcfmflihkdjaaDoorFlg4
import Derived.Test.YtkmcfmflihkdjaaDoorG3
import Derived.Test.YtkmcfmflihkdjaaDoorRows
import Derived.ProofKit
import Derived.LaidMore
import Derived.OpenShut
import Derived.Stop.Joined
import Derived.Lay
namespace Go.Proofs.YtkmcfmflihkdjaaDoor
open Go.ChangeShapes Go.WideShapes Go.ChangeAt Go.RowKit
set_option linter.unusedVariables false
set_option linter.unusedSimpArgs false
set_option maxRecDepth 100000
theorem q20_text {w : World} (h : Tab8 w 0) : Calls Tryd.prog 10 #[.int .u8 129] w fun e w' => e = .returned (.string ⟨#[78, 46, 46, 46, 46, 46, 46, 67]⟩) ∧ Below w.heap.size w w' := asV (ftext_any h 129) (by kernel_rfl)
theorem q20_result {w : World} : Calls Tryd.prog 17 #[.int .u8 0, .int .u8 128] w fun e w' => e = .returned (.int .u8 128) ∧ w = w' := asV (fresult_any 0 128 w) (by kernel_rfl)
theorem q20_of {w : World} : Calls Tryd.prog 13 #[.int .u8 1] w fun e w' => e = .returned (.agg #[.bool false, .bool false, .bool false, .bool false, .bool false, .bool false, .bool false, .bool true]) ∧ Below w.heap.size w w' := asV (fof_any 1 w) (by kernel_rfl)
theorem q20_is {w : World} : Calls Tryd.prog 6 #[.int .u8 4, .int .u8 4] w fun e w' => e = .returned (.bool true) ∧ Below w.heap.size w w' := asV (fis_any 4 4 w) (by kernel_rfl)
theorem q20_set {w : World} : Calls Tryd.prog 18 #[.int .u8 0, .int .u8 8, .bool true] w fun e w' => e = .returned (.int .u8 8) ∧ w = w' := asV (fset_any 0 8 true w) (by kernel_rfl)
theorem tab8_of {P : Program} {w : World} {nm : String} {g n fuel : Nat} {t e : TypeId} {cs : Array Value} {f : Nat → Int} {p : List MemPlace} (hg : P.globalNamed nm = some g) (ht : P.underlying t = some (.array n e)) (he : P.underlying e = some (.int .u8)) (ce : P.cellsOf e = 1) (hn : 0 < n)
    (hv : w.var? P nm = some cs) (hd : DataW.trod (fun _ => ()) P w 0 (fun _ => true) false fuel t cs.toList = some (.agg ((List.range n).map fun i => .lit (.int .u8 (f i))), p)) : g < w.heap.size ∧ ∀ k, k < n → w.cell? ⟨g, k, none⟩ = some (.int .u8 (f k)) := by
  obtain ⟨xs, m, rfl, hx, hl, hxn, hel⟩ := DataW.trod_array ht hd
  have hc : ∀ k, k < n → w.cell? ⟨g, k, none⟩ = some (.int .u8 (f k)) := fun k hk => by
    have h1 := hel k hk
    have hxk : xs[k]? = some (xs[k]'(by omega)) := List.getElem?_eq_getElem (by omega)
    rw [hxk, ce, Nat.mul_one] at h1
    obtain ⟨z, e1, e2, _⟩ := DataW.trod_int he h1
    have e3 : (xs[k]'(by omega)).1 = .lit (.int .u8 (f k)) := by
      have h2 : (xs.map (·.1))[k]? = some (xs[k]'(by omega)).1 := by rw [List.getElem?_map, hxk]; rfl
      have h3 : (xs.map (·.1)) = (List.range n).map fun i => .lit (.int .u8 (f i)) := by
        simp only [Prod.mk.injEq, DataW.agg.injEq] at hx
        exact hx.1.symm
      rw [h3] at h2
      simpa [hk] using h2.symm
    rw [e2] at e3
    simp only [DataW.lit.injEq, Lit.int.injEq, true_and] at e3
    rw [e3] at e1
    have := World.var?_cell hg hv k
    rw [this]
    have h4 : cs.toList[k]? = some (.int .u8 (f k)) := by
      have h5 : (cs.toList.drop k)[0]? = some (.int .u8 (f k)) := by
        have : ((cs.toList.drop k).take 1)[0]? = some (.int .u8 (f k)) := by rw [e1]; rfl
        simpa using this
      simpa using h5
    simpa using h4
  exact ⟨cell_lt (hc 0 hn), hc⟩
def Tabs (w : World) : Prop := Tab8 w 0
theorem gLet : Tryd.prog.globalNamed "gannet/flags.letters" = some 0 := by kernel_rfl
theorem tLet : (Tryd.prog.globals[0]?).map (·.type) = some 40 := by kernel_rfl
abbrev laid2 : List (String × DataW Unit) := [("gannet/flags.letters", Rows.laid_gannet_flags_letters)]
theorem of_laid {W : World} (h : laidMet Tryd.prog laid2 W) : Tabs W := by
  obtain ⟨ps, ⟨g0, t0, cs0, f0, p0, q0, hg0, ht0, hv0, hd0, _, _⟩, _, _⟩ := h
  obtain rfl := Option.some.inj (gLet.symm.trans hg0)
  obtain rfl := Option.some.inj (tLet.symm.trans ht0)
  have c3 : Tryd.prog.cellsOf 5 = 1 := by kernel_rfl
  exact tab8_of (f := ltr) gLet Tryd.underlying40 Tryd.underlying5 c3 (by decide) hv0 hd0
end Go.Proofs.YtkmcfmflihkdjaaDoor
