/-
  Texts of these proofs, one behind the other: Laid14.
-/
import Derived.Test.YtnnfnjbfjgjgnaaDoorRows
import Derived.Test.YtnnfnjbfjgjgnaaDoorKST39
import Derived.Test.YtnnfnjbfjgjgnaaDoorKST01
import Derived.ProofKit
import Derived.LaidMore
import Derived.OpenShut
import Derived.Stop.Joined
import Derived.Lay
namespace Go.Proofs.YtnnfnjbfjgjgnaaDoor
open Go.ChangeShapes Go.WideShapes Go.ChangeAt Go.RowKit
set_option linter.unusedVariables false
set_option linter.unusedSimpArgs false
set_option maxRecDepth 100000
theorem tab8_of {P : Program} {w : World} {nm : String} {g n fuel : Nat} {t e : TypeId} {cs : Array Value} {f : Nat → Int} {p : List MemPlace} (hg : P.globalNamed nm = some g) (ht : P.underlying t = some (.array n e)) (he : P.underlying e = some (.int .u8)) (ce : P.cellsOf e = 1) (hn : 0 < n)
    (hv : w.var? P nm = some cs) (hd : DataW.trod (fun _ => ()) P w 0 (fun _ => true) false fuel t cs.toList = some (.agg ((List.range n).map fun i => .lit (.int .u8 (f i))), p)) : g < w.heap.size ∧ ∀ k, k < n → w.cell? ⟨g, k, none⟩ = some (.int .u8 (f k)) := by
  obtain ⟨xs, m, rfl, hx, hl, hxn, hel⟩ := DataW.trod_array ht hd
  have hc : ∀ k, k < n → w.cell? ⟨g, k, none⟩ = some (.int .u8 (f k)) := fun k hk => by
    have h1 := hel k hk
    have hxk : xs[k]? = some (xs[k]'(by omega)) := List.getElem?_eq_getElem (by omega)
    rw [hxk, ce, Nat.mul_one] at h1
    obtain ⟨z, e1, e2, _⟩ := DataW.trod_int he h1
    have e3 : (xs[k]'(by omega)).1 = .lit (.int .u8 (f k)) := by
      have h2 : (xs.map (·.1))[k]? = some (xs[k]'(by omega)).1 := by rw [List.getElem?_map, hxk]; rfl
      have h3 : (xs.map (·.1)) = (List.range n).map fun i => .lit (.int .u8 (f i)) := by
        simp only [Prod.mk.injEq, DataW.agg.injEq] at hx
        exact hx.1.symm
      rw [h3] at h2
      simpa [hk] using h2.symm
    rw [e2] at e3
    simp only [DataW.lit.injEq, Lit.int.injEq, true_and] at e3
    rw [e3] at e1
    have := World.var?_cell hg hv k
    rw [this]
    have h4 : cs.toList[k]? = some (.int .u8 (f k)) := by
      have h5 : (cs.toList.drop k)[0]? = some (.int .u8 (f k)) := by
        have : ((cs.toList.drop k).take 1)[0]? = some (.int .u8 (f k)) := by rw [e1]; rfl
        simpa using this
      simpa using h5
    simpa using h4
  exact ⟨cell_lt (hc 0 hn), hc⟩
theorem tabs_of {P : Program} {w : World} {nm : String} {g n fuel : Nat} {t e : TypeId} {cs : Array Value} {f : Nat → List UInt8} {p : List MemPlace} (hg : P.globalNamed nm = some g) (ht : P.underlying t = some (.array n e)) (he : P.underlying e = some .string) (ce : P.cellsOf e = 1) (hn : 0 < n)
    (hv : w.var? P nm = some cs) (hd : DataW.trod (fun _ => ()) P w 0 (fun _ => true) false fuel t cs.toList = some (.agg ((List.range n).map fun i => .lit (.string (f i))), p)) : g < w.heap.size ∧ ∀ k, k < n → w.cell? ⟨g, k, none⟩ = some (.string ⟨(f k).toArray⟩) := by
  obtain ⟨xs, m, rfl, hx, hl, hxn, hel⟩ := DataW.trod_array ht hd
  have hc : ∀ k, k < n → w.cell? ⟨g, k, none⟩ = some (.string ⟨(f k).toArray⟩) := fun k hk => by
    have h1 := hel k hk
    have hxk : xs[k]? = some (xs[k]'(by omega)) := List.getElem?_eq_getElem (by omega)
    rw [hxk, ce, Nat.mul_one] at h1
    obtain ⟨z, e1, e2, _⟩ := DataW.trod_string he h1
    have e3 : (xs[k]'(by omega)).1 = .lit (.string (f k)) := by
      have h2 : (xs.map (·.1))[k]? = some (xs[k]'(by omega)).1 := by rw [List.getElem?_map, hxk]; rfl
      have h3 : (xs.map (·.1)) = (List.range n).map fun i => .lit (.string (f i)) := by
        simp only [Prod.mk.injEq, DataW.agg.injEq] at hx
        exact hx.1.symm
      rw [h3] at h2
      simpa [hk] using h2.symm
    rw [e2] at e3
    simp only [DataW.lit.injEq, Lit.string.injEq] at e3
    have ez : z = ⟨(f k).toArray⟩ := by rw [← e3]
    rw [ez] at e1
    have := World.var?_cell hg hv k
    rw [this]
    have h4 : cs.toList[k]? = some (.string ⟨(f k).toArray⟩) := by
      have h5 : (cs.toList.drop k)[0]? = some (.string ⟨(f k).toArray⟩) := by
        have : ((cs.toList.drop k).take 1)[0]? = some (.string ⟨(f k).toArray⟩) := by rw [e1]; rfl
        simpa using this
      simpa using h5
    simpa using h4
  exact ⟨cell_lt (hc 0 hn), hc⟩
def nmU : Nat → List UInt8 | 0 => [65] | 1 => [88] | 2 => [89] | 3 => [83] | 4 => [80] | 5 => [80, 67] | 6 => [77, 48] | 7 => [77, 49] | 8 => [77, 50] | 9 => [77, 51] | 10 => [77, 52] | 11 => [77, 53] | 12 => [77, 54] | 13 => [77, 55] | 14 => [76] | _ => [70]
def ahU : Nat → List UInt8 | 0 => [65, 61] | 1 => [32, 88, 61] | 2 => [32, 89, 61] | 3 => [32, 83, 61] | 4 => [32, 80, 61] | 5 => [32, 80, 67, 61] | 6 => [32, 77, 61] | 7 => [46] | 8 => [46] | 9 => [46] | 10 => [46] | 11 => [46] | 12 => [46] | 13 => [46] | 14 => [32, 76, 61] | _ => [32]
theorem nmU_eq : ∀ k : Nat, k < 16 → (⟨(nmU k).toArray⟩ : ByteArray) = nmS k := fun k hk => by
  match k, hk with
  | 0, _ | 1, _ | 2, _ | 3, _ | 4, _ | 5, _ | 6, _ | 7, _ | 8, _ | 9, _ | 10, _ | 11, _ | 12, _ | 13, _ | 14, _ | 15, _ => rfl
  | k + 16, h => exact absurd h (by omega)
theorem ahU_eq : ∀ k : Nat, k < 16 → (⟨(ahU k).toArray⟩ : ByteArray) = ahS k := fun k hk => by
  match k, hk with
  | 0, _ | 1, _ | 2, _ | 3, _ | 4, _ | 5, _ | 6, _ | 7, _ | 8, _ | 9, _ | 10, _ | 11, _ | 12, _ | 13, _ | 14, _ | 15, _ => rfl
  | k + 16, h => exact absurd h (by omega)
theorem gLet : Tryd.prog.globalNamed "gannet/flags.letters" = some 2 := by kernel_rfl
theorem tLet : (Tryd.prog.globals[2]?).map (·.type) = some 23 := by kernel_rfl
theorem gNam : Tryd.prog.globalNamed "gannet/state.names" = some 1 := by kernel_rfl
theorem tNam : (Tryd.prog.globals[1]?).map (·.type) = some 61 := by kernel_rfl
theorem gAhe : Tryd.prog.globalNamed "gannet/state.ahead" = some 0 := by kernel_rfl
theorem tAhe : (Tryd.prog.globals[0]?).map (·.type) = some 61 := by kernel_rfl
abbrev laid2 : List (String × DataW Unit) := [("gannet/flags.letters", Rows.laid_gannet_flags_letters), ("gannet/state.names", Rows.laid_gannet_state_names), ("gannet/state.ahead", Rows.laid_gannet_state_ahead)]
theorem of_laid {W : World} (h : laidMet Tryd.prog laid2 W) : Tabs W := by
  obtain ⟨ps, ⟨g0, t0, cs0, f0, p0, q0, hg0, ht0, hv0, hd0, ⟨g1, t1, cs1, f1, p1, q1, hg1, ht1, hv1, hd1, ⟨g2, t2, cs2, f2, p2, q2, hg2, ht2, hv2, hd2, _, _⟩, _⟩, _⟩, _, _⟩ := h
  obtain rfl := Option.some.inj (gLet.symm.trans hg0)
  obtain rfl := Option.some.inj (tLet.symm.trans ht0)
  obtain rfl := Option.some.inj (gNam.symm.trans hg1)
  obtain rfl := Option.some.inj (tNam.symm.trans ht1)
  obtain rfl := Option.some.inj (gAhe.symm.trans hg2)
  obtain rfl := Option.some.inj (tAhe.symm.trans ht2)
  have c3 : Tryd.prog.cellsOf 5 = 1 := by kernel_rfl
  have c4 : Tryd.prog.cellsOf 9 = 1 := by kernel_rfl
  have a := tab8_of (f := ltr) gLet Tryd.underlying23 Tryd.underlying5 c3 (by decide) hv0 hd0
  have b := tabs_of (f := nmU) gNam Tryd.underlying61 Tryd.underlying9 c4 (by decide) hv1 hd1
  have c := tabs_of (f := ahU) gAhe Tryd.underlying61 Tryd.underlying9 c4 (by decide) hv2 hd2
  exact ⟨⟨b.1, fun k hk => by rw [b.2 k hk, nmU_eq k hk]⟩, ⟨c.1, fun k hk => by rw [c.2 k hk, ahU_eq k hk]⟩, a⟩
end Go.Proofs.YtnnfnjbfjgjgnaaDoor
