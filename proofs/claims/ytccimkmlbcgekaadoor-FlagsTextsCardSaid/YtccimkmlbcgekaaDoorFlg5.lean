/-
  Flags: what must be whatever is asked; the letters' table when the call begins.
-/
import Derived.Test.YtccimkmlbcgekaaDoorFlg4
import Derived.Test.YtccimkmlbcgekaaDoorG3
import Derived.Test.YtccimkmlbcgekaaDoorRows
import Derived.ProofKit
import Derived.LaidMore
import Derived.OpenShut
import Derived.Stop.Joined
import Derived.Lay
namespace Go.Proofs.YtccimkmlbcgekaaDoor
open Go.ChangeShapes Go.WideShapes Go.ChangeAt Go.RowKit
set_option linter.unusedVariables false
set_option linter.unusedSimpArgs false
set_option maxRecDepth 100000
theorem q20_begun {w : World} : Calls Tryd.prog 31 #[.int .u8 32] w fun e w' => e = .returned (.tuple #[.int .u8 0, .bool true]) ∧ Below w.heap.size w w' := asV (fbegun_any 32 w) (by kernel_rfl)
theorem q20_read {w : World} (h : Tab8 w 0) : Calls Tryd.prog 28 #[.string ⟨#[78, 46, 46, 46, 46, 46, 46, 67]⟩] w fun e w' => e = .returned (.tuple #[.int .u8 129, .int .i64 0]) ∧ Below w.heap.size w w' := asV (fread_any h ⟨#[78, 46, 46, 46, 46, 46, 46, 67]⟩) (by kernel_rfl)
theorem q20_text {w : World} (h : Tab8 w 0) : Calls Tryd.prog 27 #[.int .u8 129] w fun e w' => e = .returned (.string ⟨#[78, 46, 46, 46, 46, 46, 46, 67]⟩) ∧ Below w.heap.size w w' := asV (ftext_any h 129) (by kernel_rfl)
theorem q20_result {w : World} : Calls Tryd.prog 32 #[.int .u8 0, .int .u8 128] w fun e w' => e = .returned (.int .u8 128) ∧ w = w' := asV (fresult_any 0 128 w) (by kernel_rfl)
theorem q20_pushed {w : World} : Calls Tryd.prog 34 #[.int .u8 32, .bool true] w fun e w' => e = .returned (.int .u8 16) ∧ w = w' := asV (fpushed_any 32 true w) (by kernel_rfl)
theorem q20_of {w : World} : Calls Tryd.prog 19 #[.int .u8 1] w fun e w' => e = .returned (.agg #[.bool false, .bool false, .bool false, .bool false, .bool false, .bool false, .bool false, .bool true]) ∧ Below w.heap.size w w' := asV (fof_any 1 w) (by kernel_rfl)
theorem q20_byte {w : World} : Calls Tryd.prog 21 #[.agg #[.bool true, .bool false, .bool false, .bool false, .bool false, .bool false, .bool false, .bool false]] w fun e w' => e = .returned (.int .u8 128) ∧ Below w.heap.size w w' := asV (fbyte_any (fun i => i == 0) w) (by kernel_rfl)
theorem q20_is {w : World} : Calls Tryd.prog 25 #[.int .u8 4, .int .u8 4] w fun e w' => e = .returned (.bool true) ∧ Below w.heap.size w w' := asV (fis_any 4 4 w) (by kernel_rfl)
theorem q20_set {w : World} : Calls Tryd.prog 24 #[.int .u8 0, .int .u8 8, .bool true] w fun e w' => e = .returned (.int .u8 8) ∧ w = w' := asV (fset_any 0 8 true w) (by kernel_rfl)
theorem q20_pulled {w : World} : Calls Tryd.prog 36 #[.int .u8 48] w fun e w' => e = .returned (.int .u8 32) ∧ w = w' := asV (fpulled_any 48 w) (by kernel_rfl)
theorem q20_entered {w : World} : Calls Tryd.prog 38 #[.int .u8 40] w fun e w' => e = .returned (.int .u8 4) ∧ w = w' := asV (fentered_any 40 w) (by kernel_rfl)
theorem q20_goes {w : World} : Calls Tryd.prog 26 #[.int .u8 2, .int .u8 2, .bool true] w fun e w' => e = .returned (.bool true) ∧ Below w.heap.size w w' := asV (fgoes_any 2 2 true w) (by kernel_rfl)
set_option maxHeartbeats 8000000 in
theorem live20 {w : World} (hT : Tab8 w 0) : Calls Tryd.prog 18 #[] w fun e w' => e = .returned (.bool true) ∧ Below w.heap.size w w' := by
  have HT0 := Lib.hid hT
  have HB0 := Lib.hid (Below.refl w.heap.size w)
  have hfld : ∀ W : World, (Instr.field 42 (.agg #[.bool false, .bool false, .bool false, .bool false, .bool false, .bool false, .bool false, .bool true]) 7).run Tryd.prog W = .ok (.bool true) W := fun W => by kernel_rfl
  clear hT
  go_enter Tryd.func18, Tryd.ntmps18
  go_wp2_with fail
  refine (q20_begun).mono ?_
  rintro e w1 ⟨rfl, b⟩
  have HT1 := Lib.hid (HT0.out.below b)
  have HB1 := Lib.hid (HB0.out.trans (b.mono HB0.out.size))
  clear b
  go_wp2_with fail
  refine (q20_read HT1.out).mono ?_
  rintro e w2 ⟨rfl, b⟩
  have HT2 := Lib.hid (HT1.out.below b)
  have HB2 := Lib.hid (HB1.out.trans (b.mono HB1.out.size))
  clear b
  go_wp2_with fail
  refine (q20_text HT2.out).mono ?_
  rintro e w3 ⟨rfl, b⟩
  have HT3 := Lib.hid (HT2.out.below b)
  have HB3 := Lib.hid (HB2.out.trans (b.mono HB2.out.size))
  clear b
  go_wp2_with fail
  refine (q20_result).mono ?_
  rintro e w' ⟨rfl, rfl⟩
  go_wp2_with fail
  refine (q20_pushed).mono ?_
  rintro e w' ⟨rfl, rfl⟩
  go_wp2_with fail
  refine (q20_of).mono ?_
  rintro e w4 ⟨rfl, b⟩
  have HT4 := Lib.hid (HT3.out.below b)
  have HB4 := Lib.hid (HB3.out.trans (b.mono HB3.out.size))
  clear b
  go_wp2_with fail
  refine (q20_byte).mono ?_
  rintro e w5 ⟨rfl, b⟩
  have HT5 := Lib.hid (HT4.out.below b)
  have HB5 := Lib.hid (HB4.out.trans (b.mono HB4.out.size))
  clear b
  go_wp2_with fail
  refine (q20_is).mono ?_
  rintro e w6 ⟨rfl, b⟩
  have HT6 := Lib.hid (HT5.out.below b)
  have HB6 := Lib.hid (HB5.out.trans (b.mono HB5.out.size))
  clear b
  go_wp2_with fail
  refine (q20_set).mono ?_
  rintro e w' ⟨rfl, rfl⟩
  go_wp2_with fail
  refine (q20_pulled).mono ?_
  rintro e w' ⟨rfl, rfl⟩
  go_wp2_with fail
  refine (q20_entered).mono ?_
  rintro e w' ⟨rfl, rfl⟩
  go_wp2_with fail
  refine (q20_goes).mono ?_
  rintro e w7 ⟨rfl, b⟩
  have HT7 := Lib.hid (HT6.out.below b)
  have HB7 := Lib.hid (HB6.out.trans (b.mono HB6.out.size))
  clear b
  go_wp2_with fail
  go_ret
  exact ⟨rfl, HB7.out⟩
theorem tab8_of {P : Program} {w : World} {nm : String} {g n fuel : Nat} {t e : TypeId} {cs : Array Value} {f : Nat → Int} {p : List MemPlace} (hg : P.globalNamed nm = some g) (ht : P.underlying t = some (.array n e)) (he : P.underlying e = some (.int .u8)) (ce : P.cellsOf e = 1) (hn : 0 < n)
    (hv : w.var? P nm = some cs) (hd : DataW.trod (fun _ => ()) P w 0 (fun _ => true) false fuel t cs.toList = some (.agg ((List.range n).map fun i => .lit (.int .u8 (f i))), p)) : g < w.heap.size ∧ ∀ k, k < n → w.cell? ⟨g, k, none⟩ = some (.int .u8 (f k)) := by
  obtain ⟨xs, m, rfl, hx, hl, hxn, hel⟩ := DataW.trod_array ht hd
  have hc : ∀ k, k < n → w.cell? ⟨g, k, none⟩ = some (.int .u8 (f k)) := fun k hk => by
    have h1 := hel k hk
    have hxk : xs[k]? = some (xs[k]'(by omega)) := List.getElem?_eq_getElem (by omega)
    rw [hxk, ce, Nat.mul_one] at h1
    obtain ⟨z, e1, e2, _⟩ := DataW.trod_int he h1
    have e3 : (xs[k]'(by omega)).1 = .lit (.int .u8 (f k)) := by
      have h2 : (xs.map (·.1))[k]? = some (xs[k]'(by omega)).1 := by rw [List.getElem?_map, hxk]; rfl
      have h3 : (xs.map (·.1)) = (List.range n).map fun i => .lit (.int .u8 (f i)) := by
        simp only [Prod.mk.injEq, DataW.agg.injEq] at hx
        exact hx.1.symm
      rw [h3] at h2
      simpa [hk] using h2.symm
    rw [e2] at e3
    simp only [DataW.lit.injEq, Lit.int.injEq, true_and] at e3
    rw [e3] at e1
    have := World.var?_cell hg hv k
    rw [this]
    have h4 : cs.toList[k]? = some (.int .u8 (f k)) := by
      have h5 : (cs.toList.drop k)[0]? = some (.int .u8 (f k)) := by
        have : ((cs.toList.drop k).take 1)[0]? = some (.int .u8 (f k)) := by rw [e1]; rfl
        simpa using this
      simpa using h5
    simpa using h4
  exact ⟨cell_lt (hc 0 hn), hc⟩
def Tabs (w : World) : Prop := Tab8 w 0
theorem gLet : Tryd.prog.globalNamed "gannet/flags.letters" = some 0 := by kernel_rfl
theorem tLet : (Tryd.prog.globals[0]?).map (·.type) = some 22 := by kernel_rfl
abbrev laid2 : List (String × DataW Unit) := [("gannet/flags.letters", Rows.laid_gannet_flags_letters)]
theorem of_laid {W : World} (h : laidMet Tryd.prog laid2 W) : Tabs W := by
  obtain ⟨ps, ⟨g0, t0, cs0, f0, p0, q0, hg0, ht0, hv0, hd0, _, _⟩, _, _⟩ := h
  obtain rfl := Option.some.inj (gLet.symm.trans hg0)
  obtain rfl := Option.some.inj (tLet.symm.trans ht0)
  have c3 : Tryd.prog.cellsOf 5 = 1 := by kernel_rfl
  exact tab8_of (f := ltr) gLet Tryd.underlying22 Tryd.underlying5 c3 (by decide) hv0 hd0
end Go.Proofs.YtccimkmlbcgekaaDoor
