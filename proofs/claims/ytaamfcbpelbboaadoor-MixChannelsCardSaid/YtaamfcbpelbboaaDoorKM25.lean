/-
  Texts of these proofs, one behind the other: Laid8, Noi8.
-/
import Derived.Test.YtaamfcbpelbboaaDoorRows
import Derived.Test.YtaamfcbpelbboaaDoorKM24
import Derived.ProofKit
import Derived.LaidMore
import Derived.OpenShut
import Derived.Stop.Joined
import Derived.Lay
import Derived.Test.YtaamfcbpelbboaaDoorKM10
namespace Go.Proofs.YtaamfcbpelbboaaDoor
open Go.ChangeShapes Go.WideShapes Go.ChangeAt Go.RowKit
set_option linter.unusedVariables false
set_option maxRecDepth 100000
theorem tab_of {P : Program} {w : World} {nm : String} {g n fuel : Nat} {t e : TypeId} {cs : Array Value} {f : Nat → Int} {p : List MemPlace} (hg : P.globalNamed nm = some g) (ht : P.underlying t = some (.array n e)) (he : P.underlying e = some (.int .i64)) (ce : P.cellsOf e = 1) (hn : 0 < n)
    (hv : w.var? P nm = some cs) (hd : DataW.trod (fun _ => ()) P w 0 (fun _ => true) false fuel t cs.toList = some (.agg ((List.range n).map fun i => .lit (.int .i64 (f i))), p)) : TabAt w g n f := by
  obtain ⟨xs, m, rfl, hx, hl, hxn, hel⟩ := DataW.trod_array ht hd
  have hc : ∀ k, k < n → w.cell? ⟨g, k, none⟩ = some (.int .i64 (f k)) := fun k hk => by
    have h1 := hel k hk
    have hxk : xs[k]? = some (xs[k]'(by omega)) := List.getElem?_eq_getElem (by omega)
    rw [hxk, ce, Nat.mul_one] at h1
    obtain ⟨z, e1, e2, _⟩ := DataW.trod_int he h1
    have e3 : (xs[k]'(by omega)).1 = .lit (.int .i64 (f k)) := by
      have h2 : (xs.map (·.1))[k]? = some (xs[k]'(by omega)).1 := by rw [List.getElem?_map, hxk]; rfl
      have h3 : (xs.map (·.1)) = (List.range n).map fun i => .lit (.int .i64 (f i)) := by
        simp only [Prod.mk.injEq, DataW.agg.injEq] at hx
        exact hx.1.symm
      rw [h3] at h2
      simpa [hk] using h2.symm
    rw [e2] at e3
    simp only [DataW.lit.injEq, Lit.int.injEq, true_and] at e3
    rw [e3] at e1
    have := World.var?_cell hg hv k
    rw [this]
    have h4 : cs.toList[k]? = some (.int .i64 (f k)) := by
      have h5 : (cs.toList.drop k)[0]? = some (.int .i64 (f k)) := by
        have : ((cs.toList.drop k).take 1)[0]? = some (.int .i64 (f k)) := by rw [e1]; rfl
        simpa using this
      simpa using h5
    simpa using h4
  exact ⟨cell_lt (hc 0 hn), hc⟩
theorem gPow : Tryd.prog.globalNamed "gannet/mix.powers" = some 0 := by kernel_rfl
theorem gDep : Tryd.prog.globalNamed "gannet/psg.depths" = some 1 := by kernel_rfl
theorem tPow : (Tryd.prog.globals[0]?).map (·.type) = some 57 := by kernel_rfl
theorem tDep : (Tryd.prog.globals[1]?).map (·.type) = some 57 := by kernel_rfl
abbrev laid2 : List (String × DataW Unit) := [("gannet/psg.depths", Rows.laid_gannet_psg_depths), ("gannet/mix.powers", Rows.laid_gannet_mix_powers)]
theorem of_laid {W : World} (h : laidMet Tryd.prog laid2 W) : Tabs W := by
  obtain ⟨ps, ⟨g0, t0, cs0, f0, p0, q0, hg0, ht0, hv0, hd0, ⟨g1, t1, cs1, f1, p1, q1, hg1, ht1, hv1, hd1, _, _⟩, _⟩, _, _⟩ := h
  obtain rfl := Option.some.inj (gDep.symm.trans hg0)
  obtain rfl := Option.some.inj (gPow.symm.trans hg1)
  obtain rfl := Option.some.inj (tDep.symm.trans ht0)
  obtain rfl := Option.some.inj (tPow.symm.trans ht1)
  have c3 : Tryd.prog.cellsOf 3 = 1 := by kernel_rfl
  exact ⟨tab_of gPow Tryd.underlying57 Tryd.underlying3 c3 (by decide) hv1 hd1, tab_of gDep Tryd.underlying57 Tryd.underlying3 c3 (by decide) hv0 hd0⟩
end Go.Proofs.YtaamfcbpelbboaaDoor
namespace Go.Proofs.YtaamfcbpelbboaaDoor
open Go.RowKit
set_option linter.unusedVariables false
set_option linter.unusedSimpArgs false
set_option maxRecDepth 100000
def tapN (k : Nat) : Nat := if k = 0 then 0 else if k = 1 then 1 else if k = 2 then 11 else if k = 3 then 12 else 17
def tapC : Array Value := #[.int .i64 0, .int .i64 1, .int .i64 11, .int .i64 12, .int .i64 17]
theorem tapC_at (k : Nat) (hk : k < 5) : tapC[k]? = some (.int .i64 (tapN k)) := by
  have : k = 0 ∨ k = 1 ∨ k = 2 ∨ k = 3 ∨ k = 4 := by omega
  rcases this with rfl | rfl | rfl | rfl | rfl <;> rfl
theorem tapN_le (k : Nat) : tapN k ≤ 17 := by unfold tapN; repeat' split
                                              all_goals omega
def tapS (s : Nat) : Nat → Nat
  | 0 => 0
  | k + 1 => tapS s k + s / 2 ^ tapN k % 2
theorem tapS_le (s k : Nat) : tapS s k ≤ k := by
  induction k with
  | zero => exact Nat.le_refl _
  | succ k ih => simp only [tapS]; omega
theorem half_next (s m : Nat) : s / 2 ^ (m + 1) = s / 2 ^ m / 2 := by rw [Nat.pow_succ, Nat.div_div_eq_div_mul]
def rnC (x : Nz) : Array Value := #[.int .u32 x.st, .int .i64 x.left, .int .u8 x.fr]
/-- In block r there is the reference's noise. -/
def RNZ (w : World) (r : Nat) (x : Nz) : Prop := Blk w r 87 (rnC x) ∧ x.ok
def RnR (r : Nat) (x : Nz) (w : World) (e : Ending) (w' : World) : Prop := e = .returned (.tuple #[]) ∧ RNZ w' r x ∧ Kp [r] w w'
def RnNewR (x : Nz) (w : World) (e : Ending) (w' : World) : Prop := e = .returned (.pointer (some ⟨w.heap.size, 0, none⟩)) ∧ RNZ w' w.heap.size x ∧ Below w.heap.size w w'
section
variable {w w' : World} {r : Nat} {x x' : Nz}
theorem RNZ.kp {L : List Nat} (h : RNZ w r x) (k : Kp L w w') (hL : r ∉ L) : RNZ w' r x := ⟨h.1.kp k hL, h.2⟩
theorem RNZ.keep {n : Nat} (h : RNZ w r x) (k : Below n w w') (hn : r < n) : RNZ w' r x := ⟨h.1.below k hn, h.2⟩
theorem RNZ.lt (h : RNZ w r x) : r < w.heap.size := h.1.lt
theorem RNZ.cells (h : RNZ w r x) : w.cell? ⟨r, 0, none⟩ = some (.int .u32 x.st) ∧ w.cell? ⟨r, 1, none⟩ = some (.int .i64 x.left) ∧ w.cell? ⟨r, 2, none⟩ = some (.int .u8 x.fr) := ⟨h.1.cell 0, h.1.cell 1, h.1.cell 2⟩
theorem RNZ.put {v : Value} {k : Nat} (h : RNZ w r x) (e : (rnC x).setIfInBounds k v = rnC x') (hs : x'.ok) : RNZ (w.setCell ⟨r, k, none⟩ v) r x' ∧ Kp [r] w (w.setCell ⟨r, k, none⟩ v) := by
  refine ⟨⟨?_, hs⟩, (Kp.refl _ _).setCell (.inl (by simp)) _⟩
  rw [← e]
  exact h.1.set_ k v
theorem rnlevel_any (h : RNZ w r x) :
    Calls Tryd.prog 50 #[.pointer (some ⟨r, 0, none⟩)] w fun e w' => e = .returned (.int .u8 (lvN x.st)) ∧ w = w' := by
  obtain ⟨c0, c1, c2⟩ := h.cells
  obtain ⟨⟨k0, k1⟩, _, _⟩ := h.2
  clear h
  rcases Nat.mod_two_eq_zero_or_one x.st with h1 | h1
  · have e1 : (x.st : Int) % 2 = 0 := by omega
    have e2 : lvN x.st = 0 := by unfold lvN; rw [if_neg (by omega)]
    rw [e2]
    go_enter Tryd.func50, Tryd.ntmps50
    go_wp2
    go_ret
    exact ⟨rfl, rfl⟩
  · have e1 : (x.st : Int) % 2 = 1 := by omega
    have e2 : lvN x.st = 31 := by unfold lvN; rw [if_pos h1]
    rw [e2]
    go_enter Tryd.func50, Tryd.ntmps50
    go_wp2
    go_ret
    exact ⟨rfl, rfl⟩
theorem rnnew_any (fr : Int) (w : World) (h0 : 0 ≤ fr) (h1 : fr ≤ 255) : Calls Tryd.prog 44 #[.int .u8 fr] w (RnNewR (Nz.new fr) w) := by
  go_enter Tryd.func44, Tryd.ntmps44
  go_wp2_with (go_at_call 52; refine (rperiod_any fr _ h0 h1).mono ?_; rintro e w' ⟨rfl, rfl⟩)
  go_ret
  exact ⟨rfl, ⟨Blk.new w _ _, Nz.new_ok h0 h1⟩, (Below.refl _ _).alloc (Nat.le_refl _) _⟩
end
end Go.Proofs.YtaamfcbpelbboaaDoor
