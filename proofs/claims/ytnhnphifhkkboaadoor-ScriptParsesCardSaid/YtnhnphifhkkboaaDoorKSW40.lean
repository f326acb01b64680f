/-
  Texts of these proofs, one behind the other: Sam1.
-/
import Derived.Test.YtnhnphifhkkboaaDoorProg
import Derived.Test.YtnhnphifhkkboaaDoorKSW01
import Derived.Test.YtnhnphifhkkboaaDoorKSW15
import Derived.WalkKit
import Derived.WalkSpells
import Derived.WalkLawsBesides
import Derived.BigQuiet
import Derived.Deep.QuietTactic
import Derived.Lib.Hide
namespace Go.Proofs.YtnhnphifhkkboaaDoor
open Go.RowKit
set_option linter.unusedVariables false
set_option linter.unusedSimpArgs false
set_option maxRecDepth 100000
theorem below_drewN' {B : Nat} {w w' : World} (h : Below B w w') (n : Nat) : Below B w (w'.drewN n) := ⟨h.os, h.tape, h.output, h.size, h.block⟩
theorem IRow.congr {w : World} {k : IntKind} {A : Option Addr} {n : Nat} {z z' : Nat → Int} (h : IRow w k A n z) (e : ∀ i, i < n → z i = z' i) : IRow w k A n z' := fun i hi => by
  obtain ⟨ad, h1, h2, h3, h4⟩ := h i hi
  rw [e i hi] at h3 h4
  exact ⟨ad, h1, h2, h3, h4⟩
set_option maxHeartbeats 2000000 in
theorem asame_yes {w : World} (A B : Option Addr) (n c d : Nat) (z : Nat → Int) (hn : n ≤ maxLen) (R : IRow w .u8 A n z) (Q : IRow w .u8 B n z) :
    Calls Tryd.prog 32 #[.slice A n c, .slice B n d] w fun e w' => e = .returned (.bool true) ∧ Below w.heap.size w w' := by
  unfold maxLen at hn
  have n0 : ((n : Int) != n) = false := by simp
  go_enter Tryd.func32, Tryd.ntmps32
  go_wp2_with fail
  clear n0
  go_loopw [5] (fun i wr => ∃ k : Nat, k ≤ n ∧ i = .int .i64 k ∧ wr.heap = w.heap ∧ Below w.heap.size w wr) (fun i _ => n - (intOf i).toNat)
  case atStart => exact ⟨0, by omega, rfl, rfl, Below.refl _ _⟩
  case round =>
    obtain ⟨k, hk, rfl, hh, hB⟩ := hrel
    have HH := Lib.hid hh
    clear hh
    by_cases hlt : k < n
    · obtain ⟨a1, rfl, _, x1, _⟩ := R k hlt
      obtain ⟨a2, rfl, _, x2, _⟩ := Q k hlt
      have x1' : wr.cell? (a1.add k) = _ := (World.cell?_of_block (by rw [HH.out])).trans x1
      have x2' : wr.cell? (a2.add k) = _ := (World.cell?_of_block (by rw [HH.out])).trans x2
      have NS : (z k != z k) = false := by simp
      clear x1 x2
      generalize z k = V at *
      go_wp2_with fail
      go_quiet (fail)
      go_wp2_with fail
      go_roundw
      case rel => exact ⟨k + 1, by omega, by go_num, HH.out, (below_drewN' hB _)⟩
      case measure => simp [intOf]; omega
    · obtain rfl : k = n := by omega
      go_wp2_with fail
      go_ret
      exact ⟨rfl, hB⟩
/-- Two rows of the same bytes, each as it is had. -/
theorem asame2 {w : World} {A B : Option Addr} {n c d : Nat} {z z' : Nat → Int} (hn : n ≤ maxLen) (R : IRow w .u8 A n z) (Q : IRow w .u8 B n z') (e : ∀ i, i < n → z i = z' i) :
    Calls Tryd.prog 32 #[.slice A n c, .slice B n d] w fun e w' => e = .returned (.bool true) ∧ Below w.heap.size w w' := asame_yes A B n c d z' hn (R.congr e) Q
theorem map_ints (xs : List Int) : xs.map (Value.int .u8) = intsOf .u8 (fun i => xs.getD i 0) xs.length := by
  apply List.ext_getElem?
  intro i
  by_cases h : i < xs.length
  · rw [intsOf_at _ _ _ _ h, List.getElem?_map, List.getElem?_eq_getElem h, List.getD_eq_getElem?_getD, List.getElem?_eq_getElem h]
    rfl
  · rw [List.getElem?_eq_none (by simp; omega), List.getElem?_eq_none (by rw [intsOf_len]; omega)]
theorem row_ints {w : World} {base : Nat} {v : Value} {xs : List Int} (h : w.ownsRow base 5 1 v xs.length (xs.map (Value.int .u8))) (hw : ∀ x ∈ xs, 0 ≤ x ∧ x ≤ 255) :
    ∃ A cap, v = .slice A xs.length cap ∧ IRow w .u8 A xs.length (fun i => xs.getD i 0) := by
  rw [map_ints] at h
  obtain ⟨A, cap, h1, _, _, h4, _⟩ := own_row h (fun i hi => by
    have hx : xs.getD i 0 ∈ xs := by rw [List.getD_eq_getElem?_getD, List.getElem?_eq_getElem hi]; exact List.getElem_mem hi
    have := hw _ hx
    generalize xs.getD i 0 = y at this
    obtain ⟨y0, y1⟩ := this
    simp [Lit.wf, IntKind.min, IntKind.max, IntKind.signed, IntKind.bits]
    omega)
  exact ⟨A, cap, h1, h4⟩
end Go.Proofs.YtnhnphifhkkboaaDoor
