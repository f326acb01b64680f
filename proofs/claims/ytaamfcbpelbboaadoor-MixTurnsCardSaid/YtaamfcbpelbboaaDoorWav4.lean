/-
  A channel of sound: Wave, New, Clone; and nil.
-/
import Derived.Test.YtaamfcbpelbboaaDoorWav3
import Derived.Test.YtaamfcbpelbboaaDoorG18
import Derived.Deep.MidRow
import Derived.Laws.CopyOwn
namespace Go.Proofs.YtaamfcbpelbboaaDoor
open Go.RowKit
set_option linter.unusedVariables false
set_option linter.unusedSimpArgs false
set_option maxRecDepth 100000
theorem infoW : (Tryd.prog.info? 74).map (fun i => (i.zero, i.size)) = some (some (.agg (iArr .u8 32 fun _ => 0)), 32) := by kernel_rfl
theorem zeroW (w : World) : (zeroValue 74).run Tryd.prog w = .ok (.agg (iArr .u8 32 fun _ => 0)) w := (zero_of_info infoW).1 w
theorem sizeW : (Tryd.prog.info? 74).map (·.size) = some 32 := (zero_of_info infoW).2
def Cw.zero : Cw := ⟨⟨0, 0, 0⟩, fun _ => 0, 0, 0, 0, 0, 0, 0, 0, false⟩
theorem infoC : (Tryd.prog.info? 95).map (fun i => (i.zero, i.size)) = some (some (.agg (chC Cw.zero)), 43) := by kernel_rfl
theorem zeroC (w : World) : (zeroValue 95).run Tryd.prog w = .ok (.agg (chC Cw.zero)) w := (zero_of_info infoC).1 w
theorem sizeC : (Tryd.prog.info? 95).map (·.size) = some 43 := (zero_of_info infoC).2
theorem CW.range {w : World} {g : Nat} {x : Cw} (h : CW w g x) : w.rangeAt g 3 (intsOf .u8 x.wv 32) := fun j v hv => by
  have hj : j < 32 := by
    by_cases hj : j < 32
    · exact hj
    · rw [List.getElem?_eq_none (by rw [intsOf_len]; omega)] at hv; cases hv
  rw [intsOf_at .u8 x.wv 32 j hj] at hv
  cases hv
  exact h.wave j hj
section
variable {w : World} {g : Nat} {x : Cw}
def CNewR (x : Cw) (w : World) (e : Ending) (w' : World) : Prop := ∃ g, e = .returned (.pointer (some ⟨g, 0, none⟩)) ∧ w.heap.size ≤ g ∧ CW w' g x ∧ Below w.heap.size w w'
def newA : List (Nat × Value) := [(0, .agg #[.int .u32 1, .int .i64 1984, .int .u8 0]), (5, .int .i64 4096)]
theorem new_built : Tryd.prog.built 95 newA = some (chC Cw.new) := by kernel_rfl
set_option maxHeartbeats 2000000 in
theorem cnew_any (w : World) : Calls Tryd.prog 51 #[] w (CNewR Cw.new w) := by
  go_enter Tryd.func51, Tryd.ntmps51
  go_wp2_with fail
  refine (nnew_any 0 _ (by decide) (by decide)).mono ?_
  rintro e w1 ⟨rfl, h1, b1⟩
  obtain ⟨c0, c1, c2⟩ := h1.cells
  try dsimp only [Nz.new, Nat.zero_add] at c0 c1 c2
  rw [show perN 0 = 1984 from rfl] at c1
  have hl := b1.size
  have B1 := Lib.hid b1
  clear h1 b1
  go_wp2_with (refine wpList_build rfl 95 _ rfl newA (by rfl) (chC Cw.new) new_built ?_)
  go_ret
  exact ⟨w1.heap.size, rfl, hl, ⟨Blk.new w1 _ _, Cw.new_ok⟩, B1.out.alloc hl _⟩
theorem storeC (x : Cw) (W : World) : (storeCells ⟨W.heap.size, 0, none⟩ (chC x).toList).run Tryd.prog (W.alloc (.cells (chC Cw.zero) 95)) = .ok () (W.alloc (.cells (chC x) 95)) :=
  run_storeCells_new (P := Tryd.prog) W 95 (chC Cw.zero) (chC x) (by rw [chC_size]; exact sizeC) (by rw [chC_size, chC_size]) (by rw [Array.all_eq_true]; intro i hi; exact chC_one x _ (by simp))
end
section
variable (w : World)
theorem con_nil : Calls Tryd.prog 46 #[.pointer none] w fun e w' => e = .returned (.bool false) ∧ w = w' := by
  go_enter Tryd.func46, Tryd.ntmps46
  go_wp2
  go_ret
  exact ⟨rfl, rfl⟩
theorem clevel_nil : Calls Tryd.prog 57 #[.pointer none] w fun e w' => e = .returned (.int .u8 0) ∧ w = w' := by
  go_enter Tryd.func57, Tryd.ntmps57
  go_wp2_with (go_at_call 46; refine (con_nil _).mono ?_; rintro e w' ⟨rfl, rfl⟩)
  go_ret
  exact ⟨rfl, rfl⟩
theorem cvol_nil : Calls Tryd.prog 58 #[.pointer none] w fun e w' => e = .returned (.int .u8 0) ∧ w = w' := by
  go_enter Tryd.func58, Tryd.ntmps58
  go_wp2
  go_ret
  exact ⟨rfl, rfl⟩
theorem cbal_nil : Calls Tryd.prog 56 #[.pointer none] w fun e w' => e = .returned (.tuple #[.int .u8 0, .int .u8 0]) ∧ w = w' := by
  go_enter Tryd.func56, Tryd.ntmps56
  go_wp2
  go_ret2
  exact ⟨rfl, rfl⟩
theorem cwrite_nil (r b : Int) : Calls Tryd.prog 45 #[.pointer none, .int .i64 r, .int .u8 b] w fun e w' => e = .returned (.tuple #[]) ∧ w = w' := by
  go_enter Tryd.func45, Tryd.ntmps45
  go_wp2
  first | go_end0 | refine bodyPost_ret (results_none rfl _ _ _) rfl ?_
  exact ⟨rfl, rfl⟩
end
end Go.Proofs.YtaamfcbpelbboaaDoor
