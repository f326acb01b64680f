/-
  A channel of sound: Wave, New, Clone; and nil.
-/
import Derived.Test.YtnelcbbjnpaodaaWav3
import Derived.Test.YtnelcbbjnpaodaaG18
import Derived.Deep.MidRow
import Derived.Laws.CopyOwn
namespace Go.Proofs.Ytnelcbbjnpaodaa
open Go.RowKit
set_option linter.unusedVariables false
set_option linter.unusedSimpArgs false
set_option maxRecDepth 100000
theorem infoW : (Try.prog.info? 39).map (fun i => (i.zero, i.size)) = some (some (.agg (iArr .u8 32 fun _ => 0)), 32) := by kernel_rfl
theorem zeroW (w : World) : (zeroValue 39).run Try.prog w = .ok (.agg (iArr .u8 32 fun _ => 0)) w := (zero_of_info infoW).1 w
theorem sizeW : (Try.prog.info? 39).map (·.size) = some 32 := (zero_of_info infoW).2
def Cw.zero : Cw := ⟨⟨0, 0, 0⟩, fun _ => 0, 0, 0, 0, 0, 0, 0, 0, false⟩
theorem infoC : (Try.prog.info? 68).map (fun i => (i.zero, i.size)) = some (some (.agg (chC Cw.zero)), 43) := by kernel_rfl
theorem zeroC (w : World) : (zeroValue 68).run Try.prog w = .ok (.agg (chC Cw.zero)) w := (zero_of_info infoC).1 w
theorem sizeC : (Try.prog.info? 68).map (·.size) = some 43 := (zero_of_info infoC).2
theorem CW.range {w : World} {g : Nat} {x : Cw} (h : CW w g x) : w.rangeAt g 3 (intsOf .u8 x.wv 32) := fun j v hv => by
  have hj : j < 32 := by
    by_cases hj : j < 32
    · exact hj
    · rw [List.getElem?_eq_none (by rw [intsOf_len]; omega)] at hv; cases hv
  rw [intsOf_at .u8 x.wv 32 j hj] at hv
  cases hv
  exact h.wave j hj
section
variable {w : World} {g : Nat} {x : Cw}
def CNewR (x : Cw) (w : World) (e : Ending) (w' : World) : Prop := ∃ g, e = .returned (.pointer (some ⟨g, 0, none⟩)) ∧ w.heap.size ≤ g ∧ CW w' g x ∧ Below w.heap.size w w'
def newA : List (Nat × Value) := [(0, .agg #[.int .u32 1, .int .i64 1984, .int .u8 0]), (5, .int .i64 4096)]
theorem new_built : Try.prog.built 68 newA = some (chC Cw.new) := by kernel_rfl
set_option maxHeartbeats 2000000 in
theorem cnew_any (w : World) : Calls Try.prog 21 #[] w (CNewR Cw.new w) := by
  go_enter Try.func21, Try.ntmps21
  go_wp2_with fail
  refine (nnew_any 0 _ (by decide) (by decide)).mono ?_
  rintro e w1 ⟨rfl, h1, b1⟩
  obtain ⟨c0, c1, c2⟩ := h1.cells
  try dsimp only [Nz.new, Nat.zero_add] at c0 c1 c2
  rw [show perN 0 = 1984 from rfl] at c1
  have hl := b1.size
  have B1 := Lib.hid b1
  clear h1 b1
  go_wp2_with (refine wpList_build rfl 68 _ rfl newA (by rfl) (chC Cw.new) new_built ?_)
  go_ret
  exact ⟨w1.heap.size, rfl, hl, ⟨Blk.new w1 _ _, Cw.new_ok⟩, B1.out.alloc hl _⟩
theorem storeC (x : Cw) (W : World) : (storeCells ⟨W.heap.size, 0, none⟩ (chC x).toList).run Try.prog (W.alloc (.cells (chC Cw.zero) 68)) = .ok () (W.alloc (.cells (chC x) 68)) :=
  run_storeCells_new (P := Try.prog) W 68 (chC Cw.zero) (chC x) (by rw [chC_size]; exact sizeC) (by rw [chC_size, chC_size]) (by rw [Array.all_eq_true]; intro i hi; exact chC_one x _ (by simp))
end
section
variable (w : World)
theorem con_nil : Calls Try.prog 35 #[.pointer none] w fun e w' => e = .returned (.bool false) ∧ w = w' := by
  go_enter Try.func35, Try.ntmps35
  go_wp2
  go_ret
  exact ⟨rfl, rfl⟩
theorem clevel_nil : Calls Try.prog 23 #[.pointer none] w fun e w' => e = .returned (.int .u8 0) ∧ w = w' := by
  go_enter Try.func23, Try.ntmps23
  go_wp2_with (go_at_call 35; refine (con_nil _).mono ?_; rintro e w' ⟨rfl, rfl⟩)
  go_ret
  exact ⟨rfl, rfl⟩
theorem cuntil_nil : Calls Try.prog 25 #[.pointer none] w fun e w' => e = .returned (.int .i64 0) ∧ w = w' := by
  go_enter Try.func25, Try.ntmps25
  go_wp2
  go_ret
  exact ⟨rfl, rfl⟩
theorem cper_nil : Calls Try.prog 41 #[.pointer none] w fun e w' => e = .returned (.int .i64 0) ∧ w = w' := by
  go_enter Try.func41, Try.ntmps41
  go_wp2
  go_ret
  exact ⟨rfl, rfl⟩
theorem cwrite_nil (r b : Int) : Calls Try.prog 22 #[.pointer none, .int .i64 r, .int .u8 b] w fun e w' => e = .returned (.tuple #[]) ∧ w = w' := by
  go_enter Try.func22, Try.ntmps22
  go_wp2
  first | go_end0 | refine bodyPost_ret (results_none rfl _ _ _) rfl ?_
  exact ⟨rfl, rfl⟩
theorem cgo_nil (n : Int) : Calls Try.prog 24 #[.pointer none, .int .i64 n] w fun e w' => e = .returned (.tuple #[]) ∧ w = w' := by
  go_enter Try.func24, Try.ntmps24
  go_wp2
  first | go_end0 | refine bodyPost_ret (results_none rfl _ _ _) rfl ?_
  exact ⟨rfl, rfl⟩
end
end Go.Proofs.Ytnelcbbjnpaodaa
