/-
  Texts of these proofs, one behind the other: A4, A6.
-/
import Derived.Test.YtnhnphifhkkboaaDoorKSW05
import Derived.Test.YtnhnphifhkkboaaDoorKSW04
namespace Go.Proofs.YtnhnphifhkkboaaDoor
open Go.RowKit
def hexL (n : Int) : Nat → List Int
  | 0 => []
  | k + 1 => hexL (n / 16) k ++ [digI (n % 16).toNat]
theorem figs_int (m : Int) (a : 0 ≤ m) (b : m < 16) : figs[m.toNat]? = some (.int .u8 (digI m.toNat)) := figs_at _ (by omega)
set_option maxHeartbeats 400000 in
theorem hex_lo (n d : Int) (w : World) (h0 : 0 ≤ n) (h1 : n ≤ 4294967295) (hd : d < 1) :
    Calls Tryd.prog 71 #[.int .u32 n, .int .i64 d] w fun e w' => e = .returned (.string (strOfNums (hexL n 1))) ∧ Below w.heap.size w w' := by
  have hmk : ∀ w, (Instr.makeSlice 22 (.int .i64 1) (.int .i64 1)).run Tryd.prog w = .ok (.slice (some ⟨w.heap.size, 0, none⟩) 1 1) (w.alloc (.cells #[.int .u8 0] 5)) := fun _ => by kernel_rfl
  have hst := fun W => run_storeCells_new (P := Tryd.prog) W 163 #[.int .u8 0, .int .u8 0, .int .u8 0, .int .u8 0, .int .u8 0, .int .u8 0, .int .u8 0, .int .u8 0, .int .u8 0, .int .u8 0, .int .u8 0, .int .u8 0, .int .u8 0, .int .u8 0, .int .u8 0, .int .u8 0] figs (by kernel_rfl) rfl (by kernel_rfl)
  have hcv : ∀ V : World, (convert 22 9 (.slice (some ⟨V.heap.size + 1, 0, none⟩) 1 1)).run Tryd.prog ((V.alloc (.cells figs 163)).alloc (.cells #[.int .u8 (digI (n % 16).toNat)] 5)) = .ok (.string (strOfNums [digI (n % 16).toNat])) ((V.alloc (.cells figs 163)).alloc (.cells #[.int .u8 (digI (n % 16).toNat)] 5)) := fun V =>
    conv_new (P := Tryd.prog) (V.alloc (.cells figs 163)) [digI (n % 16).toNat] rfl (by simp) Tryd.underlying22 Tryd.underlying5 Tryd.underlying9
  have hx0 := figs_int (n % 16) (by omega) (by omega)
  go_enter Tryd.func71, Tryd.ntmps71
  go_wp2_with (go_at_call 113; refine (figures_any _).mono ?_; rintro e w' ⟨rfl, hb⟩)
  go_rounds 2
  go_ret
  exact ⟨rfl, by have := hb.size; go_grown⟩
set_option maxHeartbeats 400000 in
theorem hex_1 (n : Int) (w : World) (h0 : 0 ≤ n) (h1 : n ≤ 4294967295) :
    Calls Tryd.prog 71 #[.int .u32 n, .int .i64 1] w fun e w' => e = .returned (.string (strOfNums (hexL n 1))) ∧ Below w.heap.size w w' := by
  have hmk : ∀ w, (Instr.makeSlice 22 (.int .i64 1) (.int .i64 1)).run Tryd.prog w = .ok (.slice (some ⟨w.heap.size, 0, none⟩) 1 1) (w.alloc (.cells #[.int .u8 0] 5)) := fun _ => by kernel_rfl
  have hst := fun W => run_storeCells_new (P := Tryd.prog) W 163 #[.int .u8 0, .int .u8 0, .int .u8 0, .int .u8 0, .int .u8 0, .int .u8 0, .int .u8 0, .int .u8 0, .int .u8 0, .int .u8 0, .int .u8 0, .int .u8 0, .int .u8 0, .int .u8 0, .int .u8 0, .int .u8 0] figs (by kernel_rfl) rfl (by kernel_rfl)
  have hcv : ∀ V : World, (convert 22 9 (.slice (some ⟨V.heap.size + 1, 0, none⟩) 1 1)).run Tryd.prog ((V.alloc (.cells figs 163)).alloc (.cells #[.int .u8 (digI (n % 16).toNat)] 5)) = .ok (.string (strOfNums [digI (n % 16).toNat])) ((V.alloc (.cells figs 163)).alloc (.cells #[.int .u8 (digI (n % 16).toNat)] 5)) := fun V =>
    conv_new (P := Tryd.prog) (V.alloc (.cells figs 163)) [digI (n % 16).toNat] rfl (by simp) Tryd.underlying22 Tryd.underlying5 Tryd.underlying9
  have hx0 := figs_int (n % 16) (by omega) (by omega)
  go_enter Tryd.func71, Tryd.ntmps71
  go_wp2_with (go_at_call 113; refine (figures_any _).mono ?_; rintro e w' ⟨rfl, hb⟩)
  go_rounds 2
  go_ret
  exact ⟨rfl, by have := hb.size; go_grown⟩
set_option maxHeartbeats 400000 in
theorem hex_2 (n : Int) (w : World) (h0 : 0 ≤ n) (h1 : n ≤ 4294967295) :
    Calls Tryd.prog 71 #[.int .u32 n, .int .i64 2] w fun e w' => e = .returned (.string (strOfNums (hexL n 2))) ∧ Below w.heap.size w w' := by
  have hmk : ∀ w, (Instr.makeSlice 22 (.int .i64 2) (.int .i64 2)).run Tryd.prog w = .ok (.slice (some ⟨w.heap.size, 0, none⟩) 2 2) (w.alloc (.cells #[.int .u8 0, .int .u8 0] 5)) := fun _ => by kernel_rfl
  have hst := fun W => run_storeCells_new (P := Tryd.prog) W 163 #[.int .u8 0, .int .u8 0, .int .u8 0, .int .u8 0, .int .u8 0, .int .u8 0, .int .u8 0, .int .u8 0, .int .u8 0, .int .u8 0, .int .u8 0, .int .u8 0, .int .u8 0, .int .u8 0, .int .u8 0, .int .u8 0] figs (by kernel_rfl) rfl (by kernel_rfl)
  have hcv : ∀ V : World, (convert 22 9 (.slice (some ⟨V.heap.size + 1, 0, none⟩) 2 2)).run Tryd.prog ((V.alloc (.cells figs 163)).alloc (.cells #[.int .u8 (digI (n / 16 % 16).toNat), .int .u8 (digI (n % 16).toNat)] 5)) = .ok (.string (strOfNums [digI (n / 16 % 16).toNat, digI (n % 16).toNat])) ((V.alloc (.cells figs 163)).alloc (.cells #[.int .u8 (digI (n / 16 % 16).toNat), .int .u8 (digI (n % 16).toNat)] 5)) := fun V =>
    conv_new (P := Tryd.prog) (V.alloc (.cells figs 163)) [digI (n / 16 % 16).toNat, digI (n % 16).toNat] rfl (by simp) Tryd.underlying22 Tryd.underlying5 Tryd.underlying9
  have hx0 := figs_int (n % 16) (by omega) (by omega)
  have hx1 := figs_int (n / 16 % 16) (by omega) (by omega)
  go_enter Tryd.func71, Tryd.ntmps71
  go_wp2_with (go_at_call 113; refine (figures_any _).mono ?_; rintro e w' ⟨rfl, hb⟩)
  go_rounds 3
  go_ret
  exact ⟨rfl, by have := hb.size; go_grown⟩
set_option maxHeartbeats 400000 in
theorem hex_3 (n : Int) (w : World) (h0 : 0 ≤ n) (h1 : n ≤ 4294967295) :
    Calls Tryd.prog 71 #[.int .u32 n, .int .i64 3] w fun e w' => e = .returned (.string (strOfNums (hexL n 3))) ∧ Below w.heap.size w w' := by
  have hmk : ∀ w, (Instr.makeSlice 22 (.int .i64 3) (.int .i64 3)).run Tryd.prog w = .ok (.slice (some ⟨w.heap.size, 0, none⟩) 3 3) (w.alloc (.cells #[.int .u8 0, .int .u8 0, .int .u8 0] 5)) := fun _ => by kernel_rfl
  have hst := fun W => run_storeCells_new (P := Tryd.prog) W 163 #[.int .u8 0, .int .u8 0, .int .u8 0, .int .u8 0, .int .u8 0, .int .u8 0, .int .u8 0, .int .u8 0, .int .u8 0, .int .u8 0, .int .u8 0, .int .u8 0, .int .u8 0, .int .u8 0, .int .u8 0, .int .u8 0] figs (by kernel_rfl) rfl (by kernel_rfl)
  have hcv : ∀ V : World, (convert 22 9 (.slice (some ⟨V.heap.size + 1, 0, none⟩) 3 3)).run Tryd.prog ((V.alloc (.cells figs 163)).alloc (.cells #[.int .u8 (digI (n / 16 / 16 % 16).toNat), .int .u8 (digI (n / 16 % 16).toNat), .int .u8 (digI (n % 16).toNat)] 5)) = .ok (.string (strOfNums [digI (n / 16 / 16 % 16).toNat, digI (n / 16 % 16).toNat, digI (n % 16).toNat])) ((V.alloc (.cells figs 163)).alloc (.cells #[.int .u8 (digI (n / 16 / 16 % 16).toNat), .int .u8 (digI (n / 16 % 16).toNat), .int .u8 (digI (n % 16).toNat)] 5)) := fun V =>
    conv_new (P := Tryd.prog) (V.alloc (.cells figs 163)) [digI (n / 16 / 16 % 16).toNat, digI (n / 16 % 16).toNat, digI (n % 16).toNat] rfl (by simp) Tryd.underlying22 Tryd.underlying5 Tryd.underlying9
  have hx0 := figs_int (n % 16) (by omega) (by omega)
  have hx1 := figs_int (n / 16 % 16) (by omega) (by omega)
  have hx2 := figs_int (n / 16 / 16 % 16) (by omega) (by omega)
  go_enter Tryd.func71, Tryd.ntmps71
  go_wp2_with (go_at_call 113; refine (figures_any _).mono ?_; rintro e w' ⟨rfl, hb⟩)
  go_rounds 4
  go_ret
  exact ⟨rfl, by have := hb.size; go_grown⟩
set_option maxHeartbeats 400000 in
theorem hex_4 (n : Int) (w : World) (h0 : 0 ≤ n) (h1 : n ≤ 4294967295) :
    Calls Tryd.prog 71 #[.int .u32 n, .int .i64 4] w fun e w' => e = .returned (.string (strOfNums (hexL n 4))) ∧ Below w.heap.size w w' := by
  have hmk : ∀ w, (Instr.makeSlice 22 (.int .i64 4) (.int .i64 4)).run Tryd.prog w = .ok (.slice (some ⟨w.heap.size, 0, none⟩) 4 4) (w.alloc (.cells #[.int .u8 0, .int .u8 0, .int .u8 0, .int .u8 0] 5)) := fun _ => by kernel_rfl
  have hst := fun W => run_storeCells_new (P := Tryd.prog) W 163 #[.int .u8 0, .int .u8 0, .int .u8 0, .int .u8 0, .int .u8 0, .int .u8 0, .int .u8 0, .int .u8 0, .int .u8 0, .int .u8 0, .int .u8 0, .int .u8 0, .int .u8 0, .int .u8 0, .int .u8 0, .int .u8 0] figs (by kernel_rfl) rfl (by kernel_rfl)
  have hcv : ∀ V : World, (convert 22 9 (.slice (some ⟨V.heap.size + 1, 0, none⟩) 4 4)).run Tryd.prog ((V.alloc (.cells figs 163)).alloc (.cells #[.int .u8 (digI (n / 16 / 16 / 16 % 16).toNat), .int .u8 (digI (n / 16 / 16 % 16).toNat), .int .u8 (digI (n / 16 % 16).toNat), .int .u8 (digI (n % 16).toNat)] 5)) = .ok (.string (strOfNums [digI (n / 16 / 16 / 16 % 16).toNat, digI (n / 16 / 16 % 16).toNat, digI (n / 16 % 16).toNat, digI (n % 16).toNat])) ((V.alloc (.cells figs 163)).alloc (.cells #[.int .u8 (digI (n / 16 / 16 / 16 % 16).toNat), .int .u8 (digI (n / 16 / 16 % 16).toNat), .int .u8 (digI (n / 16 % 16).toNat), .int .u8 (digI (n % 16).toNat)] 5)) := fun V =>
    conv_new (P := Tryd.prog) (V.alloc (.cells figs 163)) [digI (n / 16 / 16 / 16 % 16).toNat, digI (n / 16 / 16 % 16).toNat, digI (n / 16 % 16).toNat, digI (n % 16).toNat] rfl (by simp) Tryd.underlying22 Tryd.underlying5 Tryd.underlying9
  have hx0 := figs_int (n % 16) (by omega) (by omega)
  have hx1 := figs_int (n / 16 % 16) (by omega) (by omega)
  have hx2 := figs_int (n / 16 / 16 % 16) (by omega) (by omega)
  have hx3 := figs_int (n / 16 / 16 / 16 % 16) (by omega) (by omega)
  go_enter Tryd.func71, Tryd.ntmps71
  go_wp2_with (go_at_call 113; refine (figures_any _).mono ?_; rintro e w' ⟨rfl, hb⟩)
  go_rounds 5
  go_ret
  exact ⟨rfl, by have := hb.size; go_grown⟩
set_option maxHeartbeats 400000 in
theorem hex_5 (n : Int) (w : World) (h0 : 0 ≤ n) (h1 : n ≤ 4294967295) :
    Calls Tryd.prog 71 #[.int .u32 n, .int .i64 5] w fun e w' => e = .returned (.string (strOfNums (hexL n 5))) ∧ Below w.heap.size w w' := by
  have hmk : ∀ w, (Instr.makeSlice 22 (.int .i64 5) (.int .i64 5)).run Tryd.prog w = .ok (.slice (some ⟨w.heap.size, 0, none⟩) 5 5) (w.alloc (.cells #[.int .u8 0, .int .u8 0, .int .u8 0, .int .u8 0, .int .u8 0] 5)) := fun _ => by kernel_rfl
  have hst := fun W => run_storeCells_new (P := Tryd.prog) W 163 #[.int .u8 0, .int .u8 0, .int .u8 0, .int .u8 0, .int .u8 0, .int .u8 0, .int .u8 0, .int .u8 0, .int .u8 0, .int .u8 0, .int .u8 0, .int .u8 0, .int .u8 0, .int .u8 0, .int .u8 0, .int .u8 0] figs (by kernel_rfl) rfl (by kernel_rfl)
  have hcv : ∀ V : World, (convert 22 9 (.slice (some ⟨V.heap.size + 1, 0, none⟩) 5 5)).run Tryd.prog ((V.alloc (.cells figs 163)).alloc (.cells #[.int .u8 (digI (n / 16 / 16 / 16 / 16 % 16).toNat), .int .u8 (digI (n / 16 / 16 / 16 % 16).toNat), .int .u8 (digI (n / 16 / 16 % 16).toNat), .int .u8 (digI (n / 16 % 16).toNat), .int .u8 (digI (n % 16).toNat)] 5)) = .ok (.string (strOfNums [digI (n / 16 / 16 / 16 / 16 % 16).toNat, digI (n / 16 / 16 / 16 % 16).toNat, digI (n / 16 / 16 % 16).toNat, digI (n / 16 % 16).toNat, digI (n % 16).toNat])) ((V.alloc (.cells figs 163)).alloc (.cells #[.int .u8 (digI (n / 16 / 16 / 16 / 16 % 16).toNat), .int .u8 (digI (n / 16 / 16 / 16 % 16).toNat), .int .u8 (digI (n / 16 / 16 % 16).toNat), .int .u8 (digI (n / 16 % 16).toNat), .int .u8 (digI (n % 16).toNat)] 5)) := fun V =>
    conv_new (P := Tryd.prog) (V.alloc (.cells figs 163)) [digI (n / 16 / 16 / 16 / 16 % 16).toNat, digI (n / 16 / 16 / 16 % 16).toNat, digI (n / 16 / 16 % 16).toNat, digI (n / 16 % 16).toNat, digI (n % 16).toNat] rfl (by simp) Tryd.underlying22 Tryd.underlying5 Tryd.underlying9
  have hx0 := figs_int (n % 16) (by omega) (by omega)
  have hx1 := figs_int (n / 16 % 16) (by omega) (by omega)
  have hx2 := figs_int (n / 16 / 16 % 16) (by omega) (by omega)
  have hx3 := figs_int (n / 16 / 16 / 16 % 16) (by omega) (by omega)
  have hx4 := figs_int (n / 16 / 16 / 16 / 16 % 16) (by omega) (by omega)
  go_enter Tryd.func71, Tryd.ntmps71
  go_wp2_with (go_at_call 113; refine (figures_any _).mono ?_; rintro e w' ⟨rfl, hb⟩)
  go_rounds 6
  go_ret
  exact ⟨rfl, by have := hb.size; go_grown⟩
set_option maxHeartbeats 400000 in
theorem hex_6 (n : Int) (w : World) (h0 : 0 ≤ n) (h1 : n ≤ 4294967295) :
    Calls Tryd.prog 71 #[.int .u32 n, .int .i64 6] w fun e w' => e = .returned (.string (strOfNums (hexL n 6))) ∧ Below w.heap.size w w' := by
  have hmk : ∀ w, (Instr.makeSlice 22 (.int .i64 6) (.int .i64 6)).run Tryd.prog w = .ok (.slice (some ⟨w.heap.size, 0, none⟩) 6 6) (w.alloc (.cells #[.int .u8 0, .int .u8 0, .int .u8 0, .int .u8 0, .int .u8 0, .int .u8 0] 5)) := fun _ => by kernel_rfl
  have hst := fun W => run_storeCells_new (P := Tryd.prog) W 163 #[.int .u8 0, .int .u8 0, .int .u8 0, .int .u8 0, .int .u8 0, .int .u8 0, .int .u8 0, .int .u8 0, .int .u8 0, .int .u8 0, .int .u8 0, .int .u8 0, .int .u8 0, .int .u8 0, .int .u8 0, .int .u8 0] figs (by kernel_rfl) rfl (by kernel_rfl)
  have hcv : ∀ V : World, (convert 22 9 (.slice (some ⟨V.heap.size + 1, 0, none⟩) 6 6)).run Tryd.prog ((V.alloc (.cells figs 163)).alloc (.cells #[.int .u8 (digI (n / 16 / 16 / 16 / 16 / 16 % 16).toNat), .int .u8 (digI (n / 16 / 16 / 16 / 16 % 16).toNat), .int .u8 (digI (n / 16 / 16 / 16 % 16).toNat), .int .u8 (digI (n / 16 / 16 % 16).toNat), .int .u8 (digI (n / 16 % 16).toNat), .int .u8 (digI (n % 16).toNat)] 5)) = .ok (.string (strOfNums [digI (n / 16 / 16 / 16 / 16 / 16 % 16).toNat, digI (n / 16 / 16 / 16 / 16 % 16).toNat, digI (n / 16 / 16 / 16 % 16).toNat, digI (n / 16 / 16 % 16).toNat, digI (n / 16 % 16).toNat, digI (n % 16).toNat])) ((V.alloc (.cells figs 163)).alloc (.cells #[.int .u8 (digI (n / 16 / 16 / 16 / 16 / 16 % 16).toNat), .int .u8 (digI (n / 16 / 16 / 16 / 16 % 16).toNat), .int .u8 (digI (n / 16 / 16 / 16 % 16).toNat), .int .u8 (digI (n / 16 / 16 % 16).toNat), .int .u8 (digI (n / 16 % 16).toNat), .int .u8 (digI (n % 16).toNat)] 5)) := fun V =>
    conv_new (P := Tryd.prog) (V.alloc (.cells figs 163)) [digI (n / 16 / 16 / 16 / 16 / 16 % 16).toNat, digI (n / 16 / 16 / 16 / 16 % 16).toNat, digI (n / 16 / 16 / 16 % 16).toNat, digI (n / 16 / 16 % 16).toNat, digI (n / 16 % 16).toNat, digI (n % 16).toNat] rfl (by simp) Tryd.underlying22 Tryd.underlying5 Tryd.underlying9
  have hx0 := figs_int (n % 16) (by omega) (by omega)
  have hx1 := figs_int (n / 16 % 16) (by omega) (by omega)
  have hx2 := figs_int (n / 16 / 16 % 16) (by omega) (by omega)
  have hx3 := figs_int (n / 16 / 16 / 16 % 16) (by omega) (by omega)
  have hx4 := figs_int (n / 16 / 16 / 16 / 16 % 16) (by omega) (by omega)
  have hx5 := figs_int (n / 16 / 16 / 16 / 16 / 16 % 16) (by omega) (by omega)
  go_enter Tryd.func71, Tryd.ntmps71
  go_wp2_with (go_at_call 113; refine (figures_any _).mono ?_; rintro e w' ⟨rfl, hb⟩)
  go_rounds 7
  go_ret
  exact ⟨rfl, by have := hb.size; go_grown⟩
set_option maxHeartbeats 400000 in
theorem hex_7 (n : Int) (w : World) (h0 : 0 ≤ n) (h1 : n ≤ 4294967295) :
    Calls Tryd.prog 71 #[.int .u32 n, .int .i64 7] w fun e w' => e = .returned (.string (strOfNums (hexL n 7))) ∧ Below w.heap.size w w' := by
  have hmk : ∀ w, (Instr.makeSlice 22 (.int .i64 7) (.int .i64 7)).run Tryd.prog w = .ok (.slice (some ⟨w.heap.size, 0, none⟩) 7 7) (w.alloc (.cells #[.int .u8 0, .int .u8 0, .int .u8 0, .int .u8 0, .int .u8 0, .int .u8 0, .int .u8 0] 5)) := fun _ => by kernel_rfl
  have hst := fun W => run_storeCells_new (P := Tryd.prog) W 163 #[.int .u8 0, .int .u8 0, .int .u8 0, .int .u8 0, .int .u8 0, .int .u8 0, .int .u8 0, .int .u8 0, .int .u8 0, .int .u8 0, .int .u8 0, .int .u8 0, .int .u8 0, .int .u8 0, .int .u8 0, .int .u8 0] figs (by kernel_rfl) rfl (by kernel_rfl)
  have hcv : ∀ V : World, (convert 22 9 (.slice (some ⟨V.heap.size + 1, 0, none⟩) 7 7)).run Tryd.prog ((V.alloc (.cells figs 163)).alloc (.cells #[.int .u8 (digI (n / 16 / 16 / 16 / 16 / 16 / 16 % 16).toNat), .int .u8 (digI (n / 16 / 16 / 16 / 16 / 16 % 16).toNat), .int .u8 (digI (n / 16 / 16 / 16 / 16 % 16).toNat), .int .u8 (digI (n / 16 / 16 / 16 % 16).toNat), .int .u8 (digI (n / 16 / 16 % 16).toNat), .int .u8 (digI (n / 16 % 16).toNat), .int .u8 (digI (n % 16).toNat)] 5)) = .ok (.string (strOfNums [digI (n / 16 / 16 / 16 / 16 / 16 / 16 % 16).toNat, digI (n / 16 / 16 / 16 / 16 / 16 % 16).toNat, digI (n / 16 / 16 / 16 / 16 % 16).toNat, digI (n / 16 / 16 / 16 % 16).toNat, digI (n / 16 / 16 % 16).toNat, digI (n / 16 % 16).toNat, digI (n % 16).toNat])) ((V.alloc (.cells figs 163)).alloc (.cells #[.int .u8 (digI (n / 16 / 16 / 16 / 16 / 16 / 16 % 16).toNat), .int .u8 (digI (n / 16 / 16 / 16 / 16 / 16 % 16).toNat), .int .u8 (digI (n / 16 / 16 / 16 / 16 % 16).toNat), .int .u8 (digI (n / 16 / 16 / 16 % 16).toNat), .int .u8 (digI (n / 16 / 16 % 16).toNat), .int .u8 (digI (n / 16 % 16).toNat), .int .u8 (digI (n % 16).toNat)] 5)) := fun V =>
    conv_new (P := Tryd.prog) (V.alloc (.cells figs 163)) [digI (n / 16 / 16 / 16 / 16 / 16 / 16 % 16).toNat, digI (n / 16 / 16 / 16 / 16 / 16 % 16).toNat, digI (n / 16 / 16 / 16 / 16 % 16).toNat, digI (n / 16 / 16 / 16 % 16).toNat, digI (n / 16 / 16 % 16).toNat, digI (n / 16 % 16).toNat, digI (n % 16).toNat] rfl (by simp) Tryd.underlying22 Tryd.underlying5 Tryd.underlying9
  have hx0 := figs_int (n % 16) (by omega) (by omega)
  have hx1 := figs_int (n / 16 % 16) (by omega) (by omega)
  have hx2 := figs_int (n / 16 / 16 % 16) (by omega) (by omega)
  have hx3 := figs_int (n / 16 / 16 / 16 % 16) (by omega) (by omega)
  have hx4 := figs_int (n / 16 / 16 / 16 / 16 % 16) (by omega) (by omega)
  have hx5 := figs_int (n / 16 / 16 / 16 / 16 / 16 % 16) (by omega) (by omega)
  have hx6 := figs_int (n / 16 / 16 / 16 / 16 / 16 / 16 % 16) (by omega) (by omega)
  go_enter Tryd.func71, Tryd.ntmps71
  go_wp2_with (go_at_call 113; refine (figures_any _).mono ?_; rintro e w' ⟨rfl, hb⟩)
  go_rounds 8
  go_ret
  exact ⟨rfl, by have := hb.size; go_grown⟩
set_option maxHeartbeats 400000 in
theorem hex_8 (n : Int) (w : World) (h0 : 0 ≤ n) (h1 : n ≤ 4294967295) :
    Calls Tryd.prog 71 #[.int .u32 n, .int .i64 8] w fun e w' => e = .returned (.string (strOfNums (hexL n 8))) ∧ Below w.heap.size w w' := by
  have hmk : ∀ w, (Instr.makeSlice 22 (.int .i64 8) (.int .i64 8)).run Tryd.prog w = .ok (.slice (some ⟨w.heap.size, 0, none⟩) 8 8) (w.alloc (.cells #[.int .u8 0, .int .u8 0, .int .u8 0, .int .u8 0, .int .u8 0, .int .u8 0, .int .u8 0, .int .u8 0] 5)) := fun _ => by kernel_rfl
  have hst := fun W => run_storeCells_new (P := Tryd.prog) W 163 #[.int .u8 0, .int .u8 0, .int .u8 0, .int .u8 0, .int .u8 0, .int .u8 0, .int .u8 0, .int .u8 0, .int .u8 0, .int .u8 0, .int .u8 0, .int .u8 0, .int .u8 0, .int .u8 0, .int .u8 0, .int .u8 0] figs (by kernel_rfl) rfl (by kernel_rfl)
  have hcv : ∀ V : World, (convert 22 9 (.slice (some ⟨V.heap.size + 1, 0, none⟩) 8 8)).run Tryd.prog ((V.alloc (.cells figs 163)).alloc (.cells #[.int .u8 (digI (n / 16 / 16 / 16 / 16 / 16 / 16 / 16 % 16).toNat), .int .u8 (digI (n / 16 / 16 / 16 / 16 / 16 / 16 % 16).toNat), .int .u8 (digI (n / 16 / 16 / 16 / 16 / 16 % 16).toNat), .int .u8 (digI (n / 16 / 16 / 16 / 16 % 16).toNat), .int .u8 (digI (n / 16 / 16 / 16 % 16).toNat), .int .u8 (digI (n / 16 / 16 % 16).toNat), .int .u8 (digI (n / 16 % 16).toNat), .int .u8 (digI (n % 16).toNat)] 5)) = .ok (.string (strOfNums [digI (n / 16 / 16 / 16 / 16 / 16 / 16 / 16 % 16).toNat, digI (n / 16 / 16 / 16 / 16 / 16 / 16 % 16).toNat, digI (n / 16 / 16 / 16 / 16 / 16 % 16).toNat, digI (n / 16 / 16 / 16 / 16 % 16).toNat, digI (n / 16 / 16 / 16 % 16).toNat, digI (n / 16 / 16 % 16).toNat, digI (n / 16 % 16).toNat, digI (n % 16).toNat])) ((V.alloc (.cells figs 163)).alloc (.cells #[.int .u8 (digI (n / 16 / 16 / 16 / 16 / 16 / 16 / 16 % 16).toNat), .int .u8 (digI (n / 16 / 16 / 16 / 16 / 16 / 16 % 16).toNat), .int .u8 (digI (n / 16 / 16 / 16 / 16 / 16 % 16).toNat), .int .u8 (digI (n / 16 / 16 / 16 / 16 % 16).toNat), .int .u8 (digI (n / 16 / 16 / 16 % 16).toNat), .int .u8 (digI (n / 16 / 16 % 16).toNat), .int .u8 (digI (n / 16 % 16).toNat), .int .u8 (digI (n % 16).toNat)] 5)) := fun V =>
    conv_new (P := Tryd.prog) (V.alloc (.cells figs 163)) [digI (n / 16 / 16 / 16 / 16 / 16 / 16 / 16 % 16).toNat, digI (n / 16 / 16 / 16 / 16 / 16 / 16 % 16).toNat, digI (n / 16 / 16 / 16 / 16 / 16 % 16).toNat, digI (n / 16 / 16 / 16 / 16 % 16).toNat, digI (n / 16 / 16 / 16 % 16).toNat, digI (n / 16 / 16 % 16).toNat, digI (n / 16 % 16).toNat, digI (n % 16).toNat] rfl (by simp) Tryd.underlying22 Tryd.underlying5 Tryd.underlying9
  have hx0 := figs_int (n % 16) (by omega) (by omega)
  have hx1 := figs_int (n / 16 % 16) (by omega) (by omega)
  have hx2 := figs_int (n / 16 / 16 % 16) (by omega) (by omega)
  have hx3 := figs_int (n / 16 / 16 / 16 % 16) (by omega) (by omega)
  have hx4 := figs_int (n / 16 / 16 / 16 / 16 % 16) (by omega) (by omega)
  have hx5 := figs_int (n / 16 / 16 / 16 / 16 / 16 % 16) (by omega) (by omega)
  have hx6 := figs_int (n / 16 / 16 / 16 / 16 / 16 / 16 % 16) (by omega) (by omega)
  have hx7 := figs_int (n / 16 / 16 / 16 / 16 / 16 / 16 / 16 % 16) (by omega) (by omega)
  go_enter Tryd.func71, Tryd.ntmps71
  go_wp2_with (go_at_call 113; refine (figures_any _).mono ?_; rintro e w' ⟨rfl, hb⟩)
  go_rounds 9
  go_ret
  exact ⟨rfl, by have := hb.size; go_grown⟩
set_option maxHeartbeats 400000 in
theorem hex_hi (n d : Int) (w : World) (h0 : 0 ≤ n) (h1 : n ≤ 4294967295) (hd : 8 < d) :
    Calls Tryd.prog 71 #[.int .u32 n, .int .i64 d] w fun e w' => e = .returned (.string (strOfNums (hexL n 8))) ∧ Below w.heap.size w w' := by
  have hmk : ∀ w, (Instr.makeSlice 22 (.int .i64 8) (.int .i64 8)).run Tryd.prog w = .ok (.slice (some ⟨w.heap.size, 0, none⟩) 8 8) (w.alloc (.cells #[.int .u8 0, .int .u8 0, .int .u8 0, .int .u8 0, .int .u8 0, .int .u8 0, .int .u8 0, .int .u8 0] 5)) := fun _ => by kernel_rfl
  have hst := fun W => run_storeCells_new (P := Tryd.prog) W 163 #[.int .u8 0, .int .u8 0, .int .u8 0, .int .u8 0, .int .u8 0, .int .u8 0, .int .u8 0, .int .u8 0, .int .u8 0, .int .u8 0, .int .u8 0, .int .u8 0, .int .u8 0, .int .u8 0, .int .u8 0, .int .u8 0] figs (by kernel_rfl) rfl (by kernel_rfl)
  have hcv : ∀ V : World, (convert 22 9 (.slice (some ⟨V.heap.size + 1, 0, none⟩) 8 8)).run Tryd.prog ((V.alloc (.cells figs 163)).alloc (.cells #[.int .u8 (digI (n / 16 / 16 / 16 / 16 / 16 / 16 / 16 % 16).toNat), .int .u8 (digI (n / 16 / 16 / 16 / 16 / 16 / 16 % 16).toNat), .int .u8 (digI (n / 16 / 16 / 16 / 16 / 16 % 16).toNat), .int .u8 (digI (n / 16 / 16 / 16 / 16 % 16).toNat), .int .u8 (digI (n / 16 / 16 / 16 % 16).toNat), .int .u8 (digI (n / 16 / 16 % 16).toNat), .int .u8 (digI (n / 16 % 16).toNat), .int .u8 (digI (n % 16).toNat)] 5)) = .ok (.string (strOfNums [digI (n / 16 / 16 / 16 / 16 / 16 / 16 / 16 % 16).toNat, digI (n / 16 / 16 / 16 / 16 / 16 / 16 % 16).toNat, digI (n / 16 / 16 / 16 / 16 / 16 % 16).toNat, digI (n / 16 / 16 / 16 / 16 % 16).toNat, digI (n / 16 / 16 / 16 % 16).toNat, digI (n / 16 / 16 % 16).toNat, digI (n / 16 % 16).toNat, digI (n % 16).toNat])) ((V.alloc (.cells figs 163)).alloc (.cells #[.int .u8 (digI (n / 16 / 16 / 16 / 16 / 16 / 16 / 16 % 16).toNat), .int .u8 (digI (n / 16 / 16 / 16 / 16 / 16 / 16 % 16).toNat), .int .u8 (digI (n / 16 / 16 / 16 / 16 / 16 % 16).toNat), .int .u8 (digI (n / 16 / 16 / 16 / 16 % 16).toNat), .int .u8 (digI (n / 16 / 16 / 16 % 16).toNat), .int .u8 (digI (n / 16 / 16 % 16).toNat), .int .u8 (digI (n / 16 % 16).toNat), .int .u8 (digI (n % 16).toNat)] 5)) := fun V =>
    conv_new (P := Tryd.prog) (V.alloc (.cells figs 163)) [digI (n / 16 / 16 / 16 / 16 / 16 / 16 / 16 % 16).toNat, digI (n / 16 / 16 / 16 / 16 / 16 / 16 % 16).toNat, digI (n / 16 / 16 / 16 / 16 / 16 % 16).toNat, digI (n / 16 / 16 / 16 / 16 % 16).toNat, digI (n / 16 / 16 / 16 % 16).toNat, digI (n / 16 / 16 % 16).toNat, digI (n / 16 % 16).toNat, digI (n % 16).toNat] rfl (by simp) Tryd.underlying22 Tryd.underlying5 Tryd.underlying9
  have hx0 := figs_int (n % 16) (by omega) (by omega)
  have hx1 := figs_int (n / 16 % 16) (by omega) (by omega)
  have hx2 := figs_int (n / 16 / 16 % 16) (by omega) (by omega)
  have hx3 := figs_int (n / 16 / 16 / 16 % 16) (by omega) (by omega)
  have hx4 := figs_int (n / 16 / 16 / 16 / 16 % 16) (by omega) (by omega)
  have hx5 := figs_int (n / 16 / 16 / 16 / 16 / 16 % 16) (by omega) (by omega)
  have hx6 := figs_int (n / 16 / 16 / 16 / 16 / 16 / 16 % 16) (by omega) (by omega)
  have hx7 := figs_int (n / 16 / 16 / 16 / 16 / 16 / 16 / 16 % 16) (by omega) (by omega)
  go_enter Tryd.func71, Tryd.ntmps71
  go_wp2_with (go_at_call 113; refine (figures_any _).mono ?_; rintro e w' ⟨rfl, hb⟩)
  go_rounds 9
  go_ret
  exact ⟨rfl, by have := hb.size; go_grown⟩
def held8 (d : Int) : Nat := if d < 1 then 1 else if 8 < d then 8 else d.toNat
theorem hex_any (n d : Int) (w : World) (h0 : 0 ≤ n) (h1 : n ≤ 4294967295) :
    Calls Tryd.prog 71 #[.int .u32 n, .int .i64 d] w fun e w' => e = .returned (.string (strOfNums (hexL n (held8 d)))) ∧ Below w.heap.size w w' := by
  by_cases a : d < 1
  · have : held8 d = 1 := by unfold held8; rw [if_pos a]
    rw [this]; exact hex_lo n d w h0 h1 a
  · by_cases b : 8 < d
    · have : held8 d = 8 := by unfold held8; rw [if_neg a, if_pos b]
      rw [this]; exact hex_hi n d w h0 h1 b
    · have : d = 1 ∨ d = 2 ∨ d = 3 ∨ d = 4 ∨ d = 5 ∨ d = 6 ∨ d = 7 ∨ d = 8 := by omega
      rcases this with rfl | rfl | rfl | rfl | rfl | rfl | rfl | rfl
      · exact hex_1 n w h0 h1
      · exact hex_2 n w h0 h1
      · exact hex_3 n w h0 h1
      · exact hex_4 n w h0 h1
      · exact hex_5 n w h0 h1
      · exact hex_6 n w h0 h1
      · exact hex_7 n w h0 h1
      · exact hex_8 n w h0 h1
end Go.Proofs.YtnhnphifhkkboaaDoor
namespace Go.Proofs.YtnhnphifhkkboaaDoor
open Go.RowKit
/-- Bit n of a byte by halving, as the reference has it. -/
def rbit (b n : Int) : Bool := if 0 ≤ n ∧ n ≤ 7 then b / 2 ^ n.toNat % 2 == 1 else false
end Go.Proofs.YtnhnphifhkkboaaDoor
