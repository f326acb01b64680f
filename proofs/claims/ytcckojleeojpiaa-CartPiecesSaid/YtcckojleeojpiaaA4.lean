/-
  What octet's Hex answers, for every number of 32 bits and every count of digits; it only makes memory.
-/
import Derived.Test.YtcckojleeojpiaaA3
import Derived.Test.YtcckojleeojpiaaG2
namespace Go.Proofs.Ytcckojleeojpiaa
open Go.RowKit
def hexL (n : Int) : Nat → List Int
  | 0 => []
  | k + 1 => hexL (n / 16) k ++ [digI (n % 16).toNat]
theorem figs_int (m : Int) (a : 0 ≤ m) (b : m < 16) : figs[m.toNat]? = some (.int .u8 (digI m.toNat)) := figs_at _ (by omega)
set_option maxHeartbeats 400000 in
theorem hex_lo (n d : Int) (w : World) (h0 : 0 ≤ n) (h1 : n ≤ 4294967295) (hd : d < 1) :
    Calls Try.prog 46 #[.int .u32 n, .int .i64 d] w fun e w' => e = .returned (.string (strOfNums (hexL n 1))) ∧ Below w.heap.size w w' := by
  have hmk : ∀ w, (Instr.makeSlice 42 (.int .i64 1) (.int .i64 1)).run Try.prog w = .ok (.slice (some ⟨w.heap.size, 0, none⟩) 1 1) (w.alloc (.cells #[.int .u8 0] 5)) := fun _ => by kernel_rfl
  have hst := fun W => run_storeCells_new (P := Try.prog) W 82 #[.int .u8 0, .int .u8 0, .int .u8 0, .int .u8 0, .int .u8 0, .int .u8 0, .int .u8 0, .int .u8 0, .int .u8 0, .int .u8 0, .int .u8 0, .int .u8 0, .int .u8 0, .int .u8 0, .int .u8 0, .int .u8 0] figs (by kernel_rfl) rfl (by kernel_rfl)
  have hcv : ∀ V : World, (convert 42 9 (.slice (some ⟨V.heap.size + 1, 0, none⟩) 1 1)).run Try.prog ((V.alloc (.cells figs 82)).alloc (.cells #[.int .u8 (digI (n % 16).toNat)] 5)) = .ok (.string (strOfNums [digI (n % 16).toNat])) ((V.alloc (.cells figs 82)).alloc (.cells #[.int .u8 (digI (n % 16).toNat)] 5)) := fun V =>
    conv_new (P := Try.prog) (V.alloc (.cells figs 82)) [digI (n % 16).toNat] rfl (by simp) Try.underlying42 Try.underlying5 Try.underlying9
  have hx0 := figs_int (n % 16) (by omega) (by omega)
  go_enter Try.func46, Try.ntmps46
  go_wp2_with (go_at_call 58; refine (figures_any _).mono ?_; rintro e w' ⟨rfl, hb⟩)
  go_rounds 2
  go_ret
  exact ⟨rfl, by have := hb.size; go_grown⟩
set_option maxHeartbeats 400000 in
theorem hex_1 (n : Int) (w : World) (h0 : 0 ≤ n) (h1 : n ≤ 4294967295) :
    Calls Try.prog 46 #[.int .u32 n, .int .i64 1] w fun e w' => e = .returned (.string (strOfNums (hexL n 1))) ∧ Below w.heap.size w w' := by
  have hmk : ∀ w, (Instr.makeSlice 42 (.int .i64 1) (.int .i64 1)).run Try.prog w = .ok (.slice (some ⟨w.heap.size, 0, none⟩) 1 1) (w.alloc (.cells #[.int .u8 0] 5)) := fun _ => by kernel_rfl
  have hst := fun W => run_storeCells_new (P := Try.prog) W 82 #[.int .u8 0, .int .u8 0, .int .u8 0, .int .u8 0, .int .u8 0, .int .u8 0, .int .u8 0, .int .u8 0, .int .u8 0, .int .u8 0, .int .u8 0, .int .u8 0, .int .u8 0, .int .u8 0, .int .u8 0, .int .u8 0] figs (by kernel_rfl) rfl (by kernel_rfl)
  have hcv : ∀ V : World, (convert 42 9 (.slice (some ⟨V.heap.size + 1, 0, none⟩) 1 1)).run Try.prog ((V.alloc (.cells figs 82)).alloc (.cells #[.int .u8 (digI (n % 16).toNat)] 5)) = .ok (.string (strOfNums [digI (n % 16).toNat])) ((V.alloc (.cells figs 82)).alloc (.cells #[.int .u8 (digI (n % 16).toNat)] 5)) := fun V =>
    conv_new (P := Try.prog) (V.alloc (.cells figs 82)) [digI (n % 16).toNat] rfl (by simp) Try.underlying42 Try.underlying5 Try.underlying9
  have hx0 := figs_int (n % 16) (by omega) (by omega)
  go_enter Try.func46, Try.ntmps46
  go_wp2_with (go_at_call 58; refine (figures_any _).mono ?_; rintro e w' ⟨rfl, hb⟩)
  go_rounds 2
  go_ret
  exact ⟨rfl, by have := hb.size; go_grown⟩
set_option maxHeartbeats 400000 in
theorem hex_2 (n : Int) (w : World) (h0 : 0 ≤ n) (h1 : n ≤ 4294967295) :
    Calls Try.prog 46 #[.int .u32 n, .int .i64 2] w fun e w' => e = .returned (.string (strOfNums (hexL n 2))) ∧ Below w.heap.size w w' := by
  have hmk : ∀ w, (Instr.makeSlice 42 (.int .i64 2) (.int .i64 2)).run Try.prog w = .ok (.slice (some ⟨w.heap.size, 0, none⟩) 2 2) (w.alloc (.cells #[.int .u8 0, .int .u8 0] 5)) := fun _ => by kernel_rfl
  have hst := fun W => run_storeCells_new (P := Try.prog) W 82 #[.int .u8 0, .int .u8 0, .int .u8 0, .int .u8 0, .int .u8 0, .int .u8 0, .int .u8 0, .int .u8 0, .int .u8 0, .int .u8 0, .int .u8 0, .int .u8 0, .int .u8 0, .int .u8 0, .int .u8 0, .int .u8 0] figs (by kernel_rfl) rfl (by kernel_rfl)
  have hcv : ∀ V : World, (convert 42 9 (.slice (some ⟨V.heap.size + 1, 0, none⟩) 2 2)).run Try.prog ((V.alloc (.cells figs 82)).alloc (.cells #[.int .u8 (digI (n / 16 % 16).toNat), .int .u8 (digI (n % 16).toNat)] 5)) = .ok (.string (strOfNums [digI (n / 16 % 16).toNat, digI (n % 16).toNat])) ((V.alloc (.cells figs 82)).alloc (.cells #[.int .u8 (digI (n / 16 % 16).toNat), .int .u8 (digI (n % 16).toNat)] 5)) := fun V =>
    conv_new (P := Try.prog) (V.alloc (.cells figs 82)) [digI (n / 16 % 16).toNat, digI (n % 16).toNat] rfl (by simp) Try.underlying42 Try.underlying5 Try.underlying9
  have hx0 := figs_int (n % 16) (by omega) (by omega)
  have hx1 := figs_int (n / 16 % 16) (by omega) (by omega)
  go_enter Try.func46, Try.ntmps46
  go_wp2_with (go_at_call 58; refine (figures_any _).mono ?_; rintro e w' ⟨rfl, hb⟩)
  go_rounds 3
  go_ret
  exact ⟨rfl, by have := hb.size; go_grown⟩
set_option maxHeartbeats 400000 in
theorem hex_3 (n : Int) (w : World) (h0 : 0 ≤ n) (h1 : n ≤ 4294967295) :
    Calls Try.prog 46 #[.int .u32 n, .int .i64 3] w fun e w' => e = .returned (.string (strOfNums (hexL n 3))) ∧ Below w.heap.size w w' := by
  have hmk : ∀ w, (Instr.makeSlice 42 (.int .i64 3) (.int .i64 3)).run Try.prog w = .ok (.slice (some ⟨w.heap.size, 0, none⟩) 3 3) (w.alloc (.cells #[.int .u8 0, .int .u8 0, .int .u8 0] 5)) := fun _ => by kernel_rfl
  have hst := fun W => run_storeCells_new (P := Try.prog) W 82 #[.int .u8 0, .int .u8 0, .int .u8 0, .int .u8 0, .int .u8 0, .int .u8 0, .int .u8 0, .int .u8 0, .int .u8 0, .int .u8 0, .int .u8 0, .int .u8 0, .int .u8 0, .int .u8 0, .int .u8 0, .int .u8 0] figs (by kernel_rfl) rfl (by kernel_rfl)
  have hcv : ∀ V : World, (convert 42 9 (.slice (some ⟨V.heap.size + 1, 0, none⟩) 3 3)).run Try.prog ((V.alloc (.cells figs 82)).alloc (.cells #[.int .u8 (digI (n / 16 / 16 % 16).toNat), .int .u8 (digI (n / 16 % 16).toNat), .int .u8 (digI (n % 16).toNat)] 5)) = .ok (.string (strOfNums [digI (n / 16 / 16 % 16).toNat, digI (n / 16 % 16).toNat, digI (n % 16).toNat])) ((V.alloc (.cells figs 82)).alloc (.cells #[.int .u8 (digI (n / 16 / 16 % 16).toNat), .int .u8 (digI (n / 16 % 16).toNat), .int .u8 (digI (n % 16).toNat)] 5)) := fun V =>
    conv_new (P := Try.prog) (V.alloc (.cells figs 82)) [digI (n / 16 / 16 % 16).toNat, digI (n / 16 % 16).toNat, digI (n % 16).toNat] rfl (by simp) Try.underlying42 Try.underlying5 Try.underlying9
  have hx0 := figs_int (n % 16) (by omega) (by omega)
  have hx1 := figs_int (n / 16 % 16) (by omega) (by omega)
  have hx2 := figs_int (n / 16 / 16 % 16) (by omega) (by omega)
  go_enter Try.func46, Try.ntmps46
  go_wp2_with (go_at_call 58; refine (figures_any _).mono ?_; rintro e w' ⟨rfl, hb⟩)
  go_rounds 4
  go_ret
  exact ⟨rfl, by have := hb.size; go_grown⟩
set_option maxHeartbeats 400000 in
theorem hex_4 (n : Int) (w : World) (h0 : 0 ≤ n) (h1 : n ≤ 4294967295) :
    Calls Try.prog 46 #[.int .u32 n, .int .i64 4] w fun e w' => e = .returned (.string (strOfNums (hexL n 4))) ∧ Below w.heap.size w w' := by
  have hmk : ∀ w, (Instr.makeSlice 42 (.int .i64 4) (.int .i64 4)).run Try.prog w = .ok (.slice (some ⟨w.heap.size, 0, none⟩) 4 4) (w.alloc (.cells #[.int .u8 0, .int .u8 0, .int .u8 0, .int .u8 0] 5)) := fun _ => by kernel_rfl
  have hst := fun W => run_storeCells_new (P := Try.prog) W 82 #[.int .u8 0, .int .u8 0, .int .u8 0, .int .u8 0, .int .u8 0, .int .u8 0, .int .u8 0, .int .u8 0, .int .u8 0, .int .u8 0, .int .u8 0, .int .u8 0, .int .u8 0, .int .u8 0, .int .u8 0, .int .u8 0] figs (by kernel_rfl) rfl (by kernel_rfl)
  have hcv : ∀ V : World, (convert 42 9 (.slice (some ⟨V.heap.size + 1, 0, none⟩) 4 4)).run Try.prog ((V.alloc (.cells figs 82)).alloc (.cells #[.int .u8 (digI (n / 16 / 16 / 16 % 16).toNat), .int .u8 (digI (n / 16 / 16 % 16).toNat), .int .u8 (digI (n / 16 % 16).toNat), .int .u8 (digI (n % 16).toNat)] 5)) = .ok (.string (strOfNums [digI (n / 16 / 16 / 16 % 16).toNat, digI (n / 16 / 16 % 16).toNat, digI (n / 16 % 16).toNat, digI (n % 16).toNat])) ((V.alloc (.cells figs 82)).alloc (.cells #[.int .u8 (digI (n / 16 / 16 / 16 % 16).toNat), .int .u8 (digI (n / 16 / 16 % 16).toNat), .int .u8 (digI (n / 16 % 16).toNat), .int .u8 (digI (n % 16).toNat)] 5)) := fun V =>
    conv_new (P := Try.prog) (V.alloc (.cells figs 82)) [digI (n / 16 / 16 / 16 % 16).toNat, digI (n / 16 / 16 % 16).toNat, digI (n / 16 % 16).toNat, digI (n % 16).toNat] rfl (by simp) Try.underlying42 Try.underlying5 Try.underlying9
  have hx0 := figs_int (n % 16) (by omega) (by omega)
  have hx1 := figs_int (n / 16 % 16) (by omega) (by omega)
  have hx2 := figs_int (n / 16 / 16 % 16) (by omega) (by omega)
  have hx3 := figs_int (n / 16 / 16 / 16 % 16) (by omega) (by omega)
  go_enter Try.func46, Try.ntmps46
  go_wp2_with (go_at_call 58; refine (figures_any _).mono ?_; rintro e w' ⟨rfl, hb⟩)
  go_rounds 5
  go_ret
  exact ⟨rfl, by have := hb.size; go_grown⟩
set_option maxHeartbeats 400000 in
theorem hex_5 (n : Int) (w : World) (h0 : 0 ≤ n) (h1 : n ≤ 4294967295) :
    Calls Try.prog 46 #[.int .u32 n, .int .i64 5] w fun e w' => e = .returned (.string (strOfNums (hexL n 5))) ∧ Below w.heap.size w w' := by
  have hmk : ∀ w, (Instr.makeSlice 42 (.int .i64 5) (.int .i64 5)).run Try.prog w = .ok (.slice (some ⟨w.heap.size, 0, none⟩) 5 5) (w.alloc (.cells #[.int .u8 0, .int .u8 0, .int .u8 0, .int .u8 0, .int .u8 0] 5)) := fun _ => by kernel_rfl
  have hst := fun W => run_storeCells_new (P := Try.prog) W 82 #[.int .u8 0, .int .u8 0, .int .u8 0, .int .u8 0, .int .u8 0, .int .u8 0, .int .u8 0, .int .u8 0, .int .u8 0, .int .u8 0, .int .u8 0, .int .u8 0, .int .u8 0, .int .u8 0, .int .u8 0, .int .u8 0] figs (by kernel_rfl) rfl (by kernel_rfl)
  have hcv : ∀ V : World, (convert 42 9 (.slice (some ⟨V.heap.size + 1, 0, none⟩) 5 5)).run Try.prog ((V.alloc (.cells figs 82)).alloc (.cells #[.int .u8 (digI (n / 16 / 16 / 16 / 16 % 16).toNat), .int .u8 (digI (n / 16 / 16 / 16 % 16).toNat), .int .u8 (digI (n / 16 / 16 % 16).toNat), .int .u8 (digI (n / 16 % 16).toNat), .int .u8 (digI (n % 16).toNat)] 5)) = .ok (.string (strOfNums [digI (n / 16 / 16 / 16 / 16 % 16).toNat, digI (n / 16 / 16 / 16 % 16).toNat, digI (n / 16 / 16 % 16).toNat, digI (n / 16 % 16).toNat, digI (n % 16).toNat])) ((V.alloc (.cells figs 82)).alloc (.cells #[.int .u8 (digI (n / 16 / 16 / 16 / 16 % 16).toNat), .int .u8 (digI (n / 16 / 16 / 16 % 16).toNat), .int .u8 (digI (n / 16 / 16 % 16).toNat), .int .u8 (digI (n / 16 % 16).toNat), .int .u8 (digI (n % 16).toNat)] 5)) := fun V =>
    conv_new (P := Try.prog) (V.alloc (.cells figs 82)) [digI (n / 16 / 16 / 16 / 16 % 16).toNat, digI (n / 16 / 16 / 16 % 16).toNat, digI (n / 16 / 16 % 16).toNat, digI (n / 16 % 16).toNat, digI (n % 16).toNat] rfl (by simp) Try.underlying42 Try.underlying5 Try.underlying9
  have hx0 := figs_int (n % 16) (by omega) (by omega)
  have hx1 := figs_int (n / 16 % 16) (by omega) (by omega)
  have hx2 := figs_int (n / 16 / 16 % 16) (by omega) (by omega)
  have hx3 := figs_int (n / 16 / 16 / 16 % 16) (by omega) (by omega)
  have hx4 := figs_int (n / 16 / 16 / 16 / 16 % 16) (by omega) (by omega)
  go_enter Try.func46, Try.ntmps46
  go_wp2_with (go_at_call 58; refine (figures_any _).mono ?_; rintro e w' ⟨rfl, hb⟩)
  go_rounds 6
  go_ret
  exact ⟨rfl, by have := hb.size; go_grown⟩
set_option maxHeartbeats 400000 in
theorem hex_6 (n : Int) (w : World) (h0 : 0 ≤ n) (h1 : n ≤ 4294967295) :
    Calls Try.prog 46 #[.int .u32 n, .int .i64 6] w fun e w' => e = .returned (.string (strOfNums (hexL n 6))) ∧ Below w.heap.size w w' := by
  have hmk : ∀ w, (Instr.makeSlice 42 (.int .i64 6) (.int .i64 6)).run Try.prog w = .ok (.slice (some ⟨w.heap.size, 0, none⟩) 6 6) (w.alloc (.cells #[.int .u8 0, .int .u8 0, .int .u8 0, .int .u8 0, .int .u8 0, .int .u8 0] 5)) := fun _ => by kernel_rfl
  have hst := fun W => run_storeCells_new (P := Try.prog) W 82 #[.int .u8 0, .int .u8 0, .int .u8 0, .int .u8 0, .int .u8 0, .int .u8 0, .int .u8 0, .int .u8 0, .int .u8 0, .int .u8 0, .int .u8 0, .int .u8 0, .int .u8 0, .int .u8 0, .int .u8 0, .int .u8 0] figs (by kernel_rfl) rfl (by kernel_rfl)
  have hcv : ∀ V : World, (convert 42 9 (.slice (some ⟨V.heap.size + 1, 0, none⟩) 6 6)).run Try.prog ((V.alloc (.cells figs 82)).alloc (.cells #[.int .u8 (digI (n / 16 / 16 / 16 / 16 / 16 % 16).toNat), .int .u8 (digI (n / 16 / 16 / 16 / 16 % 16).toNat), .int .u8 (digI (n / 16 / 16 / 16 % 16).toNat), .int .u8 (digI (n / 16 / 16 % 16).toNat), .int .u8 (digI (n / 16 % 16).toNat), .int .u8 (digI (n % 16).toNat)] 5)) = .ok (.string (strOfNums [digI (n / 16 / 16 / 16 / 16 / 16 % 16).toNat, digI (n / 16 / 16 / 16 / 16 % 16).toNat, digI (n / 16 / 16 / 16 % 16).toNat, digI (n / 16 / 16 % 16).toNat, digI (n / 16 % 16).toNat, digI (n % 16).toNat])) ((V.alloc (.cells figs 82)).alloc (.cells #[.int .u8 (digI (n / 16 / 16 / 16 / 16 / 16 % 16).toNat), .int .u8 (digI (n / 16 / 16 / 16 / 16 % 16).toNat), .int .u8 (digI (n / 16 / 16 / 16 % 16).toNat), .int .u8 (digI (n / 16 / 16 % 16).toNat), .int .u8 (digI (n / 16 % 16).toNat), .int .u8 (digI (n % 16).toNat)] 5)) := fun V =>
    conv_new (P := Try.prog) (V.alloc (.cells figs 82)) [digI (n / 16 / 16 / 16 / 16 / 16 % 16).toNat, digI (n / 16 / 16 / 16 / 16 % 16).toNat, digI (n / 16 / 16 / 16 % 16).toNat, digI (n / 16 / 16 % 16).toNat, digI (n / 16 % 16).toNat, digI (n % 16).toNat] rfl (by simp) Try.underlying42 Try.underlying5 Try.underlying9
  have hx0 := figs_int (n % 16) (by omega) (by omega)
  have hx1 := figs_int (n / 16 % 16) (by omega) (by omega)
  have hx2 := figs_int (n / 16 / 16 % 16) (by omega) (by omega)
  have hx3 := figs_int (n / 16 / 16 / 16 % 16) (by omega) (by omega)
  have hx4 := figs_int (n / 16 / 16 / 16 / 16 % 16) (by omega) (by omega)
  have hx5 := figs_int (n / 16 / 16 / 16 / 16 / 16 % 16) (by omega) (by omega)
  go_enter Try.func46, Try.ntmps46
  go_wp2_with (go_at_call 58; refine (figures_any _).mono ?_; rintro e w' ⟨rfl, hb⟩)
  go_rounds 7
  go_ret
  exact ⟨rfl, by have := hb.size; go_grown⟩
set_option maxHeartbeats 400000 in
theorem hex_7 (n : Int) (w : World) (h0 : 0 ≤ n) (h1 : n ≤ 4294967295) :
    Calls Try.prog 46 #[.int .u32 n, .int .i64 7] w fun e w' => e = .returned (.string (strOfNums (hexL n 7))) ∧ Below w.heap.size w w' := by
  have hmk : ∀ w, (Instr.makeSlice 42 (.int .i64 7) (.int .i64 7)).run Try.prog w = .ok (.slice (some ⟨w.heap.size, 0, none⟩) 7 7) (w.alloc (.cells #[.int .u8 0, .int .u8 0, .int .u8 0, .int .u8 0, .int .u8 0, .int .u8 0, .int .u8 0] 5)) := fun _ => by kernel_rfl
  have hst := fun W => run_storeCells_new (P := Try.prog) W 82 #[.int .u8 0, .int .u8 0, .int .u8 0, .int .u8 0, .int .u8 0, .int .u8 0, .int .u8 0, .int .u8 0, .int .u8 0, .int .u8 0, .int .u8 0, .int .u8 0, .int .u8 0, .int .u8 0, .int .u8 0, .int .u8 0] figs (by kernel_rfl) rfl (by kernel_rfl)
  have hcv : ∀ V : World, (convert 42 9 (.slice (some ⟨V.heap.size + 1, 0, none⟩) 7 7)).run Try.prog ((V.alloc (.cells figs 82)).alloc (.cells #[.int .u8 (digI (n / 16 / 16 / 16 / 16 / 16 / 16 % 16).toNat), .int .u8 (digI (n / 16 / 16 / 16 / 16 / 16 % 16).toNat), .int .u8 (digI (n / 16 / 16 / 16 / 16 % 16).toNat), .int .u8 (digI (n / 16 / 16 / 16 % 16).toNat), .int .u8 (digI (n / 16 / 16 % 16).toNat), .int .u8 (digI (n / 16 % 16).toNat), .int .u8 (digI (n % 16).toNat)] 5)) = .ok (.string (strOfNums [digI (n / 16 / 16 / 16 / 16 / 16 / 16 % 16).toNat, digI (n / 16 / 16 / 16 / 16 / 16 % 16).toNat, digI (n / 16 / 16 / 16 / 16 % 16).toNat, digI (n / 16 / 16 / 16 % 16).toNat, digI (n / 16 / 16 % 16).toNat, digI (n / 16 % 16).toNat, digI (n % 16).toNat])) ((V.alloc (.cells figs 82)).alloc (.cells #[.int .u8 (digI (n / 16 / 16 / 16 / 16 / 16 / 16 % 16).toNat), .int .u8 (digI (n / 16 / 16 / 16 / 16 / 16 % 16).toNat), .int .u8 (digI (n / 16 / 16 / 16 / 16 % 16).toNat), .int .u8 (digI (n / 16 / 16 / 16 % 16).toNat), .int .u8 (digI (n / 16 / 16 % 16).toNat), .int .u8 (digI (n / 16 % 16).toNat), .int .u8 (digI (n % 16).toNat)] 5)) := fun V =>
    conv_new (P := Try.prog) (V.alloc (.cells figs 82)) [digI (n / 16 / 16 / 16 / 16 / 16 / 16 % 16).toNat, digI (n / 16 / 16 / 16 / 16 / 16 % 16).toNat, digI (n / 16 / 16 / 16 / 16 % 16).toNat, digI (n / 16 / 16 / 16 % 16).toNat, digI (n / 16 / 16 % 16).toNat, digI (n / 16 % 16).toNat, digI (n % 16).toNat] rfl (by simp) Try.underlying42 Try.underlying5 Try.underlying9
  have hx0 := figs_int (n % 16) (by omega) (by omega)
  have hx1 := figs_int (n / 16 % 16) (by omega) (by omega)
  have hx2 := figs_int (n / 16 / 16 % 16) (by omega) (by omega)
  have hx3 := figs_int (n / 16 / 16 / 16 % 16) (by omega) (by omega)
  have hx4 := figs_int (n / 16 / 16 / 16 / 16 % 16) (by omega) (by omega)
  have hx5 := figs_int (n / 16 / 16 / 16 / 16 / 16 % 16) (by omega) (by omega)
  have hx6 := figs_int (n / 16 / 16 / 16 / 16 / 16 / 16 % 16) (by omega) (by omega)
  go_enter Try.func46, Try.ntmps46
  go_wp2_with (go_at_call 58; refine (figures_any _).mono ?_; rintro e w' ⟨rfl, hb⟩)
  go_rounds 8
  go_ret
  exact ⟨rfl, by have := hb.size; go_grown⟩
set_option maxHeartbeats 400000 in
theorem hex_8 (n : Int) (w : World) (h0 : 0 ≤ n) (h1 : n ≤ 4294967295) :
    Calls Try.prog 46 #[.int .u32 n, .int .i64 8] w fun e w' => e = .returned (.string (strOfNums (hexL n 8))) ∧ Below w.heap.size w w' := by
  have hmk : ∀ w, (Instr.makeSlice 42 (.int .i64 8) (.int .i64 8)).run Try.prog w = .ok (.slice (some ⟨w.heap.size, 0, none⟩) 8 8) (w.alloc (.cells #[.int .u8 0, .int .u8 0, .int .u8 0, .int .u8 0, .int .u8 0, .int .u8 0, .int .u8 0, .int .u8 0] 5)) := fun _ => by kernel_rfl
  have hst := fun W => run_storeCells_new (P := Try.prog) W 82 #[.int .u8 0, .int .u8 0, .int .u8 0, .int .u8 0, .int .u8 0, .int .u8 0, .int .u8 0, .int .u8 0, .int .u8 0, .int .u8 0, .int .u8 0, .int .u8 0, .int .u8 0, .int .u8 0, .int .u8 0, .int .u8 0] figs (by kernel_rfl) rfl (by kernel_rfl)
  have hcv : ∀ V : World, (convert 42 9 (.slice (some ⟨V.heap.size + 1, 0, none⟩) 8 8)).run Try.prog ((V.alloc (.cells figs 82)).alloc (.cells #[.int .u8 (digI (n / 16 / 16 / 16 / 16 / 16 / 16 / 16 % 16).toNat), .int .u8 (digI (n / 16 / 16 / 16 / 16 / 16 / 16 % 16).toNat), .int .u8 (digI (n / 16 / 16 / 16 / 16 / 16 % 16).toNat), .int .u8 (digI (n / 16 / 16 / 16 / 16 % 16).toNat), .int .u8 (digI (n / 16 / 16 / 16 % 16).toNat), .int .u8 (digI (n / 16 / 16 % 16).toNat), .int .u8 (digI (n / 16 % 16).toNat), .int .u8 (digI (n % 16).toNat)] 5)) = .ok (.string (strOfNums [digI (n / 16 / 16 / 16 / 16 / 16 / 16 / 16 % 16).toNat, digI (n / 16 / 16 / 16 / 16 / 16 / 16 % 16).toNat, digI (n / 16 / 16 / 16 / 16 / 16 % 16).toNat, digI (n / 16 / 16 / 16 / 16 % 16).toNat, digI (n / 16 / 16 / 16 % 16).toNat, digI (n / 16 / 16 % 16).toNat, digI (n / 16 % 16).toNat, digI (n % 16).toNat])) ((V.alloc (.cells figs 82)).alloc (.cells #[.int .u8 (digI (n / 16 / 16 / 16 / 16 / 16 / 16 / 16 % 16).toNat), .int .u8 (digI (n / 16 / 16 / 16 / 16 / 16 / 16 % 16).toNat), .int .u8 (digI (n / 16 / 16 / 16 / 16 / 16 % 16).toNat), .int .u8 (digI (n / 16 / 16 / 16 / 16 % 16).toNat), .int .u8 (digI (n / 16 / 16 / 16 % 16).toNat), .int .u8 (digI (n / 16 / 16 % 16).toNat), .int .u8 (digI (n / 16 % 16).toNat), .int .u8 (digI (n % 16).toNat)] 5)) := fun V =>
    conv_new (P := Try.prog) (V.alloc (.cells figs 82)) [digI (n / 16 / 16 / 16 / 16 / 16 / 16 / 16 % 16).toNat, digI (n / 16 / 16 / 16 / 16 / 16 / 16 % 16).toNat, digI (n / 16 / 16 / 16 / 16 / 16 % 16).toNat, digI (n / 16 / 16 / 16 / 16 % 16).toNat, digI (n / 16 / 16 / 16 % 16).toNat, digI (n / 16 / 16 % 16).toNat, digI (n / 16 % 16).toNat, digI (n % 16).toNat] rfl (by simp) Try.underlying42 Try.underlying5 Try.underlying9
  have hx0 := figs_int (n % 16) (by omega) (by omega)
  have hx1 := figs_int (n / 16 % 16) (by omega) (by omega)
  have hx2 := figs_int (n / 16 / 16 % 16) (by omega) (by omega)
  have hx3 := figs_int (n / 16 / 16 / 16 % 16) (by omega) (by omega)
  have hx4 := figs_int (n / 16 / 16 / 16 / 16 % 16) (by omega) (by omega)
  have hx5 := figs_int (n / 16 / 16 / 16 / 16 / 16 % 16) (by omega) (by omega)
  have hx6 := figs_int (n / 16 / 16 / 16 / 16 / 16 / 16 % 16) (by omega) (by omega)
  have hx7 := figs_int (n / 16 / 16 / 16 / 16 / 16 / 16 / 16 % 16) (by omega) (by omega)
  go_enter Try.func46, Try.ntmps46
  go_wp2_with (go_at_call 58; refine (figures_any _).mono ?_; rintro e w' ⟨rfl, hb⟩)
  go_rounds 9
  go_ret
  exact ⟨rfl, by have := hb.size; go_grown⟩
set_option maxHeartbeats 400000 in
theorem hex_hi (n d : Int) (w : World) (h0 : 0 ≤ n) (h1 : n ≤ 4294967295) (hd : 8 < d) :
    Calls Try.prog 46 #[.int .u32 n, .int .i64 d] w fun e w' => e = .returned (.string (strOfNums (hexL n 8))) ∧ Below w.heap.size w w' := by
  have hmk : ∀ w, (Instr.makeSlice 42 (.int .i64 8) (.int .i64 8)).run Try.prog w = .ok (.slice (some ⟨w.heap.size, 0, none⟩) 8 8) (w.alloc (.cells #[.int .u8 0, .int .u8 0, .int .u8 0, .int .u8 0, .int .u8 0, .int .u8 0, .int .u8 0, .int .u8 0] 5)) := fun _ => by kernel_rfl
  have hst := fun W => run_storeCells_new (P := Try.prog) W 82 #[.int .u8 0, .int .u8 0, .int .u8 0, .int .u8 0, .int .u8 0, .int .u8 0, .int .u8 0, .int .u8 0, .int .u8 0, .int .u8 0, .int .u8 0, .int .u8 0, .int .u8 0, .int .u8 0, .int .u8 0, .int .u8 0] figs (by kernel_rfl) rfl (by kernel_rfl)
  have hcv : ∀ V : World, (convert 42 9 (.slice (some ⟨V.heap.size + 1, 0, none⟩) 8 8)).run Try.prog ((V.alloc (.cells figs 82)).alloc (.cells #[.int .u8 (digI (n / 16 / 16 / 16 / 16 / 16 / 16 / 16 % 16).toNat), .int .u8 (digI (n / 16 / 16 / 16 / 16 / 16 / 16 % 16).toNat), .int .u8 (digI (n / 16 / 16 / 16 / 16 / 16 % 16).toNat), .int .u8 (digI (n / 16 / 16 / 16 / 16 % 16).toNat), .int .u8 (digI (n / 16 / 16 / 16 % 16).toNat), .int .u8 (digI (n / 16 / 16 % 16).toNat), .int .u8 (digI (n / 16 % 16).toNat), .int .u8 (digI (n % 16).toNat)] 5)) = .ok (.string (strOfNums [digI (n / 16 / 16 / 16 / 16 / 16 / 16 / 16 % 16).toNat, digI (n / 16 / 16 / 16 / 16 / 16 / 16 % 16).toNat, digI (n / 16 / 16 / 16 / 16 / 16 % 16).toNat, digI (n / 16 / 16 / 16 / 16 % 16).toNat, digI (n / 16 / 16 / 16 % 16).toNat, digI (n / 16 / 16 % 16).toNat, digI (n / 16 % 16).toNat, digI (n % 16).toNat])) ((V.alloc (.cells figs 82)).alloc (.cells #[.int .u8 (digI (n / 16 / 16 / 16 / 16 / 16 / 16 / 16 % 16).toNat), .int .u8 (digI (n / 16 / 16 / 16 / 16 / 16 / 16 % 16).toNat), .int .u8 (digI (n / 16 / 16 / 16 / 16 / 16 % 16).toNat), .int .u8 (digI (n / 16 / 16 / 16 / 16 % 16).toNat), .int .u8 (digI (n / 16 / 16 / 16 % 16).toNat), .int .u8 (digI (n / 16 / 16 % 16).toNat), .int .u8 (digI (n / 16 % 16).toNat), .int .u8 (digI (n % 16).toNat)] 5)) := fun V =>
    conv_new (P := Try.prog) (V.alloc (.cells figs 82)) [digI (n / 16 / 16 / 16 / 16 / 16 / 16 / 16 % 16).toNat, digI (n / 16 / 16 / 16 / 16 / 16 / 16 % 16).toNat, digI (n / 16 / 16 / 16 / 16 / 16 % 16).toNat, digI (n / 16 / 16 / 16 / 16 % 16).toNat, digI (n / 16 / 16 / 16 % 16).toNat, digI (n / 16 / 16 % 16).toNat, digI (n / 16 % 16).toNat, digI (n % 16).toNat] rfl (by simp) Try.underlying42 Try.underlying5 Try.underlying9
  have hx0 := figs_int (n % 16) (by omega) (by omega)
  have hx1 := figs_int (n / 16 % 16) (by omega) (by omega)
  have hx2 := figs_int (n / 16 / 16 % 16) (by omega) (by omega)
  have hx3 := figs_int (n / 16 / 16 / 16 % 16) (by omega) (by omega)
  have hx4 := figs_int (n / 16 / 16 / 16 / 16 % 16) (by omega) (by omega)
  have hx5 := figs_int (n / 16 / 16 / 16 / 16 / 16 % 16) (by omega) (by omega)
  have hx6 := figs_int (n / 16 / 16 / 16 / 16 / 16 / 16 % 16) (by omega) (by omega)
  have hx7 := figs_int (n / 16 / 16 / 16 / 16 / 16 / 16 / 16 % 16) (by omega) (by omega)
  go_enter Try.func46, Try.ntmps46
  go_wp2_with (go_at_call 58; refine (figures_any _).mono ?_; rintro e w' ⟨rfl, hb⟩)
  go_rounds 9
  go_ret
  exact ⟨rfl, by have := hb.size; go_grown⟩
def held8 (d : Int) : Nat := if d < 1 then 1 else if 8 < d then 8 else d.toNat
theorem hex_any (n d : Int) (w : World) (h0 : 0 ≤ n) (h1 : n ≤ 4294967295) :
    Calls Try.prog 46 #[.int .u32 n, .int .i64 d] w fun e w' => e = .returned (.string (strOfNums (hexL n (held8 d)))) ∧ Below w.heap.size w w' := by
  by_cases a : d < 1
  · have : held8 d = 1 := by unfold held8; rw [if_pos a]
    rw [this]; exact hex_lo n d w h0 h1 a
  · by_cases b : 8 < d
    · have : held8 d = 8 := by unfold held8; rw [if_neg a, if_pos b]
      rw [this]; exact hex_hi n d w h0 h1 b
    · have : d = 1 ∨ d = 2 ∨ d = 3 ∨ d = 4 ∨ d = 5 ∨ d = 6 ∨ d = 7 ∨ d = 8 := by omega
      rcases this with rfl | rfl | rfl | rfl | rfl | rfl | rfl | rfl
      · exact hex_1 n w h0 h1
      · exact hex_2 n w h0 h1
      · exact hex_3 n w h0 h1
      · exact hex_4 n w h0 h1
      · exact hex_5 n w h0 h1
      · exact hex_6 n w h0 h1
      · exact hex_7 n w h0 h1
      · exact hex_8 n w h0 h1
end Go.Proofs.Ytcckojleeojpiaa
