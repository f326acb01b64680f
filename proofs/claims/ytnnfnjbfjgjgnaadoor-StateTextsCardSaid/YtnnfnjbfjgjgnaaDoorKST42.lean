/-
  Texts of these proofs, one behind the other: Rst3.
-/
import Derived.Test.YtnnfnjbfjgjgnaaDoorKST41
import Derived.Test.YtnnfnjbfjgjgnaaDoorKST38
namespace Go.Proofs.YtnnfnjbfjgjgnaaDoor
open Go.RowKit
set_option linter.unusedVariables false
set_option linter.unusedSimpArgs false
set_option maxRecDepth 100000
theorem add_pos_ (ad : Addr) (j : Nat) (h : 0 < j) : ad.add j = ⟨ad.block, ad.off + j, none⟩ := by unfold Addr.add; rw [if_neg (by omega)]
set_option maxHeartbeats 16000000 in
theorem rsof_any {w : World} (A : Option Addr) (n c : Nat) (z : Nat → Int) (R : IRow w .u8 A n z) (gc : n ≤ c) : Calls Tryd.prog 9 #[.slice A n c] w fun e w' => e = .returned (.tuple #[.agg (stA (ofR n z)), .int .i64 (ofE n z)]) ∧ Below w.heap.size w w' := by
  have HR := Lib.hid R
  have B1 := Lib.hid ((Below.refl _ w).alloc (Nat.le_refl _) (.cells #[.int .u8 0, .int .u8 0, .int .u8 0, .int .u8 0, .int .u8 0, .int .u16 0, .int .u8 0, .int .u8 0, .int .u8 0, .int .u8 0, .int .u8 0, .int .u8 0, .int .u8 0, .int .u8 0, .int .u8 0, .bool false] 25))
  have K0 := Lib.hid (Blk.new w 25 #[.int .u8 0, .int .u8 0, .int .u8 0, .int .u8 0, .int .u8 0, .int .u16 0, .int .u8 0, .int .u8 0, .int .u8 0, .int .u8 0, .int .u8 0, .int .u8 0, .int .u8 0, .int .u8 0, .int .u8 0, .bool false])
  have hld := (Blk.new w 25 #[.int .u8 0, .int .u8 0, .int .u8 0, .int .u8 0, .int .u8 0, .int .u16 0, .int .u8 0, .int .u8 0, .int .u8 0, .int .u8 0, .int .u8 0, .int .u8 0, .int .u8 0, .int .u8 0, .int .u8 0, .bool false]).run_load (P := Tryd.prog) Tryd.underlying25 rfl size_state
  have HD := Lib.hid hld
  clear R hld
  by_cases h1 : n < 17
  · have e : ofE n z = 4 := if_pos h1
    have e2 : ofR n z = fun _ => 0 := by unfold ofR; rw [if_neg (by rw [e]; decide)]
    rw [e, e2, stA_zero]
    have h1' : (n : Int) < 17 := by omega
    clear e e2
    go_enter Tryd.func9, Tryd.ntmps9
    go_wp2_with fail
    (try simp only [Exit.inBlock, Exit.then])
    refine bodyPost_ret (results_cell_tmp (a := ⟨w.heap.size, 0, none⟩) Tryd.results9 (by rfl) HD.out rfl) rfl ?_
    exact ⟨rfl, B1.out⟩
  · by_cases h2 : 17 < n
    · have e : ofE n z = 2 := by unfold ofE; rw [if_neg h1, if_pos h2]
      have e2 : ofR n z = fun _ => 0 := by unfold ofR; rw [if_neg (by rw [e]; decide)]
      rw [e, e2, stA_zero]
      have h1' : ¬ (n : Int) < 17 := by omega
      have h2' : (17 : Int) < n := by omega
      clear e e2
      go_enter Tryd.func9, Tryd.ntmps9
      go_wp2_with fail
      (try simp only [Exit.inBlock, Exit.then])
      refine bodyPost_ret (results_cell_tmp (a := ⟨w.heap.size, 0, none⟩) Tryd.results9 (by rfl) HD.out rfl) rfl ?_
      exact ⟨rfl, B1.out⟩
    · obtain rfl : n = 17 := by omega
      obtain ⟨ad, rfl⟩ : ∃ ad, A = some ad := by obtain ⟨ad, e, _⟩ := HR.out 0 (by decide); exact ⟨ad, e⟩
      have hcell : ∀ j, j < 17 → w.cell? (ad.add j) = some (.int .u8 (z j)) ∧ 0 ≤ z j ∧ z j ≤ 255 := fun j hj => by
        obtain ⟨_, e, _, hc, hw⟩ := HR.out j hj
        cases e
        exact ⟨hc, wf_u8_ hw⟩
      have hcell2 : ∀ j, 0 < j → j < 17 → w.cell? ⟨ad.block, ad.off + j, none⟩ = some (.int .u8 (z j)) := fun j h0 hj => by rw [← add_pos_ ad j h0]; exact (hcell j hj).1
      have c0 : w.cell? ad = some (.int .u8 (z 0)) := by have := (hcell 0 (by decide)).1; rwa [add_zero_] at this
      have c1 := hcell2 1 (by decide) (by decide)
      have c2 := hcell2 2 (by decide) (by decide)
      have c3 := hcell2 3 (by decide) (by decide)
      have c4 := hcell2 4 (by decide) (by decide)
      have c5 := hcell2 5 (by decide) (by decide)
      have c6 := hcell2 6 (by decide) (by decide)
      have c15 := hcell2 15 (by decide) (by decide)
      have c16 := hcell2 16 (by decide) (by decide)
      have b0 := (hcell 0 (by decide)).2
      have b1 := (hcell 1 (by decide)).2
      have b2 := (hcell 2 (by decide)).2
      have b3 := (hcell 3 (by decide)).2
      have b4 := (hcell 4 (by decide)).2
      have b5 := (hcell 5 (by decide)).2
      have b6 := (hcell 6 (by decide)).2
      have b15 := (hcell 15 (by decide)).2
      have b16 := (hcell 16 (by decide)).2
      obtain ⟨x0, e0⟩ : ∃ x, z 0 = x := ⟨_, rfl⟩
      rw [e0] at c0 b0
      obtain ⟨x1, e1⟩ : ∃ x, z 1 = x := ⟨_, rfl⟩
      rw [e1] at c1 b1
      obtain ⟨x2, e2⟩ : ∃ x, z 2 = x := ⟨_, rfl⟩
      rw [e2] at c2 b2
      obtain ⟨x3, e3⟩ : ∃ x, z 3 = x := ⟨_, rfl⟩
      rw [e3] at c3 b3
      obtain ⟨x4, e4⟩ : ∃ x, z 4 = x := ⟨_, rfl⟩
      rw [e4] at c4 b4
      obtain ⟨x5, e5⟩ : ∃ x, z 5 = x := ⟨_, rfl⟩
      rw [e5] at c5 b5
      obtain ⟨x6, e6⟩ : ∃ x, z 6 = x := ⟨_, rfl⟩
      rw [e6] at c6 b6
      obtain ⟨x15, e15⟩ : ∃ x, z 15 = x := ⟨_, rfl⟩
      rw [e15] at c15 b15
      obtain ⟨x16, e16⟩ : ∃ x, z 16 = x := ⟨_, rfl⟩
      rw [e16] at c16 b16
      have HC := Lib.hid hcell
      have HC2 := Lib.hid hcell2
      have gc' : (17 : Int) ≤ c := by omega
      have hcw : (w.alloc (.cells #[.int .u8 0, .int .u8 0, .int .u8 0, .int .u8 0, .int .u8 0, .int .u16 0, .int .u8 0, .int .u8 0, .int .u8 0, .int .u8 0, .int .u8 0, .int .u8 0, .int .u8 0, .int .u8 0, .int .u8 0, .bool false] 25)).cell? ⟨ad.block, ad.off + 16, none⟩ = some (.int .u8 x16) := (((Below.refl _ w).alloc (Nat.le_refl _) _).cell (World.block_lt_of_cell? _ _ c16)).trans c16
      clear hcell hcell2 HR h1 h2
      by_cases h3 : 1 < x16
      · have e : ofE 17 z = 3 := by unfold ofE; rw [if_neg (by decide), if_neg (by decide), if_pos (by rw [e16]; exact h3)]
        have e2' : ofR 17 z = fun _ => 0 := by unfold ofR; rw [if_neg (by rw [e]; decide)]
        rw [e, e2', stA_zero]
        clear e e2' e0 e1 e2 e3 e4 e5 e6 e15 e16 c0 c1 c2 c3 c4 c5 c6 c15 c16
        go_enter Tryd.func9, Tryd.ntmps9
        go_wp2_with fail
        (try simp only [Exit.inBlock, Exit.then])
        refine bodyPost_ret (results_cell_tmp (a := ⟨w.heap.size, 0, none⟩) Tryd.results9 (by rfl) HD.out rfl) rfl ?_
        exact ⟨rfl, B1.out⟩
      · have e : ofE 17 z = 0 := by unfold ofE; rw [if_neg (by decide), if_neg (by decide), if_neg (by rw [e16]; exact h3)]
        have e2' : ofR 17 z = ofZ z := by unfold ofR; rw [if_pos e]
        rw [e, e2']
        have HL : Hid (#[.int .u8 x0, .int .u8 x1, .int .u8 x2, .int .u8 x3, .int .u8 x4, .int .u16 (x5 + 256 * x6), .int .u8 0, .int .u8 0, .int .u8 0, .int .u8 0, .int .u8 0, .int .u8 0, .int .u8 0, .int .u8 0, .int .u8 x15, .bool (decide (x16 = 1))] = stA (offP (ofZ z) 0)) := Lib.hid (by rw [← e0, ← e1, ← e2, ← e3, ← e4, ← e5, ← e6, ← e15, ← e16]; rfl)
        have g5 : IntKind.u16.wrap x5 = x5 := IntWalk.u16_in _ (by omega)
        have g6 : IntKind.u16.wrap x6 = x6 := IntWalk.u16_in _ (by omega)
        have g7 : IntKind.u16.wrap (256 * x6) = 256 * x6 := IntWalk.u16_in _ (by omega)
        have g8 : IntKind.u16.wrap (x5 + 256 * x6) = x5 + 256 * x6 := IntWalk.u16_in _ (by omega)
        have hS : Hid (∀ W, Below w.heap.size w W → (W.cell? ad = some (.int .u8 x0) ∧ W.cell? ⟨ad.block, ad.off + 1, none⟩ = some (.int .u8 x1) ∧ W.cell? ⟨ad.block, ad.off + 2, none⟩ = some (.int .u8 x2) ∧ W.cell? ⟨ad.block, ad.off + 3, none⟩ = some (.int .u8 x3) ∧ W.cell? ⟨ad.block, ad.off + 4, none⟩ = some (.int .u8 x4) ∧ W.cell? ⟨ad.block, ad.off + 5, none⟩ = some (.int .u8 x5) ∧ W.cell? ⟨ad.block, ad.off + 6, none⟩ = some (.int .u8 x6) ∧ W.cell? ⟨ad.block, ad.off + 15, none⟩ = some (.int .u8 x15) ∧ W.cell? ⟨ad.block, ad.off + 16, none⟩ = some (.int .u8 x16))) := Lib.hid fun W hb => ⟨(hb.cell (World.block_lt_of_cell? _ _ c0)).trans c0, (hb.cell (World.block_lt_of_cell? _ _ c1)).trans c1, (hb.cell (World.block_lt_of_cell? _ _ c2)).trans c2, (hb.cell (World.block_lt_of_cell? _ _ c3)).trans c3, (hb.cell (World.block_lt_of_cell? _ _ c4)).trans c4, (hb.cell (World.block_lt_of_cell? _ _ c5)).trans c5, (hb.cell (World.block_lt_of_cell? _ _ c6)).trans c6, (hb.cell (World.block_lt_of_cell? _ _ c15)).trans c15, (hb.cell (World.block_lt_of_cell? _ _ c16)).trans c16⟩
        clear e e2' e0 e1 e2 e3 e4 e5 e6 e15 e16 c0 c1 c2 c3 c4 c5 c6 c15 c16
        go_enter Tryd.func9, Tryd.ntmps9
        go_upto_region 7 with fail
        clear hcw
        generalize World.alloc w _ = w1 at *
        have hz1 : w1.heap.size = w1.heap.size := rfl
        refine rg_begin (S := fun w' => w'.cell? ad = some (.int .u8 x0) ∧ w'.cell? ⟨ad.block, ad.off + 1, none⟩ = some (.int .u8 x1) ∧ w'.cell? ⟨ad.block, ad.off + 2, none⟩ = some (.int .u8 x2) ∧ w'.cell? ⟨ad.block, ad.off + 3, none⟩ = some (.int .u8 x3) ∧ w'.cell? ⟨ad.block, ad.off + 4, none⟩ = some (.int .u8 x4) ∧ w'.cell? ⟨ad.block, ad.off + 5, none⟩ = some (.int .u8 x5) ∧ w'.cell? ⟨ad.block, ad.off + 6, none⟩ = some (.int .u8 x6) ∧ w'.cell? ⟨ad.block, ad.off + 15, none⟩ = some (.int .u8 x15) ∧ w'.cell? ⟨ad.block, ad.off + 16, none⟩ = some (.int .u8 x16)) 35 #[false, false, false, false, false, false, false, false, false, false, false, false, false, false, false, false, false, false, false, false, false, false, false, false, false, false, false, false, false, false, false, false, false, false, false] (by kernel_rfl) (by kernel_rfl) (by kernel_rfl) ?_ (fun hHeld => ?_)
        · exact hS.out _ B1.out.drew
        refine rg_take (i := 0) (d := some 19) (l := #[true, false, false, false, false, false, false, false, false, false, false, false, false, false, false, false, false, false, false, false, false, false, false, false, false, false, false, false, false, false, false, false, false, false, false]) (fuel := 34) (v := ?_) rfl (by kernel_rfl) (by kernel_rfl) (by kernel_rfl) (by kernel_rfl) (by kernel_rfl) (fun _ _ _ h => h) (by kernel_rfl) ?_ (by assumption) ?_
        rotate_left 1
        · (intro wS hSw; (try dsimp only at hSw); go_simp; try with_reducible rfl)
        try simp only [Act.put, List.setIfInBounds_toArray, List.set_cons_zero, List.set_cons_succ]
        refine rg_take (i := 1) (d := some 20) (l := #[true, true, false, false, false, false, false, false, false, false, false, false, false, false, false, false, false, false, false, false, false, false, false, false, false, false, false, false, false, false, false, false, false, false, false]) (fuel := 33) (v := ?_) rfl (by kernel_rfl) (by kernel_rfl) (by kernel_rfl) (by kernel_rfl) (by kernel_rfl) (fun _ _ _ h => h) (by kernel_rfl) ?_ (by assumption) ?_
        rotate_left 1
        · (intro wS hSw; (try dsimp only at hSw); go_simp; try with_reducible rfl)
        try simp only [Act.put, List.setIfInBounds_toArray, List.set_cons_zero, List.set_cons_succ]
        refine rg_take (i := 2) (d := some 21) (l := #[true, true, true, false, false, false, false, false, false, false, false, false, false, false, false, false, false, false, false, false, false, false, false, false, false, false, false, false, false, false, false, false, false, false, false]) (fuel := 32) (v := ?_) rfl (by kernel_rfl) (by kernel_rfl) (by kernel_rfl) (by kernel_rfl) (by kernel_rfl) (fun _ _ _ h => h) (by kernel_rfl) ?_ (by assumption) ?_
        rotate_left 1
        · (intro wS hSw; (try dsimp only at hSw); go_simp; try with_reducible rfl)
        try simp only [Act.put, List.setIfInBounds_toArray, List.set_cons_zero, List.set_cons_succ]
        refine rg_take (i := 3) (d := some 22) (l := #[true, true, true, true, false, false, false, false, false, false, false, false, false, false, false, false, false, false, false, false, false, false, false, false, false, false, false, false, false, false, false, false, false, false, false]) (fuel := 31) (v := ?_) rfl (by kernel_rfl) (by kernel_rfl) (by kernel_rfl) (by kernel_rfl) (by kernel_rfl) (fun _ _ _ h => h) (by kernel_rfl) ?_ (by assumption) ?_
        rotate_left 1
        · (intro wS hSw; (try dsimp only at hSw); go_simp; try with_reducible rfl)
        try simp only [Act.put, List.setIfInBounds_toArray, List.set_cons_zero, List.set_cons_succ]
        refine rg_take (i := 4) (d := some 23) (l := #[true, true, true, true, true, false, false, false, false, false, false, false, false, false, false, false, false, false, false, false, false, false, false, false, false, false, false, false, false, false, false, false, false, false, false]) (fuel := 30) (v := ?_) rfl (by kernel_rfl) (by kernel_rfl) (by kernel_rfl) (by kernel_rfl) (by kernel_rfl) (fun _ _ _ h => h) (by kernel_rfl) ?_ (by assumption) ?_
        rotate_left 1
        · (intro wS hSw; (try dsimp only at hSw); go_simp; try with_reducible rfl)
        try simp only [Act.put, List.setIfInBounds_toArray, List.set_cons_zero, List.set_cons_succ]
        refine rg_take (i := 5) (d := some 24) (l := #[true, true, true, true, true, true, false, false, false, false, false, false, false, false, false, false, false, false, false, false, false, false, false, false, false, false, false, false, false, false, false, false, false, false, false]) (fuel := 29) (v := ?_) rfl (by kernel_rfl) (by kernel_rfl) (by kernel_rfl) (by kernel_rfl) (by kernel_rfl) (fun _ _ _ h => h) (by kernel_rfl) ?_ (by assumption) ?_
        rotate_left 1
        · (intro wS hSw; (try dsimp only at hSw); go_simp; try with_reducible rfl)
        try simp only [Act.put, List.setIfInBounds_toArray, List.set_cons_zero, List.set_cons_succ]
        refine rg_take (i := 6) (d := some 25) (l := #[true, true, true, true, true, true, true, false, false, false, false, false, false, false, false, false, false, false, false, false, false, false, false, false, false, false, false, false, false, false, false, false, false, false, false]) (fuel := 28) (v := ?_) rfl (by kernel_rfl) (by kernel_rfl) (by kernel_rfl) (by kernel_rfl) (by kernel_rfl) (fun _ _ _ h => h) (by kernel_rfl) ?_ (by assumption) ?_
        rotate_left 1
        · (intro wS hSw; (try dsimp only at hSw); go_simp; try with_reducible rfl)
        try simp only [Act.put, List.setIfInBounds_toArray, List.set_cons_zero, List.set_cons_succ]
        refine rg_take (i := 7) (d := some 26) (l := #[true, true, true, true, true, true, true, true, false, false, false, false, false, false, false, false, false, false, false, false, false, false, false, false, false, false, false, false, false, false, false, false, false, false, false]) (fuel := 27) (v := ?_) rfl (by kernel_rfl) (by kernel_rfl) (by kernel_rfl) (by kernel_rfl) (by kernel_rfl) (fun _ _ _ h => h) (by kernel_rfl) ?_ (by assumption) ?_
        rotate_left 1
        · (intro wS hSw; (try dsimp only at hSw); go_simp; try with_reducible rfl)
        try simp only [Act.put, List.setIfInBounds_toArray, List.set_cons_zero, List.set_cons_succ]
        refine rg_take (i := 8) (d := some 27) (l := #[true, true, true, true, true, true, true, true, true, false, false, false, false, false, false, false, false, false, false, false, false, false, false, false, false, false, false, false, false, false, false, false, false, false, false]) (fuel := 26) (v := ?_) rfl (by kernel_rfl) (by kernel_rfl) (by kernel_rfl) (by kernel_rfl) (by kernel_rfl) (fun _ _ _ h => h) (by kernel_rfl) ?_ (by assumption) ?_
        rotate_left 1
        · (intro wS hSw; (try dsimp only at hSw); go_simp; try with_reducible rfl)
        try simp only [Act.put, List.setIfInBounds_toArray, List.set_cons_zero, List.set_cons_succ]
        refine rg_take (i := 9) (d := some 28) (l := #[true, true, true, true, true, true, true, true, true, true, false, false, false, false, false, false, false, false, false, false, false, false, false, false, false, false, false, false, false, false, false, false, false, false, false]) (fuel := 25) (v := ?_) rfl (by kernel_rfl) (by kernel_rfl) (by kernel_rfl) (by kernel_rfl) (by kernel_rfl) (fun _ _ _ h => h) (by kernel_rfl) ?_ (by assumption) ?_
        rotate_left 1
        · (intro wS hSw; (try dsimp only at hSw); go_simp; try with_reducible rfl)
        try simp only [Act.put, List.setIfInBounds_toArray, List.set_cons_zero, List.set_cons_succ]
        refine rg_take (i := 10) (d := some 29) (l := #[true, true, true, true, true, true, true, true, true, true, true, false, false, false, false, false, false, false, false, false, false, false, false, false, false, false, false, false, false, false, false, false, false, false, false]) (fuel := 24) (v := ?_) rfl (by kernel_rfl) (by kernel_rfl) (by kernel_rfl) (by kernel_rfl) (by kernel_rfl) (fun _ _ _ h => h) (by kernel_rfl) ?_ (by assumption) ?_
        rotate_left 1
        · (intro wS hSw; (try dsimp only at hSw); go_simp; try with_reducible rfl)
        try simp only [Act.put, List.setIfInBounds_toArray, List.set_cons_zero, List.set_cons_succ]
        refine rg_take (i := 11) (d := some 30) (l := #[true, true, true, true, true, true, true, true, true, true, true, true, false, false, false, false, false, false, false, false, false, false, false, false, false, false, false, false, false, false, false, false, false, false, false]) (fuel := 23) (v := ?_) rfl (by kernel_rfl) (by kernel_rfl) (by kernel_rfl) (by kernel_rfl) (by kernel_rfl) (fun _ _ _ h => h) (by kernel_rfl) ?_ (by assumption) ?_
        rotate_left 1
        · (intro wS hSw; (try dsimp only at hSw); go_simp; try with_reducible rfl)
        try simp only [Act.put, List.setIfInBounds_toArray, List.set_cons_zero, List.set_cons_succ]
        refine rg_take (i := 12) (d := some 31) (l := #[true, true, true, true, true, true, true, true, true, true, true, true, true, false, false, false, false, false, false, false, false, false, false, false, false, false, false, false, false, false, false, false, false, false, false]) (fuel := 22) (v := ?_) rfl (by kernel_rfl) (by kernel_rfl) (by kernel_rfl) (by kernel_rfl) (by kernel_rfl) (fun _ _ _ h => h) (by kernel_rfl) ?_ (by assumption) ?_
        rotate_left 1
        · (intro wS hSw; (try dsimp only at hSw); go_simp; try with_reducible rfl)
        try simp only [Act.put, List.setIfInBounds_toArray, List.set_cons_zero, List.set_cons_succ]
        refine rg_take (i := 13) (d := some 32) (l := #[true, true, true, true, true, true, true, true, true, true, true, true, true, true, false, false, false, false, false, false, false, false, false, false, false, false, false, false, false, false, false, false, false, false, false]) (fuel := 21) (v := ?_) rfl (by kernel_rfl) (by kernel_rfl) (by kernel_rfl) (by kernel_rfl) (by kernel_rfl) (fun _ _ _ h => h) (by kernel_rfl) ?_ (by assumption) ?_
        rotate_left 1
        · (intro wS hSw; (try dsimp only at hSw); go_simp; try with_reducible rfl)
        try simp only [Act.put, List.setIfInBounds_toArray, List.set_cons_zero, List.set_cons_succ]
        refine rg_take (i := 14) (d := some 33) (l := #[true, true, true, true, true, true, true, true, true, true, true, true, true, true, true, false, false, false, false, false, false, false, false, false, false, false, false, false, false, false, false, false, false, false, false]) (fuel := 20) (v := ?_) rfl (by kernel_rfl) (by kernel_rfl) (by kernel_rfl) (by kernel_rfl) (by kernel_rfl) (fun _ _ _ h => h) (by kernel_rfl) ?_ (by assumption) ?_
        rotate_left 1
        · (intro wS hSw; (try dsimp only at hSw); go_simp; try with_reducible rfl)
        try simp only [Act.put, List.setIfInBounds_toArray, List.set_cons_zero, List.set_cons_succ]
        refine rg_take (i := 15) (d := some 34) (l := #[true, true, true, true, true, true, true, true, true, true, true, true, true, true, true, true, false, false, false, false, false, false, false, false, false, false, false, false, false, false, false, false, false, false, false]) (fuel := 19) (v := ?_) rfl (by kernel_rfl) (by kernel_rfl) (by kernel_rfl) (by kernel_rfl) (by kernel_rfl) (fun _ _ _ h => h) (by kernel_rfl) ?_ (by assumption) ?_
        rotate_left 1
        · (intro wS hSw; (try dsimp only at hSw); go_simp; try with_reducible rfl)
        try simp only [Act.put, List.setIfInBounds_toArray, List.set_cons_zero, List.set_cons_succ]
        refine rg_take (i := 16) (d := some 35) (l := #[true, true, true, true, true, true, true, true, true, true, true, true, true, true, true, true, true, false, false, false, false, false, false, false, false, false, false, false, false, false, false, false, false, false, false]) (fuel := 18) (v := ?_) rfl (by kernel_rfl) (by kernel_rfl) (by kernel_rfl) (by kernel_rfl) (by kernel_rfl) (fun _ _ _ h => h) (by kernel_rfl) ?_ (by assumption) ?_
        rotate_left 1
        · (intro wS hSw; (try dsimp only at hSw); go_simp; try with_reducible rfl)
        try simp only [Act.put, List.setIfInBounds_toArray, List.set_cons_zero, List.set_cons_succ]
        refine rg_take (i := 17) (d := some 36) (l := #[true, true, true, true, true, true, true, true, true, true, true, true, true, true, true, true, true, true, false, false, false, false, false, false, false, false, false, false, false, false, false, false, false, false, false]) (fuel := 17) (v := ?_) rfl (by kernel_rfl) (by kernel_rfl) (by kernel_rfl) (by kernel_rfl) (by kernel_rfl) (fun _ _ _ h => h) (by kernel_rfl) ?_ (by assumption) ?_
        rotate_left 1
        · (intro wS hSw; (try dsimp only at hSw); go_simp; try with_reducible rfl)
        try simp only [Act.put, List.setIfInBounds_toArray, List.set_cons_zero, List.set_cons_succ]
        refine rg_take (i := 18) (d := some 37) (l := #[true, true, true, true, true, true, true, true, true, true, true, true, true, true, true, true, true, true, true, false, false, false, false, false, false, false, false, false, false, false, false, false, false, false, false]) (fuel := 16) (v := ?_) rfl (by kernel_rfl) (by kernel_rfl) (by kernel_rfl) (by kernel_rfl) (by kernel_rfl) (fun _ _ _ h => h) (by kernel_rfl) ?_ (by assumption) ?_
        rotate_left 1
        · (intro wS hSw; (try dsimp only at hSw); go_simp; try with_reducible rfl)
        try simp only [Act.put, List.setIfInBounds_toArray, List.set_cons_zero, List.set_cons_succ]
        refine rg_take (i := 19) (d := some 38) (l := #[true, true, true, true, true, true, true, true, true, true, true, true, true, true, true, true, true, true, true, true, false, false, false, false, false, false, false, false, false, false, false, false, false, false, false]) (fuel := 15) (v := ?_) rfl (by kernel_rfl) (by kernel_rfl) (by kernel_rfl) (by kernel_rfl) (by kernel_rfl) (fun _ _ _ h => h) (by kernel_rfl) ?_ (by assumption) ?_
        rotate_left 1
        · (intro wS hSw; (try dsimp only at hSw); go_simp; try with_reducible rfl)
        try simp only [Act.put, List.setIfInBounds_toArray, List.set_cons_zero, List.set_cons_succ]
        refine rg_take (i := 20) (d := some 39) (l := #[true, true, true, true, true, true, true, true, true, true, true, true, true, true, true, true, true, true, true, true, true, false, false, false, false, false, false, false, false, false, false, false, false, false, false]) (fuel := 14) (v := ?_) rfl (by kernel_rfl) (by kernel_rfl) (by kernel_rfl) (by kernel_rfl) (by kernel_rfl) (fun _ _ _ h => h) (by kernel_rfl) ?_ (by assumption) ?_
        rotate_left 1
        · (intro wS hSw; (try dsimp only at hSw); go_simp; try with_reducible rfl)
        try simp only [Act.put, List.setIfInBounds_toArray, List.set_cons_zero, List.set_cons_succ]
        refine rg_take (i := 21) (d := some 40) (l := #[true, true, true, true, true, true, true, true, true, true, true, true, true, true, true, true, true, true, true, true, true, true, false, false, false, false, false, false, false, false, false, false, false, false, false]) (fuel := 13) (v := ?_) rfl (by kernel_rfl) (by kernel_rfl) (by kernel_rfl) (by kernel_rfl) (by kernel_rfl) (fun _ _ _ h => h) (by kernel_rfl) ?_ (by assumption) ?_
        rotate_left 1
        · (intro wS hSw; (try dsimp only at hSw); go_simp; try with_reducible rfl)
        try simp only [Act.put, List.setIfInBounds_toArray, List.set_cons_zero, List.set_cons_succ]
        refine rg_take (i := 22) (d := some 41) (l := #[true, true, true, true, true, true, true, true, true, true, true, true, true, true, true, true, true, true, true, true, true, true, true, false, false, false, false, false, false, false, false, false, false, false, false]) (fuel := 12) (v := ?_) rfl (by kernel_rfl) (by kernel_rfl) (by kernel_rfl) (by kernel_rfl) (by kernel_rfl) (fun _ _ _ h => h) (by kernel_rfl) ?_ (by assumption) ?_
        rotate_left 1
        · (intro wS hSw; (try dsimp only at hSw); go_simp; try with_reducible rfl)
        try simp only [Act.put, List.setIfInBounds_toArray, List.set_cons_zero, List.set_cons_succ]
        refine rg_take (i := 23) (d := some 42) (l := #[true, true, true, true, true, true, true, true, true, true, true, true, true, true, true, true, true, true, true, true, true, true, true, true, false, false, false, false, false, false, false, false, false, false, false]) (fuel := 11) (v := ?_) rfl (by kernel_rfl) (by kernel_rfl) (by kernel_rfl) (by kernel_rfl) (by kernel_rfl) (fun _ _ _ h => h) (by kernel_rfl) ?_ (by assumption) ?_
        rotate_left 1
        · (intro wS hSw; (try dsimp only at hSw); go_simp; try with_reducible rfl)
        try simp only [Act.put, List.setIfInBounds_toArray, List.set_cons_zero, List.set_cons_succ]
        refine rg_take (i := 24) (d := some 43) (l := #[true, true, true, true, true, true, true, true, true, true, true, true, true, true, true, true, true, true, true, true, true, true, true, true, true, false, false, false, false, false, false, false, false, false, false]) (fuel := 10) (v := ?_) rfl (by kernel_rfl) (by kernel_rfl) (by kernel_rfl) (by kernel_rfl) (by kernel_rfl) (fun _ _ _ h => h) (by kernel_rfl) ?_ (by assumption) ?_
        rotate_left 1
        · (intro wS hSw; (try dsimp only at hSw); go_simp; try with_reducible rfl)
        try simp only [Act.put, List.setIfInBounds_toArray, List.set_cons_zero, List.set_cons_succ]
        refine rg_take (i := 25) (d := some 44) (l := #[true, true, true, true, true, true, true, true, true, true, true, true, true, true, true, true, true, true, true, true, true, true, true, true, true, true, false, false, false, false, false, false, false, false, false]) (fuel := 9) (v := ?_) rfl (by kernel_rfl) (by kernel_rfl) (by kernel_rfl) (by kernel_rfl) (by kernel_rfl) (fun _ _ _ h => h) (by kernel_rfl) ?_ (by assumption) ?_
        rotate_left 1
        · (intro wS hSw; (try dsimp only at hSw); go_simp; try with_reducible rfl)
        try simp only [Act.put, List.setIfInBounds_toArray, List.set_cons_zero, List.set_cons_succ]
        refine rg_take (i := 26) (d := some 45) (l := #[true, true, true, true, true, true, true, true, true, true, true, true, true, true, true, true, true, true, true, true, true, true, true, true, true, true, true, false, false, false, false, false, false, false, false]) (fuel := 8) (v := ?_) rfl (by kernel_rfl) (by kernel_rfl) (by kernel_rfl) (by kernel_rfl) (by kernel_rfl) (fun _ _ _ h => h) (by kernel_rfl) ?_ (by assumption) ?_
        rotate_left 1
        · (intro wS hSw; (try dsimp only at hSw); go_simp; try with_reducible rfl)
        try simp only [Act.put, List.setIfInBounds_toArray, List.set_cons_zero, List.set_cons_succ]
        refine rg_take (i := 27) (d := some 46) (l := #[true, true, true, true, true, true, true, true, true, true, true, true, true, true, true, true, true, true, true, true, true, true, true, true, true, true, true, true, false, false, false, false, false, false, false]) (fuel := 7) (v := ?_) rfl (by kernel_rfl) (by kernel_rfl) (by kernel_rfl) (by kernel_rfl) (by kernel_rfl) (fun _ _ _ h => h) (by kernel_rfl) ?_ (by assumption) ?_
        rotate_left 1
        · (intro wS hSw; (try dsimp only at hSw); go_simp; try with_reducible rfl)
        try simp only [Act.put, List.setIfInBounds_toArray, List.set_cons_zero, List.set_cons_succ]
        refine rg_take (i := 28) (d := some 47) (l := #[true, true, true, true, true, true, true, true, true, true, true, true, true, true, true, true, true, true, true, true, true, true, true, true, true, true, true, true, true, false, false, false, false, false, false]) (fuel := 6) (v := ?_) rfl (by kernel_rfl) (by kernel_rfl) (by kernel_rfl) (by kernel_rfl) (by kernel_rfl) (fun _ _ _ h => h) (by kernel_rfl) ?_ (by assumption) ?_
        rotate_left 1
        · (intro wS hSw; (try dsimp only at hSw); go_simp; try with_reducible rfl)
        try simp only [Act.put, List.setIfInBounds_toArray, List.set_cons_zero, List.set_cons_succ]
        refine rg_take (i := 29) (d := some 48) (l := #[true, true, true, true, true, true, true, true, true, true, true, true, true, true, true, true, true, true, true, true, true, true, true, true, true, true, true, true, true, true, false, false, false, false, false]) (fuel := 5) (v := ?_) rfl (by kernel_rfl) (by kernel_rfl) (by kernel_rfl) (by kernel_rfl) (by kernel_rfl) (fun _ _ _ h => h) (by kernel_rfl) ?_ (by assumption) ?_
        rotate_left 1
        · (intro wS hSw; (try dsimp only at hSw); go_simp; try with_reducible rfl)
        try simp only [Act.put, List.setIfInBounds_toArray, List.set_cons_zero, List.set_cons_succ]
        refine rg_take (i := 30) (d := some 49) (l := #[true, true, true, true, true, true, true, true, true, true, true, true, true, true, true, true, true, true, true, true, true, true, true, true, true, true, true, true, true, true, true, false, false, false, false]) (fuel := 4) (v := ?_) rfl (by kernel_rfl) (by kernel_rfl) (by kernel_rfl) (by kernel_rfl) (by kernel_rfl) (fun _ _ _ h => h) (by kernel_rfl) ?_ (by assumption) ?_
        rotate_left 1
        · (intro wS hSw; (try dsimp only at hSw); go_simp; try with_reducible rfl)
        try simp only [Act.put, List.setIfInBounds_toArray, List.set_cons_zero, List.set_cons_succ]
        refine rg_take (i := 31) (d := some 50) (l := #[true, true, true, true, true, true, true, true, true, true, true, true, true, true, true, true, true, true, true, true, true, true, true, true, true, true, true, true, true, true, true, true, false, false, false]) (fuel := 3) (v := ?_) rfl (by kernel_rfl) (by kernel_rfl) (by kernel_rfl) (by kernel_rfl) (by kernel_rfl) (fun _ _ _ h => h) (by kernel_rfl) ?_ (by assumption) ?_
        rotate_left 1
        · (intro wS hSw; (try dsimp only at hSw); go_simp; try with_reducible rfl)
        try simp only [Act.put, List.setIfInBounds_toArray, List.set_cons_zero, List.set_cons_succ]
        refine rg_take (i := 32) (d := some 51) (l := #[true, true, true, true, true, true, true, true, true, true, true, true, true, true, true, true, true, true, true, true, true, true, true, true, true, true, true, true, true, true, true, true, true, false, false]) (fuel := 2) (v := ?_) rfl (by kernel_rfl) (by kernel_rfl) (by kernel_rfl) (by kernel_rfl) (by kernel_rfl) (fun _ _ _ h => h) (by kernel_rfl) ?_ (by assumption) ?_
        rotate_left 1
        · (intro wS hSw; (try dsimp only at hSw); go_simp; try with_reducible rfl)
        try simp only [Act.put, List.setIfInBounds_toArray, List.set_cons_zero, List.set_cons_succ]
        refine rg_next (i := 33) (l := #[true, true, true, true, true, true, true, true, true, true, true, true, true, true, true, true, true, true, true, true, true, true, true, true, true, true, true, true, true, true, true, true, true, true, false]) (fuel := 1) (by kernel_rfl) rfl (by kernel_rfl) (by kernel_rfl) (fun K hK => ?_)
        go_simp
        skip
        first | (refine hK.out _ _ ?_ (fun hHeld => ?_)) | (go_wp2_with fail; refine hK.out _ _ ?_ (fun hHeld => ?_))
        · (try dsimp only); exact hS.out _ (by exact (B1.out.alloc B1.out.size _).drew)
        clear hK K
        try simp only [Act.put, List.setIfInBounds_toArray, List.set_cons_zero, List.set_cons_succ]
        refine rg_next (i := 34) (l := #[true, true, true, true, true, true, true, true, true, true, true, true, true, true, true, true, true, true, true, true, true, true, true, true, true, true, true, true, true, true, true, true, true, true, true]) (fuel := 0) (by kernel_rfl) rfl (by kernel_rfl) (by kernel_rfl) (fun K hK => ?_)
        go_simp
        skip
        first | (refine hK.out _ _ ?_ (fun hHeld => ?_)) | (go_wp2_with fail; refine hK.out _ _ ?_ (fun hHeld => ?_))
        · (try dsimp only); exact hS.out _ (by exact (B1.out.alloc B1.out.size _).drew)
        clear hK K
        try simp only [Act.put, List.setIfInBounds_toArray, List.set_cons_zero, List.set_cons_succ]
        refine wpAnyH_done (by kernel_rfl) ?_ _
        clear hHeld
        have hlt1 := K0.out.lt
        have k4 : Blk (w1.alloc (.cells #[.int .u8 x0, .int .u8 x1, .int .u8 x2, .int .u8 x3, .int .u8 x4, .int .u16 (x5 + 256 * x6), .int .u8 0, .int .u8 0, .int .u8 0, .int .u8 0, .int .u8 0, .int .u8 0, .int .u8 0, .int .u8 0, .int .u8 x15, .bool (x16 == 1)] 25)).drew w1.heap.size 25 (stA (offP (ofZ z) 0)) := by rw [← HL.out]; exact (Blk.new w1 _ _).drew_
        have z4 : Blk (w1.alloc (.cells #[.int .u8 x0, .int .u8 x1, .int .u8 x2, .int .u8 x3, .int .u8 x4, .int .u16 (x5 + 256 * x6), .int .u8 0, .int .u8 0, .int .u8 0, .int .u8 0, .int .u8 0, .int .u8 0, .int .u8 0, .int .u8 0, .int .u8 x15, .bool (x16 == 1)] 25)).drew w.heap.size 25 _ := (K0.out.alloc _).drew_
        have b4' : Below w.heap.size w (w1.alloc (.cells #[.int .u8 x0, .int .u8 x1, .int .u8 x2, .int .u8 x3, .int .u8 x4, .int .u16 (x5 + 256 * x6), .int .u8 0, .int .u8 0, .int .u8 0, .int .u8 0, .int .u8 0, .int .u8 0, .int .u8 0, .int .u8 0, .int .u8 x15, .bool (x16 == 1)] 25)).drew := (B1.out.alloc B1.out.size _).drew
        have K4 := Lib.hid k4
        have Z4 := Lib.hid z4
        have B4 := Lib.hid b4'
        clear k4 z4 b4' g5 g6 g7 g8 b0 b1 b2 b3 b4 b5 b6 b15 b16 h3 K0 B1 HD HL hS hz1
        generalize w1.heap.size = h at *
        generalize World.drew _ = w4 at *
        go_wp2_with fail
        go_loopw [5] (fun i wr => ∃ q : Nat, q ≤ 8 ∧ i = .int .i64 q ∧ Blk wr h 25 (stA (offP (ofZ z) q)) ∧ Blk wr w.heap.size 25 (stA fun _ => 0) ∧ Below w.heap.size w wr) (fun i _ => 8 - (intOf i).toNat)
        case atStart => exact ⟨0, by omega, rfl, K4.out, Z4.out, B4.out⟩
        case round =>
          clear K4 Z4 B4
          obtain ⟨q, hq, rfl, hk, hz, hB⟩ := hrel
          by_cases hlt : q < 8
          · have q0 : (0 : Int) ≤ q := by omega
            have q1 : (q : Int) < 8 := by omega
            have e1 : IntKind.i64.wrap (7 + (q : Int)) = ((7 + q : Nat) : Int) := (IntWalk.i64_in _ (by omega)).trans (by omega)
            obtain ⟨m, hm⟩ : ∃ m, 7 + q = m := ⟨_, rfl⟩
            rw [hm] at e1
            have m0 : (0 : Int) ≤ m := by omega
            have m1 : (m : Int) < 17 := by omega
            have c1 := (HC.out m (by omega)).1
            have c2 : wr.cell? (ad.add m) = some (.int .u8 (z m)) := (hB.cell (World.block_lt_of_cell? _ _ c1)).trans c1
            have cx : wr.cell? ⟨h, 6 + q, none⟩ = some (.int .u8 (offP (ofZ z) q (6 + q))) := (hk.cell (6 + q)).trans (stA_at _ _ (by omega) (by omega) (by omega))
            have fx := hk.frozen (6 + q)
            have hk2 := (offP_set (ofZ z) q hlt) ▸ hk.set_ (6 + q) (.int .u8 (ofZ z (6 + q)))
            rw [show ofZ z (6 + q) = z m by rw [← hm]; unfold ofZ; rw [if_neg (by omega), if_neg (by omega)]; congr 1; omega] at hk2
            have Hk := Lib.hid hk2
            have Hz := Lib.hid (hz.far (p := ⟨h, 6 + q, none⟩) (show w.heap.size ≠ h by omega) (.int .u8 (z m)))
            have HB := Lib.hid (hB.setCell (p := ⟨h, 6 + q, none⟩) (by show w.heap.size ≤ h; omega) (.int .u8 (z m)))
            clear c1 hk2 hk hz hB hm
            go_wp2_with fail
            go_roundw
            case rel => exact ⟨q + 1, by omega, by go_num, Hk.out, Hz.out, HB.out⟩
            case measure => simp [intOf]; omega
          · obtain rfl : q = 8 := by omega
            have e8 : stA (offP (ofZ z) 8) = stA (ofZ z) := stA_congr fun j hj => by unfold offP; rw [if_pos (by omega)]
            rw [e8] at hk
            have hst := hz.run_store (P := Tryd.prog) (stA (ofZ z)) (by rw [stA_size, stA_size]) (stA_one _)
            have hsz := stA_size (ofZ z)
            have h8 : (Tryd.prog.info? 25).map (·.size) = some (stA (ofZ z)).size := by rw [stA_size]; exact size_state
            have H8 := Lib.hid h8
            have hld := (hz.row (stA (ofZ z))).run_load (P := Tryd.prog) Tryd.underlying25 rfl h8
            have HD := Lib.hid hld
            have HB3 := Lib.hid (below_setRow hB (show w.heap.size ≤ w.heap.size by omega) (stA (ofZ z)))
            clear h8 hld e8 hz hB
            obtain ⟨RR, hRR⟩ : ∃ R, stA (ofZ z) = R := ⟨_, rfl⟩
            rw [hRR] at hk hst hsz H8 HD HB3
            have HRR := Lib.hid hRR
            clear hRR
            go_wp2_with (refine wpList_load_row rfl 25 (.tmp 4) rfl h (by rfl) 25 RR (0, 0) _ hk Tryd.underlying25 rfl H8.out ?_)
            (try simp only [Exit.inBlock, Exit.then])
            refine bodyPost_ret (results_cell_tmp (a := ⟨w.heap.size, 0, none⟩) Tryd.results9 (by rfl) HD.out rfl) rfl ?_
            exact ⟨by rw [HRR.out]; rfl, HB3.out⟩
end Go.Proofs.YtnnfnjbfjgjgnaaDoor
