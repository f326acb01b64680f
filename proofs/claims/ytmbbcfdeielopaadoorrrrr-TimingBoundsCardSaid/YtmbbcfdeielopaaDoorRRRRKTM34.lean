/-
  Texts of these proofs, one behind the other: Rop7.
-/
import Derived.Test.YtmbbcfdeielopaaDoorRRRRKTM33
import Derived.Test.YtmbbcfdeielopaaDoorRRRRKTM16
namespace Go.Proofs.YtmbbcfdeielopaaDoorRRRR
open Go.RowKit
set_option linter.unusedVariables false
set_option linter.unusedSimpArgs false
set_option maxRecDepth 100000
theorem rcell_any (b : Nat) (hb : b < 256) (w : World) : Calls Tryd.prog 24 #[.int .u8 (b : Int)] w fun e w' => e = .returned (rcV b) ∧ Below w.heap.size w w' := by
  obtain ⟨u, o, c, hu, ho, hc, rfl⟩ : ∃ u o c : Nat, u < 8 ∧ o < 2 ∧ c < 16 ∧ b = 16 * (2 * u + o) + c := ⟨b / 32, b / 16 % 2, b % 16, by omega, by omega, by omega, by omega⟩
  have ho : o = 0 ∨ o = 1 := by omega
  rcases lt16 hc with rfl | rfl | rfl | rfl | rfl | rfl | rfl | rfl | rfl | rfl | rfl | rfl | rfl | rfl | rfl | rfl <;> rcases ho with rfl | rfl
  · exact rcell_0_0 u hu w
  · exact rcell_0_1 u hu w
  · exact rcell_1_0 u hu w
  · exact rcell_1_1 u hu w
  · exact rcell_2_0 u hu w
  · exact rcell_2_1 u hu w
  · exact rcell_3_0 u hu w
  · exact rcell_3_1 u hu w
  · exact rcell_4_0 u hu w
  · exact rcell_4_1 u hu w
  · exact rcell_5_0 u hu w
  · exact rcell_5_1 u hu w
  · exact rcell_6_0 u hu w
  · exact rcell_6_1 u hu w
  · exact rcell_7_0 u hu w
  · exact rcell_7_1 u hu w
  · exact rcell_8_0 u hu w
  · exact rcell_8_1 u hu w
  · exact rcell_9_0 u hu w
  · exact rcell_9_1 u hu w
  · exact rcell_10_0 u hu w
  · exact rcell_10_1 u hu w
  · exact rcell_11_0 u hu w
  · exact rcell_11_1 u hu w
  · exact rcell_12_0 u hu w
  · exact rcell_12_1 u hu w
  · exact rcell_13_0 u hu w
  · exact rcell_13_1 u hu w
  · exact rcell_14_0 u hu w
  · exact rcell_14_1 u hu w
  · exact rcell_15_0 u hu w
  · exact rcell_15_1 u hu w

def rV (b : Nat) : Value := .agg #[.string (mkS (opN b)), .int .u8 (opM b : Int), .int .i64 (opZ b), .int .i64 (opY b : Int), .bool (opK b)]
theorem rof_fin : ∀ b : Fin 256, (opK b.val = false → opN b.val = [78, 79, 80] ∧ opM b.val = 0 ∧ opY b.val = 2) ∧ (opK b.val = true → rnL b.val = opN b.val ∧ opN b.val ≠ []) ∧ rcyP (opN b.val) (opM b.val) = (opY b.val : Int) ∧ opM b.val < 20 := by decide +kernel
set_option maxHeartbeats 4000000 in
theorem rof_any (b : Nat) (hb : b < 256) (w : World) : Calls Tryd.prog 8 #[.int .u8 (b : Int)] w fun e w' => e = .returned (rV b) ∧ Below w.heap.size w w' := by
  obtain ⟨f1, f2, f3, f4⟩ := rof_fin ⟨b, hb⟩
  dsimp only at f1 f2 f3 f4
  have hC := fun W => rcell_any b hb W
  have hM := fun W => rmode_any b hb W
  have hBh := fun W => rbehind_any (opM b) (by omega) W
  have hY := fun W => rcyc_any (mkS (opN b)) (opM b) f4 W
  rw [mkS_toList, f3] at hY
  rw [Nat.mod_eq_of_lt f4] at hBh
  have hbd := bhP_bd (opM b : Int)
  have hz : opZ b = 1 + bhP (opM b : Int) := rfl
  unfold rcV at hC
  unfold rV
  obtain ⟨K, hK⟩ : ∃ K, opK b = K := ⟨_, rfl⟩
  obtain ⟨X, hX⟩ : ∃ X, mkS ((opC b).drop 4) = X := ⟨_, rfl⟩
  rw [hX] at hC hM
  cases K with
  | false =>
    obtain ⟨e1, e2, e3⟩ := f1 hK
    have e4 : mkS (rnL b) = ⟨#[]⟩ := by unfold rnL; rw [hK]; rfl
    rw [hK, e1, hz, e2, e3, show (1 : Int) + bhP ((0 : Nat) : Int) = 1 by decide, show mkS [78, 79, 80] = ⟨#[78, 79, 80]⟩ from rfl]
    rw [e4] at hC
    rw [e2] at hM
    have HB0 := Lib.hid (Below.refl w.heap.size w)
    clear f1 f2 f3 f4 hY hBh hbd hz hK hX e1 e2 e3 e4
    go_enter Tryd.func8, Tryd.ntmps8
    go_wp2_with fail
    obtain ⟨g, hg⟩ : ∃ g, w.heap.size = g := ⟨_, rfl⟩
    have hX0 : Blk (w.alloc (.cells #[.string ⟨#[]⟩, .int .u8 0, .int .i64 0, .int .i64 0, .bool false] 28)) g 28 #[.string ⟨#[]⟩, .int .u8 0, .int .i64 0, .int .i64 0, .bool false] := by rw [← hg]; exact Blk.new_ rfl
    have hB0 : Below g w (w.alloc (.cells #[.string ⟨#[]⟩, .int .u8 0, .int .i64 0, .int .i64 0, .bool false] 28)) := by rw [← hg]; exact (Below.refl _ w).alloc (Nat.le_refl _) _
    simp only [hg]
    generalize World.alloc _ _ = w1 at *
    refine (hC _).mono ?_
    rintro e w2 ⟨rfl, b2⟩
    have hX2 := hX0.below b2 hX0.lt
    have hB2 : Below g w w2 := hB0.trans (b2.mono (Nat.le_of_lt hX0.lt))
    have HG := Lib.hid hg
    clear hC hX0 hB0 b2 hg
    have c0 : w2.cell? ⟨g, 0, none⟩ = some (.string ⟨#[]⟩) := hX2.cell 0
    have f0 : w2.frozen? ⟨g, 0, none⟩ = false := hX2.frozen 0
    have c1 : w2.cell? ⟨g, 1, none⟩ = some (.int .u8 0) := hX2.cell 1
    have f1 : w2.frozen? ⟨g, 1, none⟩ = false := hX2.frozen 1
    have c2 : w2.cell? ⟨g, 2, none⟩ = some (.int .i64 0) := hX2.cell 2
    have f2 : w2.frozen? ⟨g, 2, none⟩ = false := hX2.frozen 2
    have c3 : w2.cell? ⟨g, 3, none⟩ = some (.int .i64 0) := hX2.cell 3
    have f3 : w2.frozen? ⟨g, 3, none⟩ = false := hX2.frozen 3
    have c4 : w2.cell? ⟨g, 4, none⟩ = some (.bool false) := hX2.cell 4
    have f4 : w2.frozen? ⟨g, 4, none⟩ = false := hX2.frozen 4
    have HX := Lib.hid hX2
    have HB := Lib.hid hB2
    clear hX2 hB2 HB0
    go_wp2_with (go_at_call 25; refine (hM _).mono ?_; rintro e w' ⟨rfl, rfl⟩)
    refine bodyPost_ret (v := .agg #[.string ⟨#[78, 79, 80]⟩, .int .u8 0, .int .i64 1, .int .i64 2, .bool false]) (results_cell (a := ⟨g, 0, none⟩) Tryd.results8 (by rfl) ((((((HX.out.set_ 0 (.string ⟨#[78, 79, 80]⟩)).set_ 1 (.int .u8 0)).set_ 2 (.int .i64 1)).set_ 3 (.int .i64 2)).set_ 4 (.bool false)).run_load (P := Tryd.prog) Tryd.underlying28 rfl (by kernel_rfl))) rfl ?_
    exact ⟨rfl, by rw [HG.out]; exact ((((HB.out.setCell (p := ⟨g, 0, none⟩) (Nat.le_refl _) _).setCell (p := ⟨g, 1, none⟩) (Nat.le_refl _) _).setCell (p := ⟨g, 2, none⟩) (Nat.le_refl _) _).setCell (p := ⟨g, 3, none⟩) (Nat.le_refl _) _).setCell (p := ⟨g, 4, none⟩) (Nat.le_refl _) _⟩
  | true =>
    obtain ⟨e1, e2⟩ := f2 hK
    rw [e1] at hC
    rw [hK, hz]
    have e3 : ¬ (mkS (opN b)).toList = [] := by rw [mkS_toList]; exact e2
    have e4 : (mkS (opN b)).toList.isEmpty = false := by rw [mkS_toList]; cases h : opN b with | nil => exact absurd h e2 | cons a b => rfl
    obtain ⟨S, hS⟩ : ∃ S, mkS (opN b) = S := ⟨_, rfl⟩
    obtain ⟨m, hm⟩ : ∃ m : Int, (opM b : Int) = m := ⟨_, rfl⟩
    obtain ⟨y, hy⟩ : ∃ y : Int, (opY b : Int) = y := ⟨_, rfl⟩
    rw [hm] at hM hBh hY hbd ⊢
    rw [hy] at hY ⊢
    rw [hS] at hC hY e3 e4 ⊢
    obtain ⟨h, hh⟩ : ∃ h : Int, bhP m = h := ⟨_, rfl⟩
    rw [hh] at hBh hbd ⊢
    have hw : IntKind.i64.wrap (1 + h) = 1 + h := IntWalk.i64_in _ (by omega)
    clear f1 f2 f3 f4 hbd hz hK hX e1 e2 hS hm hy hh
    go_enter Tryd.func8, Tryd.ntmps8
    go_wp2_with fail
    obtain ⟨g, hg⟩ : ∃ g, w.heap.size = g := ⟨_, rfl⟩
    have hX0 : Blk (w.alloc (.cells #[.string ⟨#[]⟩, .int .u8 0, .int .i64 0, .int .i64 0, .bool false] 28)) g 28 #[.string ⟨#[]⟩, .int .u8 0, .int .i64 0, .int .i64 0, .bool false] := by rw [← hg]; exact Blk.new_ rfl
    have hB0 : Below g w (w.alloc (.cells #[.string ⟨#[]⟩, .int .u8 0, .int .i64 0, .int .i64 0, .bool false] 28)) := by rw [← hg]; exact (Below.refl _ w).alloc (Nat.le_refl _) _
    simp only [hg]
    generalize World.alloc _ _ = w1 at *
    refine (hC _).mono ?_
    rintro e w2 ⟨rfl, b2⟩
    have hX2 := hX0.below b2 hX0.lt
    have hB2 : Below g w w2 := hB0.trans (b2.mono (Nat.le_of_lt hX0.lt))
    have HG := Lib.hid hg
    clear hC hX0 hB0 b2 hg
    go_wp2_with fail
    refine (hM _).mono ?_
    rintro e w' ⟨rfl, rfl⟩
    go_wp2_with fail
    refine (hBh _).mono ?_
    rintro e w3 ⟨rfl, b3⟩
    have hX3 := hX2.below b3 hX2.lt
    have hB3 : Below g w w3 := hB2.trans (b3.mono (Nat.le_of_lt hX2.lt))
    clear hBh hX2 hB2 b3
    go_wp2_with fail
    refine (hY _).mono ?_
    rintro e w4 ⟨rfl, b4⟩
    have hX4 := hX3.below b4 hX3.lt
    have hB4 : Below g w w4 := hB3.trans (b4.mono (Nat.le_of_lt hX3.lt))
    clear hY hX3 hB3 b4
    have c0 : w4.cell? ⟨g, 0, none⟩ = some (.string ⟨#[]⟩) := hX4.cell 0
    have f0 : w4.frozen? ⟨g, 0, none⟩ = false := hX4.frozen 0
    have c1 : w4.cell? ⟨g, 1, none⟩ = some (.int .u8 0) := hX4.cell 1
    have f1 : w4.frozen? ⟨g, 1, none⟩ = false := hX4.frozen 1
    have c2 : w4.cell? ⟨g, 2, none⟩ = some (.int .i64 0) := hX4.cell 2
    have f2 : w4.frozen? ⟨g, 2, none⟩ = false := hX4.frozen 2
    have c3 : w4.cell? ⟨g, 3, none⟩ = some (.int .i64 0) := hX4.cell 3
    have f3 : w4.frozen? ⟨g, 3, none⟩ = false := hX4.frozen 3
    have c4 : w4.cell? ⟨g, 4, none⟩ = some (.bool false) := hX4.cell 4
    have f4 : w4.frozen? ⟨g, 4, none⟩ = false := hX4.frozen 4
    have HX := Lib.hid hX4
    have HB := Lib.hid hB4
    clear hX4 hB4
    go_wp2
    refine bodyPost_ret (v := .agg #[.string S, .int .u8 m, .int .i64 (1 + h), .int .i64 y, .bool true]) (results_cell (a := ⟨g, 0, none⟩) Tryd.results8 (by rfl) ((((((HX.out.set_ 0 (.string S)).set_ 1 (.int .u8 m)).set_ 2 (.int .i64 (1 + h))).set_ 3 (.int .i64 y)).set_ 4 (.bool true)).run_load (P := Tryd.prog) Tryd.underlying28 rfl (by kernel_rfl))) rfl ?_
    exact ⟨rfl, by rw [HG.out]; exact ((((HB.out.setCell (p := ⟨g, 0, none⟩) (Nat.le_refl _) _).setCell (p := ⟨g, 1, none⟩) (Nat.le_refl _) _).setCell (p := ⟨g, 2, none⟩) (Nat.le_refl _) _).setCell (p := ⟨g, 3, none⟩) (Nat.le_refl _) _).setCell (p := ⟨g, 4, none⟩) (Nat.le_refl _) _⟩
end Go.Proofs.YtmbbcfdeielopaaDoorRRRR
