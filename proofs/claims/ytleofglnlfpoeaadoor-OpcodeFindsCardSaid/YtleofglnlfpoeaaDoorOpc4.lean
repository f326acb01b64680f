/-
  Opcode: Of.
-/
import Derived.Test.YtleofglnlfpoeaaDoorOpc3
import Derived.Test.YtleofglnlfpoeaaDoorG12
import Derived.Test.YtleofglnlfpoeaaDoorG18
import Derived.Test.YtleofglnlfpoeaaDoorG8
namespace Go.Proofs.YtleofglnlfpoeaaDoor
open Go.RowKit
set_option linter.unusedVariables false
set_option linter.unusedSimpArgs false
set_option maxRecDepth 100000
theorem opN_fin : ∀ b : Fin 256, opN b.val = if opK b.val then trimL ((opC b.val).take 4) else [78, 79, 80] := by decide +kernel
theorem opY_fin : ∀ b : Fin 256, cycP (opN b.val) (opM b.val : Int) = (opY b.val : Int) := by decide +kernel
def opZ (b : Nat) : Int := 1 + bhP (opM b : Int)
def opV (b : Nat) : Value := .agg #[.string (mkS (opN b)), .int .u8 (opM b : Int), .int .i64 (opZ b), .int .i64 (opY b : Int)]
theorem bhP_bd (m : Int) : 0 ≤ bhP m ∧ bhP m ≤ 6 := by unfold bhP; split <;> (try split) <;> (try split) <;> (try split) <;> omega
set_option maxHeartbeats 4000000 in
theorem oof_any (b : Nat) (hb : b < 256) (w : World) : Calls Tryd.prog 13 #[.int .u8 (b : Int)] w fun e w' => e = .returned (opV b) ∧ Below w.heap.size w w' := by
  have hA := fun W => oat_any b hb W
  have hM := fun W => omarked_any b hb W
  have hK := fun W => oknown_any b hb W
  have hT := fun W => otrim_any ((opC b).take 4) (by simp; omega) W
  have hN := opN_fin ⟨b, hb⟩
  have hY := opY_fin ⟨b, hb⟩
  have hC := fun W => ocycles_any (mkS (opN b)) (opM b : Int) W
  have hB := fun W => obehind_any (opM b : Int) W
  have hbd := bhP_bd (opM b : Int)
  dsimp only at hN hY
  rw [mkS_toList, hY] at hC
  unfold opV opZ
  have hx : (mkS (opC b)).extract 4 6 = mkS ((opC b).drop 4) := by rw [mkS_ext, List.take_of_length_le (by rw [List.length_drop, opC_len b hb]; omega)]
  have hx4 : (mkS (opC b)).extract 0 4 = mkS ((opC b).take 4) := by rw [mkS_ext, List.drop_zero]
  have hz : (mkS (opC b)).size = 6 := by rw [mkS_size, opC_len b hb]
  obtain ⟨m, hm⟩ : ∃ m : Int, (opM b : Int) = m := ⟨_, rfl⟩
  obtain ⟨h, hh⟩ : ∃ h : Int, bhP m = h := ⟨_, rfl⟩
  obtain ⟨y, hy⟩ : ∃ y : Int, (opY b : Int) = y := ⟨_, rfl⟩
  obtain ⟨S, hS⟩ : ∃ S, mkS (opC b) = S := ⟨_, rfl⟩
  obtain ⟨k, hk⟩ : ∃ k, opK b = k := ⟨_, rfl⟩
  obtain ⟨R, hR⟩ : ∃ R, mkS (opN b) = R := ⟨_, rfl⟩
  obtain ⟨X, hX⟩ : ∃ X, mkS ((opC b).drop 4) = X := ⟨_, rfl⟩
  obtain ⟨Y, hYY⟩ : ∃ Y, mkS ((opC b).take 4) = Y := ⟨_, rfl⟩
  rw [hS] at hA hx hx4 hz
  rw [hX] at hM hx
  rw [hYY] at hT hx4
  rw [hR] at hC ⊢
  rw [hm] at hM hC hB hbd ⊢
  rw [hh] at hB hbd ⊢
  rw [hy] at hC ⊢
  rw [hk] at hK hN
  obtain ⟨g0, g1⟩ := hbd
  have hw : IntKind.i64.wrap (1 + h) = 1 + h := IntWalk.i64_in _ (by omega)
  cases k with
  | true =>
    rw [if_pos rfl] at hN
    rw [← hN, hR] at hT
    clear hm hh hy hS hk hX hYY hN hY hR
    go_enter Tryd.func13, Tryd.ntmps13
    go_wp2_with (first
      | (go_at_call 40; refine (hA _).mono ?_; rintro e w' ⟨rfl, rfl⟩)
      | (go_at_call 39; refine (hM _).mono ?_; rintro e w' ⟨rfl, rfl⟩)
      | (go_at_call 41; refine (hB _).mono ?_; rintro e w' ⟨rfl, rfl⟩)
      | (go_at_call 15; refine (hK _).mono ?_; rintro e w' ⟨rfl, rfl⟩)
      | (go_at_call 42; refine (hT _).mono ?_; rintro e w' ⟨rfl, rfl⟩)
      | (go_at_call 43; refine (hC _).mono ?_; rintro e w' ⟨rfl, rfl⟩))
    have HX : Blk ((w.alloc (.cells #[.string R, .int .u8 m, .int .i64 (1 + h), .int .i64 y] 24)).alloc (.cells #[.string R, .int .u8 m, .int .i64 (1 + h), .int .i64 y] 24)) w.heap.size 24 #[.string R, .int .u8 m, .int .i64 (1 + h), .int .i64 y] := Blk.alloc (Blk.new_ rfl) _
    refine bodyPost_ret (v := .agg #[.string R, .int .u8 m, .int .i64 (1 + h), .int .i64 y]) (results_cell (a := ⟨w.heap.size, 0, none⟩) Tryd.results13 (by rfl) (HX.run_load (P := Tryd.prog) Tryd.underlying24 rfl (by kernel_rfl))) rfl ?_
    exact ⟨rfl, ((Below.refl _ w).alloc (Nat.le_refl _) _).alloc (by simp) _⟩
  | false =>
    rw [if_neg (by decide)] at hN
    rw [hN] at hR
    have hR2 : R = ⟨#[78, 79, 80]⟩ := hR.symm
    subst hR2
    clear hm hh hy hS hk hX hYY hN hY hR
    go_enter Tryd.func13, Tryd.ntmps13
    go_wp2_with (first
      | (go_at_call 40; refine (hA _).mono ?_; rintro e w' ⟨rfl, rfl⟩)
      | (go_at_call 39; refine (hM _).mono ?_; rintro e w' ⟨rfl, rfl⟩)
      | (go_at_call 41; refine (hB _).mono ?_; rintro e w' ⟨rfl, rfl⟩)
      | (go_at_call 15; refine (hK _).mono ?_; rintro e w' ⟨rfl, rfl⟩)
      | (go_at_call 43; refine (hC _).mono ?_; rintro e w' ⟨rfl, rfl⟩))
    have HX : Blk ((w.alloc (.cells #[.string ⟨#[78, 79, 80]⟩, .int .u8 m, .int .i64 (1 + h), .int .i64 y] 24)).alloc (.cells #[.string ⟨#[78, 79, 80]⟩, .int .u8 m, .int .i64 (1 + h), .int .i64 y] 24)) w.heap.size 24 #[.string ⟨#[78, 79, 80]⟩, .int .u8 m, .int .i64 (1 + h), .int .i64 y] := Blk.alloc (Blk.new_ rfl) _
    refine bodyPost_ret (v := .agg #[.string ⟨#[78, 79, 80]⟩, .int .u8 m, .int .i64 (1 + h), .int .i64 y]) (results_cell (a := ⟨w.heap.size, 0, none⟩) Tryd.results13 (by rfl) (HX.run_load (P := Tryd.prog) Tryd.underlying24 rfl (by kernel_rfl))) rfl ?_
    exact ⟨rfl, ((Below.refl _ w).alloc (Nat.le_refl _) _).alloc (by simp) _⟩
end Go.Proofs.YtleofglnlfpoeaaDoor
