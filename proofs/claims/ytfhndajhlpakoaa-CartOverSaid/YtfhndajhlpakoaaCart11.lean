/-
  The statements' first test of package cart holds; it only makes memory.
-/
import Derived.Test.YtfhndajhlpakoaaCart10
import Derived.Test.YtfhndajhlpakoaaG3
namespace Go.Proofs.Ytfhndajhlpakoaa
open Go.RowKit
set_option linter.unusedVariables false
def z1 (x : Int) (i : Nat) : Int := if i = 0 then x else 0
theorem z1_wf (x : Int) (hw : (Lit.int .u8 x).wf = true) (i : Nat) : (Lit.int .u8 (z1 x i)).wf = true := by
  unfold z1; split
  · exact hw
  · rfl
theorem IRow.one {w : World} {g : Nat} {x : Int} (h : Blk w g 5 #[.int .u8 x]) (hw : (Lit.int .u8 x).wf = true) : IRow w .u8 (some ⟨g, 0, none⟩) 1 (z1 x) := fun i hi => by
  obtain rfl : i = 0 := by omega
  exact ⟨_, rfl, h.lt, by rw [add_zero_block, h.cell]; rfl, hw⟩
theorem one_row {w : World} {b g c : Nat} {x : Int} (hP : Blk w b 25 #[.int .i64 0, .slice (some ⟨g, 0, none⟩) 1 c]) (hc : 1 ≤ c) (hcm : c ≤ maxLen) (R : IRow w .u8 (some ⟨g, 0, none⟩) 1 (z1 x)) :
    PRow w (some ⟨b, 0, none⟩) 1 (fun _ => ⟨0, some ⟨g, 0, none⟩, 1, c, z1 x⟩) := fun i hi => by
  obtain rfl : i = 0 := by omega
  exact ⟨_, rfl, hP.lt, by rw [add_zero_block, hP.cell]; rfl, by rw [add_zero_block, hP.cell]; rfl, rfl, hc, hcm, R⟩
theorem laid_one (g : Nat) (c : Nat) (x : Int) (i : Nat) : laid (fun _ => ⟨0, some ⟨g, 0, none⟩, 1, c, z1 x⟩) 1 i = z1 x i := by
  show (if (0 : Int) ≤ i ∧ (i : Int) < 0 + ((1 : Nat) : Int) then z1 x ((i : Int) - 0).toNat else 0) = z1 x i
  by_cases h : i = 0
  · subst h; rw [if_pos (by omega)]; rfl
  · rw [if_neg (by omega)]; unfold z1; rw [if_neg h]
theorem runs_one : runs (z1 5) 8192 = [(0, 1)] := by
  rw [runs_zero (z1 5) 1 8192 (by omega) (fun j a b => by unfold z1; rw [if_neg (by omega)])]
  decide +kernel
set_option maxRecDepth 100000 in
set_option maxHeartbeats 4000000 in
theorem live04_any (w : World) : Calls Try.prog 11 #[] w fun e w' => e = .returned (.bool true) ∧ Below w.heap.size w w' := by
  go_enter Try.func11, Try.ntmps11
  go_wp2_with fail
  have hP := Blk.new (w.alloc (.cells #[.int .u8 5] 5)) 25 #[.int .i64 0, .slice (some ⟨w.heap.size, 0, none⟩) 1 1]
  have hQ := (Blk.new w 5 #[.int .u8 5]).alloc (.cells #[.int .i64 0, .slice (some ⟨w.heap.size, 0, none⟩) 1 1] 25)
  have hB1 : Below w.heap.size w ((w.alloc (.cells #[.int .u8 5] 5)).alloc (.cells #[.int .i64 0, .slice (some ⟨w.heap.size, 0, none⟩) 1 1] 25)) := by go_grown
  have PR := one_row hP (Nat.le_refl _) (by unfold maxLen; omega) (IRow.one hQ rfl)
  simp only [World.size_alloc] at PR
  refine (make_any 1 8192 (some ⟨w.heap.size + 1, 0, none⟩) 1 1 _ _ rfl rfl (by unfold maxLen; omega) PR).mono ?_
  clear hP hQ PR
  rintro e w2 ⟨hb, ⟨j, hj, hbad, _, rfl⟩ | ⟨_, ga, C, rfl, hg, hG, hA⟩⟩
  · exfalso
    exact hbad ⟨by show (0 : Int) ≤ 0; omega, by show ((1 : Nat) : Int) ≤ 8192 - 0; omega⟩
  have hA2 : BArr C 8192 (z1 5) := hA.congr fun i hi => laid_one _ _ _ _
  have hB2 := hB1.trans (hb.mono hB1.size)
  have hF3 := Blk.new w2 30 #[.int .i64 0, .int .i64 0]
  have hG3 := hG.alloc (.cells #[.int .i64 0, .int .i64 0] 30)
  have hB3 := hB2.alloc hB2.size (.cells #[.int .i64 0, .int .i64 0] 30)
  have IA := IRow.of_blk hG3 hA2 (z1_wf 5 rfl)
  clear hA hG hb hB1 hB2
  go_wp2_with fail
  refine (pieces_any (some ⟨ga, 0, none⟩) 8192 8192 (z1 5) (Nat.le_refl _) (by omega) rfl IA).mono ?_
  rintro e w4 ⟨⟨v, ps, rfl, own, pl⟩, hb4⟩
  rw [runs_one] at own pl
  obtain ⟨p1, p2, _, _, _⟩ := pl 0 (by decide)
  obtain ⟨gp, cap, rfl, _, lp⟩ := own.form (by decide)
  have c0 := own.cells (g := gp) rfl 0 _ rfl
  have c1 := own.cells (g := gp) rfl 1 _ rfl
  rw [add_zero_block] at c0 c1
  rw [p1] at c0
  rw [p2] at c1
  have hG4 := hG3.below hb4 hG3.lt
  have hF4 := hF3.below hb4 hF3.lt
  have hB4 := hB3.trans (hb4.mono hB3.size)
  have IB := IRow.one (Blk.new w4 5 #[.int .u8 234]) rfl
  have hB5 := hB4.alloc hB4.size (.cells #[.int .u8 234] 5)
  have hb5 : Below w4.heap.size w4 (w4.alloc (.cells #[.int .u8 234] 5)) := (Below.refl _ _).alloc (Nat.le_refl _) _
  clear own pl p1 p2 IA hb4 hB3 hG3 hF3
  go_wp2_with fail
  refine (program_any 0 0 (some ⟨w4.heap.size, 0, none⟩) 1 1 (z1 234) (fun _ => 57344) (Nat.le_refl _) (by unfold maxLen; omega) IB (by omega) (by omega) rfl (by omega)).mono ?_
  rintro e w6 ⟨hb6, gb, D, rfl, hgb, hGb, hAb⟩
  have hBB := hb5.trans (hb6.mono hb5.size)
  have hG6 := hG4.below hBB hG4.lt
  have hF6 := hF4.below hBB hF4.lt
  have c0' := (hBB.cell (p := ⟨gp, 0, none⟩) lp).trans c0
  have c1' := (hBB.cell (p := ⟨gp, 1, none⟩) lp).trans c1
  have hB6 := hB5.trans (hb6.mono hB5.size)
  have a0 : w6.cell? ⟨ga, 0, none⟩ = some (.int .u8 5) := by rw [hG6.cell, List.getElem?_toArray, hA2.2 0 (by omega)]; rfl
  have b0 : w6.cell? ⟨gb, 0, none⟩ = some (.int .u8 234) := by rw [hGb.cell, List.getElem?_toArray, hAb.2 0 (by omega)]; exact congrArg (fun x => some (Value.int .u8 x)) (show _ = (234 : Int) by kernel_rfl)
  have b1 : w6.cell? ⟨gb, 8191, none⟩ = some (.int .u8 224) := by rw [hGb.cell, List.getElem?_toArray, hAb.2 8191 (by omega)]; exact congrArg (fun x => some (Value.int .u8 x)) (show _ = (224 : Int) by kernel_rfl)
  have f0 := hF6.cell 0
  simp only [List.getElem?_toArray, List.getElem?_cons_zero] at f0
  have ID := IRow.of_blk hGb hAb (progF_wf IB)
  clear hG4 hF4 hBB hb5 hb6 IB c0 c1 hB4 hB5 hG6 hF6 hGb hAb hA2
  go_wp2_with fail
  refine (asV (read_any (some ⟨gb, 0, none⟩) 8192 8192 _ 0 (by unfold maxLen; omega) ID (by omega) (by omega)) (show _ = Value.int .u8 234 by kernel_rfl)).mono ?_; rintro e w7 ⟨rfl, hb7⟩
  have ID7 := ID.keep hb7
  have hB7 := hB6.trans (hb7.mono hB6.size)
  clear a0 b0 b1 f0 c0' c1' ID hb7
  go_wp2_with fail
  refine (asV (read_any (some ⟨gb, 0, none⟩) 8192 8192 _ 8192 (by unfold maxLen; omega) ID7 (by omega) (by omega)) (show _ = Value.int .u8 255 by kernel_rfl)).mono ?_; rintro e w8 ⟨rfl, hb8⟩
  have ID8 := ID7.keep hb8
  have hB8 := hB7.trans (hb8.mono hB7.size)
  clear ID7 hb8
  go_wp2_with fail
  refine (asV (word_any' (some ⟨gb, 0, none⟩) 8192 8192 _ 65534 (by unfold maxLen; omega) ID8 (by omega) (by omega)) (show _ = Value.int .u16 57344 by kernel_rfl)).mono ?_; rintro e w9 ⟨rfl, hb9⟩
  have hB9 := hB8.trans (hb9.mono hB8.size)
  clear ID8 hb9
  go_wp2_with fail
  refine (asV (check_any (some ⟨gb, 0, none⟩) 8192 8192 _ (by unfold maxLen; omega)) (show _ = Value.int .i64 0 by kernel_rfl)).mono ?_; rintro e w' ⟨rfl, rfl⟩
  go_wp2_with fail
  refine (asV (check_any none 0 0 _ (by unfold maxLen; omega)) (show _ = Value.int .i64 6 by kernel_rfl)).mono ?_; rintro e w' ⟨rfl, rfl⟩
  go_wp2_with fail
  go_ret
  exact ⟨rfl, hB9⟩
end Go.Proofs.Ytfhndajhlpakoaa
