/-
  For every input StateBytes returns true, and each argument reads behind the call as it read before. The one condition: when the call begins the package-level variables that the row lists hold what the program lays in them (TIED: the card shows it of the text of the project, pruned to the packages that this seat loads).
-/
import Derived.Test.YtnnfnjbfjgjgnaaDoorRows
import Derived.Test.YtnnfnjbfjgjgnaaDoorKST01
import Derived.SevenTiedAt
import Derived.ProofKit
import Derived.LaidMore
import Derived.OpenShut
import Derived.Stop.Joined
import Derived.Test.YtnnfnjbfjgjgnaaDoorCards
import Derived.Test.YtnnfnjbfjgjgnaaDoorTie
import Derived.Test.YtnnfnjbfjgjgnaaDoorKST46
namespace Go.Proofs.YtnnfnjbfjgjgnaaDoor.stateBytes
open Go.ChangeShapes Go.WideShapes Go.ChangeAt Go.RowKit
open Go.ChangeMaps (open_string)

set_option linter.unusedVariables false
set_option linter.unusedSimpArgs false
set_option maxRecDepth 100000 in
set_option maxHeartbeats 16000000 in
theorem walk {W : World} (r : Nat → Int) (hr : StOk r) (A : Option Addr) (n c : Nat) (z : Nat → Int) (gc : n ≤ c) (mc : c ≤ maxLen) (R : IRow W .u8 A n z) (hT : Tabs W) :
    Calls Tryd.prog 3 #[.agg (stA r), .slice A n c] W fun e w' => e = .returned (.bool true) ∧ Below W.heap.size W w' := by
  have HT := Lib.hid hT
  have K := Lib.hid (Blk.new W 25 (stA r))
  have HB := Lib.hid ((Below.refl _ W).alloc (Nat.le_refl _) (.cells (stA r) 25))
  have HT0 := Lib.hid (hT.below ((Below.refl _ W).alloc (Nat.le_refl _) (.cells (stA r) 25)))
  have HR := Lib.hid hr
  have zr := stA_size r
  clear hT hr
  have HI := Lib.hid R
  have zx := stA_size (ofR n z)
  clear R mc
  go_enter Tryd.func3, Tryd.ntmps3
  go_upto_region 1 with fail
  generalize World.alloc W _ = w0 at *
  go_wp2_with fail
  refine (live25 HT0.out).mono ?_
  rintro e w1 ⟨rfl, b⟩
  have HBn := Lib.hid (HB.out.trans (b.mono HB.out.size))
  have Kn := Lib.hid (K.out.below b K.out.lt)
  clear b HB K
  have HB := HBn
  have K := Kn
  clear HBn Kn
  go_wp2_with fail
  refine (sof_any A n c z (HI.out.keep HB.out) gc).mono ?_
  rintro e w2 ⟨rfl, b⟩
  have HBn := Lib.hid (HB.out.trans (b.mono HB.out.size))
  have Kn := Lib.hid (K.out.below b K.out.lt)
  clear b HB K
  have HB := HBn
  have K := Kn
  clear HBn Kn
  have hsn := state_new (ofR n z) w2
  have Ng5 := Lib.hid (Blk.new w2 25 (stA (ofR n z)))
  have Kn := Lib.hid (K.out.alloc (.cells (stA (ofR n z)) 25))
  have neK := Lib.hid (show (W.heap.size) ≠ w2.heap.size by have := K.out.lt; omega)
  have HBn := Lib.hid (HB.out.alloc HB.out.size (.cells (stA (ofR n z)) 25))
  clear K HB
  go_upto_region 4 with fail
  clear hsn
  generalize World.alloc w2 _ = w3 at *
  generalize w2.heap.size = g5 at *
  have K := Kn
  clear Kn
  have HB := HBn
  clear HBn
  go_wp2_with fail
  refine (rsof_any A n c z (HI.out.keep HB.out) gc).mono ?_
  rintro e w4 ⟨rfl, b⟩
  have HBn := Lib.hid (HB.out.trans (b.mono HB.out.size))
  have Kn := Lib.hid (K.out.below b K.out.lt)
  have Ng5n := Lib.hid (Ng5.out.below b Ng5.out.lt)
  clear b HB K Ng5
  have HB := HBn
  have K := Kn
  have Ng5 := Ng5n
  clear HBn Kn Ng5n
  have hsn := state_new (ofR n z) w4
  have Ng7 := Lib.hid (Blk.new w4 25 (stA (ofR n z)))
  have Kn := Lib.hid (K.out.alloc (.cells (stA (ofR n z)) 25))
  have neK := Lib.hid (show (W.heap.size) ≠ w4.heap.size by have := K.out.lt; omega)
  have Ng5n := Lib.hid (Ng5.out.alloc (.cells (stA (ofR n z)) 25))
  have neNg5 := Lib.hid (show g5 ≠ w4.heap.size by have := Ng5.out.lt; omega)
  have HBn := Lib.hid (HB.out.alloc HB.out.size (.cells (stA (ofR n z)) 25))
  clear K Ng5 HB
  go_upto_region 5 with fail
  clear hsn
  generalize World.alloc w4 _ = w5 at *
  generalize w4.heap.size = g7 at *
  have K := Kn
  clear Kn
  have Ng5 := Ng5n
  clear Ng5n
  have HB := HBn
  clear HBn
  have k5 := K.out
  go_wp2_with (refine wpList_load_row rfl 25 (.tmp 2) rfl (W.heap.size) (by rfl) 25 (stA r) (0, 0) _ k5 Tryd.underlying25 rfl (h8_st r) ?_)
  refine (sbytes_any r HR.out _).mono ?_
  rintro e w6 ⟨⟨v, rfl, own⟩, b⟩
  clear k5
  have HBn := Lib.hid (HB.out.trans (b.mono HB.out.size))
  have Kn := Lib.hid (K.out.below b K.out.lt)
  have Ng5n := Lib.hid (Ng5.out.below b Ng5.out.lt)
  have Ng7n := Lib.hid (Ng7.out.below b Ng7.out.lt)
  clear b HB K Ng5 Ng7
  have HB := HBn
  have K := Kn
  have Ng5 := Ng5n
  have Ng7 := Ng7n
  clear HBn Kn Ng5n Ng7n
  obtain ⟨gv, cap, cur, rfl, hgv, hcur, hcc, hcm, hxs⟩ := own_blk (n := 16) own
  have RV : IRow w6 .u8 (some ⟨gv, 0, none⟩) 17 (byZ r) := fun i hi => ⟨_, rfl, hcur.lt, by rw [add_zero_block, hcur.cell, hxs i hi, intsOf_at _ _ _ _ hi], by have := byZ_bd HR.out i hi; simp [Lit.wf, IntKind.min, IntKind.max, IntKind.signed, IntKind.bits]; omega⟩
  have HRV := Lib.hid RV
  clear own hcur hgv hcm hxs RV
  go_wp2_with fail
  refine (sof_any _ 17 cap (byZ r) HRV.out hcc).mono ?_
  obtain ⟨e1, e2⟩ := of_bytes HR.out
  rw [e1, e2]
  rintro e w7 ⟨rfl, b⟩
  clear HRV e1 e2
  have HBn := Lib.hid (HB.out.trans (b.mono HB.out.size))
  have Kn := Lib.hid (K.out.below b K.out.lt)
  have Ng5n := Lib.hid (Ng5.out.below b Ng5.out.lt)
  have Ng7n := Lib.hid (Ng7.out.below b Ng7.out.lt)
  clear b HB K Ng5 Ng7
  have HB := HBn
  have K := Kn
  have Ng5 := Ng5n
  have Ng7 := Ng7n
  clear HBn Kn Ng5n Ng7n
  have hsn := state_new r w7
  have Ng9 := Lib.hid (Blk.new w7 25 (stA r))
  have Kn := Lib.hid (K.out.alloc (.cells (stA r) 25))
  have neK := Lib.hid (show (W.heap.size) ≠ w7.heap.size by have := K.out.lt; omega)
  have Ng5n := Lib.hid (Ng5.out.alloc (.cells (stA r) 25))
  have neNg5 := Lib.hid (show g5 ≠ w7.heap.size by have := Ng5.out.lt; omega)
  have Ng7n := Lib.hid (Ng7.out.alloc (.cells (stA r) 25))
  have neNg7 := Lib.hid (show g7 ≠ w7.heap.size by have := Ng7.out.lt; omega)
  have HBn := Lib.hid (HB.out.alloc HB.out.size (.cells (stA r) 25))
  clear K Ng5 Ng7 HB
  go_upto_region 6 with fail
  clear hsn
  generalize World.alloc w7 _ = w8 at *
  generalize w7.heap.size = g9 at *
  have K := Kn
  clear Kn
  have Ng5 := Ng5n
  clear Ng5n
  have Ng7 := Ng7n
  clear Ng7n
  have HB := HBn
  clear HBn
  have hS : Hid (∀ a b : World, (fun w' => Blk w' (W.heap.size) 25 (stA r) ∧ Blk w' g5 25 (stA (ofR n z)) ∧ Blk w' g7 25 (stA (ofR n z)) ∧ Blk w' g9 25 (stA r)) a → Below a.heap.size a b → (fun w' => Blk w' (W.heap.size) 25 (stA r) ∧ Blk w' g5 25 (stA (ofR n z)) ∧ Blk w' g7 25 (stA (ofR n z)) ∧ Blk w' g9 25 (stA r)) b) := Lib.hid fun a b h hb => ⟨h.1.below hb h.1.lt, h.2.1.below hb h.2.1.lt, h.2.2.1.below hb h.2.2.1.lt, h.2.2.2.below hb h.2.2.2.lt⟩
  have HS := Lib.hid (show (fun w' => Blk w' (W.heap.size) 25 (stA r) ∧ Blk w' g5 25 (stA (ofR n z)) ∧ Blk w' g7 25 (stA (ofR n z)) ∧ Blk w' g9 25 (stA r)) w8 from ⟨K.out, Ng5.out, Ng7.out, Ng9.out⟩)
  obtain ⟨E, hE⟩ : ∃ E, ofE n z = E := ⟨_, rfl⟩
  simp only [hE]
  clear hE
  refine rg_begin (S := fun w' => Blk w' (W.heap.size) 25 (stA r) ∧ Blk w' g5 25 (stA (ofR n z)) ∧ Blk w' g7 25 (stA (ofR n z)) ∧ Blk w' g9 25 (stA r)) 25 #[false, false, false, false, false, false, false, false, false, false, false, false, false, false, false, false, false, false, false, false, false, false, false, false, false] (by kernel_rfl) (by kernel_rfl) (by kernel_rfl) ?_ (fun hHeld => ?_)
  · exact HS.out
  refine rg_take (i := 0) (d := some 29) (l := #[true, false, false, false, false, false, false, false, false, false, false, false, false, false, false, false, false, false, false, false, false, false, false, false, false]) (fuel := 24) (v := .agg (stA r)) rfl (by kernel_rfl) (by kernel_rfl) (by kernel_rfl) (by kernel_rfl) (by kernel_rfl) (fun _ _ _ h => h) (by kernel_rfl) ?_ (by assumption) ?_
  · (intro wS hSw; (try dsimp only at hSw); exact row_load r rfl rfl hSw.1)
  try simp only [Act.put, List.setIfInBounds_toArray, List.set_cons_zero, List.set_cons_succ]
  refine rg_take (i := 2) (d := some 31) (l := #[true, false, true, false, false, false, false, false, false, false, false, false, false, false, false, false, false, false, false, false, false, false, false, false, false]) (fuel := 23) (v := .agg (stA r)) rfl (by kernel_rfl) (by kernel_rfl) (by kernel_rfl) (by kernel_rfl) (by kernel_rfl) (fun _ _ _ h => h) (by kernel_rfl) ?_ (by assumption) ?_
  · (intro wS hSw; (try dsimp only at hSw); exact row_load r rfl rfl hSw.1)
  try simp only [Act.put, List.setIfInBounds_toArray, List.set_cons_zero, List.set_cons_succ]
  refine rg_next (i := 1) (l := #[true, true, true, false, false, false, false, false, false, false, false, false, false, false, false, false, false, false, false, false, false, false, false, false, false]) (fuel := 22) (by kernel_rfl) rfl (by kernel_rfl) (by kernel_rfl) (fun K hK => ?_)
  go_simp
  go_at_call 10
  refine (sbytes_any r HR.out _).mono ?_
  rintro e w9 ⟨⟨v1, rfl, own1⟩, b9⟩
  first | (refine hK.out _ _ ?_ (fun hHeld => ?_)) | (go_wp2_with fail; refine hK.out _ _ ?_ (fun hHeld => ?_))
  · (try dsimp only); exact hS.out _ _ (by exact HS.out) b9
  clear hK K
  try simp only [Act.put, List.setIfInBounds_toArray, List.set_cons_zero, List.set_cons_succ]
  have HS9 := Lib.hid hHeld
  have HB9 := Lib.hid (HB.out.drew.trans (b9.mono (by have := HB.out.size; exact this)))
  obtain ⟨gv1, cap1, cur1, rfl, hgv1, hcur1, hcc1, hcm1, hxs1⟩ := own_blk (n := 16) own1
  have RV1 : IRow w9 .u8 (some ⟨gv1, 0, none⟩) 17 (byZ r) := fun i hi => ⟨_, rfl, hcur1.lt, by rw [add_zero_block, hcur1.cell, hxs1 i hi, intsOf_at _ _ _ _ hi], by have := byZ_bd HR.out i hi; simp [Lit.wf, IntKind.min, IntKind.max, IntKind.signed, IntKind.bits]; omega⟩
  have HRV1 := Lib.hid RV1
  clear own1 hcur1 hgv1 hcm1 hxs1 RV1 b9 hHeld
  refine rg_next (i := 3) (l := #[true, true, true, true, false, false, false, false, false, false, false, false, false, false, false, false, false, false, false, false, false, false, false, false, false]) (fuel := 21) (by kernel_rfl) rfl (by kernel_rfl) (by kernel_rfl) (fun K hK => ?_)
  go_simp
  go_at_call 12
  refine (rsbytes_any r HR.out _).mono ?_
  rintro e w10 ⟨⟨v2, rfl, own2⟩, b10⟩
  first | (refine hK.out _ _ ?_ (fun hHeld => ?_)) | (go_wp2_with fail; refine hK.out _ _ ?_ (fun hHeld => ?_))
  · (try dsimp only); exact hS.out _ _ HS9.out b10
  clear hK K
  try simp only [Act.put, List.setIfInBounds_toArray, List.set_cons_zero, List.set_cons_succ]
  have HS10 := Lib.hid hHeld
  have HB10 := Lib.hid (HB9.out.trans (b10.mono HB9.out.size))
  obtain ⟨gv2, cap2, cur2, rfl, hgv2, hcur2, hcc2, hcm2, hxs2⟩ := own_blk (n := 16) own2
  have RV2 : IRow w10 .u8 (some ⟨gv2, 0, none⟩) 17 (byZ r) := fun i hi => ⟨_, rfl, hcur2.lt, by rw [add_zero_block, hcur2.cell, hxs2 i hi, intsOf_at _ _ _ _ hi], by have := byZ_bd HR.out i hi; simp [Lit.wf, IntKind.min, IntKind.max, IntKind.signed, IntKind.bits]; omega⟩
  have HRV2 := Lib.hid RV2
  have HRV3 := Lib.hid (HRV1.out.keep b10)
  clear own2 hcur2 hgv2 hcm2 hxs2 RV2 b10 hHeld HRV1
  refine rg_next (i := 4) (l := #[true, true, true, true, true, false, false, false, false, false, false, false, false, false, false, false, false, false, false, false, false, false, false, false, false]) (fuel := 20) (by kernel_rfl) rfl (by kernel_rfl) (by kernel_rfl) (fun K hK => ?_)
  go_simp
  go_at_call 11
  refine (asame2 (by unfold maxLen; decide) HRV3.out HRV2.out (fun i _ => rfl)).mono ?_
  rintro e w11 ⟨rfl, b11⟩
  first | (refine hK.out _ _ ?_ (fun hHeld => ?_)) | (go_wp2_with fail; refine hK.out _ _ ?_ (fun hHeld => ?_))
  · (try dsimp only); exact hS.out _ _ HS10.out b11
  clear hK K
  try simp only [Act.put, List.setIfInBounds_toArray, List.set_cons_zero, List.set_cons_succ]
  have HB11 := Lib.hid (HB10.out.trans (b11.mono HB10.out.size))
  clear b11
  refine rg_take (i := 5) (d := some 34) (l := #[true, true, true, true, true, true, false, false, false, false, false, false, false, false, false, false, false, false, false, false, false, false, false, false, false]) (fuel := 19) (v := ?_) rfl (by kernel_rfl) (by kernel_rfl) (by kernel_rfl) (by kernel_rfl) (by kernel_rfl) (fun _ _ _ h => h) (by kernel_rfl) ?_ (by assumption) ?_
  rotate_left 1
  · (intro wS hSw; (try dsimp only at hSw); go_simp; try with_reducible rfl)
  try simp only [Act.put, List.setIfInBounds_toArray, List.set_cons_zero, List.set_cons_succ]
  refine rg_take (i := 6) (d := some 35) (l := #[true, true, true, true, true, true, true, false, false, false, false, false, false, false, false, false, false, false, false, false, false, false, false, false, false]) (fuel := 18) (v := .agg (stA (ofR n z))) rfl (by kernel_rfl) (by kernel_rfl) (by kernel_rfl) (by kernel_rfl) (by kernel_rfl) (fun _ _ _ h => h) (by kernel_rfl) ?_ (by assumption) ?_
  · (intro wS hSw; (try dsimp only at hSw); exact row_load (ofR n z) rfl rfl hSw.2.1)
  try simp only [Act.put, List.setIfInBounds_toArray, List.set_cons_zero, List.set_cons_succ]
  refine rg_take (i := 7) (d := some 36) (l := #[true, true, true, true, true, true, true, true, false, false, false, false, false, false, false, false, false, false, false, false, false, false, false, false, false]) (fuel := 17) (v := .agg (stA (ofR n z))) rfl (by kernel_rfl) (by kernel_rfl) (by kernel_rfl) (by kernel_rfl) (by kernel_rfl) (fun _ _ _ h => h) (by kernel_rfl) ?_ (by assumption) ?_
  · (intro wS hSw; (try dsimp only at hSw); exact row_load (ofR n z) rfl rfl hSw.2.2.1)
  try simp only [Act.put, List.setIfInBounds_toArray, List.set_cons_zero, List.set_cons_succ]
  refine rg_take (i := 8) (d := some 37) (l := #[true, true, true, true, true, true, true, true, true, false, false, false, false, false, false, false, false, false, false, false, false, false, false, false, false]) (fuel := 16) (v := .bool true) rfl (by kernel_rfl) (by kernel_rfl) (by kernel_rfl) (by kernel_rfl) (by kernel_rfl) (fun _ _ _ h => h) (by kernel_rfl) ?_ (by assumption) ?_
  · (intro wS hSw; (try dsimp only at hSw); exact exec_eql (ofR n z) rfl rfl rfl)
  try simp only [Act.put, List.setIfInBounds_toArray, List.set_cons_zero, List.set_cons_succ]
  refine rg_take (i := 9) (d := some 38) (l := #[true, true, true, true, true, true, true, true, true, true, false, false, false, false, false, false, false, false, false, false, false, false, false, false, false]) (fuel := 15) (v := ?_) rfl (by kernel_rfl) (by kernel_rfl) (by kernel_rfl) (by kernel_rfl) (by kernel_rfl) (fun _ _ _ h => h) (by kernel_rfl) ?_ (by assumption) ?_
  rotate_left 1
  · (intro wS hSw; (try dsimp only at hSw); go_simp; try with_reducible rfl)
  try simp only [Act.put, List.setIfInBounds_toArray, List.set_cons_zero, List.set_cons_succ]
  refine rg_take (i := 10) (d := some 39) (l := #[true, true, true, true, true, true, true, true, true, true, true, false, false, false, false, false, false, false, false, false, false, false, false, false, false]) (fuel := 14) (v := ?_) rfl (by kernel_rfl) (by kernel_rfl) (by kernel_rfl) (by kernel_rfl) (by kernel_rfl) (fun _ _ _ h => h) (by kernel_rfl) ?_ (by assumption) ?_
  rotate_left 1
  · (intro wS hSw; (try dsimp only at hSw); go_simp; try with_reducible rfl)
  try simp only [Act.put, List.setIfInBounds_toArray, List.set_cons_zero, List.set_cons_succ]
  refine rg_take (i := 11) (d := some 40) (l := #[true, true, true, true, true, true, true, true, true, true, true, true, false, false, false, false, false, false, false, false, false, false, false, false, false]) (fuel := 13) (v := ?_) rfl (by kernel_rfl) (by kernel_rfl) (by kernel_rfl) (by kernel_rfl) (by kernel_rfl) (fun _ _ _ h => h) (by kernel_rfl) ?_ (by assumption) ?_
  rotate_left 1
  · (intro wS hSw; (try dsimp only at hSw); go_simp; try with_reducible rfl)
  try simp only [Act.put, List.setIfInBounds_toArray, List.set_cons_zero, List.set_cons_succ]
  refine rg_take (i := 12) (d := some 41) (l := #[true, true, true, true, true, true, true, true, true, true, true, true, true, false, false, false, false, false, false, false, false, false, false, false, false]) (fuel := 12) (v := ?_) rfl (by kernel_rfl) (by kernel_rfl) (by kernel_rfl) (by kernel_rfl) (by kernel_rfl) (fun _ _ _ h => h) (by kernel_rfl) ?_ (by assumption) ?_
  rotate_left 1
  · (intro wS hSw; (try dsimp only at hSw); go_simp; try with_reducible rfl)
  try simp only [Act.put, List.setIfInBounds_toArray, List.set_cons_zero, List.set_cons_succ]
  refine rg_take (i := 13) (d := some 42) (l := #[true, true, true, true, true, true, true, true, true, true, true, true, true, true, false, false, false, false, false, false, false, false, false, false, false]) (fuel := 11) (v := ?_) rfl (by kernel_rfl) (by kernel_rfl) (by kernel_rfl) (by kernel_rfl) (by kernel_rfl) (fun _ _ _ h => h) (by kernel_rfl) ?_ (by assumption) ?_
  rotate_left 1
  · (intro wS hSw; (try dsimp only at hSw); go_simp; try with_reducible rfl)
  try simp only [Act.put, List.setIfInBounds_toArray, List.set_cons_zero, List.set_cons_succ]
  refine rg_take (i := 14) (d := some 43) (l := #[true, true, true, true, true, true, true, true, true, true, true, true, true, true, true, false, false, false, false, false, false, false, false, false, false]) (fuel := 10) (v := ?_) rfl (by kernel_rfl) (by kernel_rfl) (by kernel_rfl) (by kernel_rfl) (by kernel_rfl) (fun _ _ _ h => h) (by kernel_rfl) ?_ (by assumption) ?_
  rotate_left 1
  · (intro wS hSw; (try dsimp only at hSw); go_simp; try with_reducible rfl)
  try simp only [Act.put, List.setIfInBounds_toArray, List.set_cons_zero, List.set_cons_succ]
  refine rg_take (i := 15) (d := some 44) (l := #[true, true, true, true, true, true, true, true, true, true, true, true, true, true, true, true, false, false, false, false, false, false, false, false, false]) (fuel := 9) (v := ?_) rfl (by kernel_rfl) (by kernel_rfl) (by kernel_rfl) (by kernel_rfl) (by kernel_rfl) (fun _ _ _ h => h) (by kernel_rfl) ?_ (by assumption) ?_
  rotate_left 1
  · (intro wS hSw; (try dsimp only at hSw); go_simp; try with_reducible rfl)
  try simp only [Act.put, List.setIfInBounds_toArray, List.set_cons_zero, List.set_cons_succ]
  refine rg_take (i := 16) (d := some 45) (l := #[true, true, true, true, true, true, true, true, true, true, true, true, true, true, true, true, true, false, false, false, false, false, false, false, false]) (fuel := 8) (v := .agg (stA r)) rfl (by kernel_rfl) (by kernel_rfl) (by kernel_rfl) (by kernel_rfl) (by kernel_rfl) (fun _ _ _ h => h) (by kernel_rfl) ?_ (by assumption) ?_
  · (intro wS hSw; (try dsimp only at hSw); exact row_load r rfl rfl hSw.2.2.2)
  try simp only [Act.put, List.setIfInBounds_toArray, List.set_cons_zero, List.set_cons_succ]
  refine rg_take (i := 17) (d := some 46) (l := #[true, true, true, true, true, true, true, true, true, true, true, true, true, true, true, true, true, true, false, false, false, false, false, false, false]) (fuel := 7) (v := .agg (stA r)) rfl (by kernel_rfl) (by kernel_rfl) (by kernel_rfl) (by kernel_rfl) (by kernel_rfl) (fun _ _ _ h => h) (by kernel_rfl) ?_ (by assumption) ?_
  · (intro wS hSw; (try dsimp only at hSw); exact row_load r rfl rfl hSw.1)
  try simp only [Act.put, List.setIfInBounds_toArray, List.set_cons_zero, List.set_cons_succ]
  refine rg_take (i := 18) (d := some 47) (l := #[true, true, true, true, true, true, true, true, true, true, true, true, true, true, true, true, true, true, true, false, false, false, false, false, false]) (fuel := 6) (v := .bool true) rfl (by kernel_rfl) (by kernel_rfl) (by kernel_rfl) (by kernel_rfl) (by kernel_rfl) (fun _ _ _ h => h) (by kernel_rfl) ?_ (by assumption) ?_
  · (intro wS hSw; (try dsimp only at hSw); exact exec_eql r rfl rfl rfl)
  try simp only [Act.put, List.setIfInBounds_toArray, List.set_cons_zero, List.set_cons_succ]
  refine rg_take (i := 19) (d := some 48) (l := #[true, true, true, true, true, true, true, true, true, true, true, true, true, true, true, true, true, true, true, true, false, false, false, false, false]) (fuel := 5) (v := ?_) rfl (by kernel_rfl) (by kernel_rfl) (by kernel_rfl) (by kernel_rfl) (by kernel_rfl) (fun _ _ _ h => h) (by kernel_rfl) ?_ (by assumption) ?_
  rotate_left 1
  · (intro wS hSw; (try dsimp only at hSw); go_simp; try with_reducible rfl)
  try simp only [Act.put, List.setIfInBounds_toArray, List.set_cons_zero, List.set_cons_succ]
  refine rg_take (i := 20) (d := some 49) (l := #[true, true, true, true, true, true, true, true, true, true, true, true, true, true, true, true, true, true, true, true, true, false, false, false, false]) (fuel := 4) (v := ?_) rfl (by kernel_rfl) (by kernel_rfl) (by kernel_rfl) (by kernel_rfl) (by kernel_rfl) (fun _ _ _ h => h) (by kernel_rfl) ?_ (by assumption) ?_
  rotate_left 1
  · (intro wS hSw; (try dsimp only at hSw); go_simp; try with_reducible rfl)
  try simp only [Act.put, List.setIfInBounds_toArray, List.set_cons_zero, List.set_cons_succ]
  refine rg_take (i := 21) (d := some 50) (l := #[true, true, true, true, true, true, true, true, true, true, true, true, true, true, true, true, true, true, true, true, true, true, false, false, false]) (fuel := 3) (v := ?_) rfl (by kernel_rfl) (by kernel_rfl) (by kernel_rfl) (by kernel_rfl) (by kernel_rfl) (fun _ _ _ h => h) (by kernel_rfl) ?_ (by assumption) ?_
  rotate_left 1
  · (intro wS hSw; (try dsimp only at hSw); go_simp; try with_reducible rfl)
  try simp only [Act.put, List.setIfInBounds_toArray, List.set_cons_zero, List.set_cons_succ]
  refine rg_take (i := 22) (d := some 51) (l := #[true, true, true, true, true, true, true, true, true, true, true, true, true, true, true, true, true, true, true, true, true, true, true, false, false]) (fuel := 2) (v := ?_) rfl (by kernel_rfl) (by kernel_rfl) (by kernel_rfl) (by kernel_rfl) (by kernel_rfl) (fun _ _ _ h => h) (by kernel_rfl) ?_ (by assumption) ?_
  rotate_left 1
  · (intro wS hSw; (try dsimp only at hSw); go_simp; try with_reducible rfl)
  try simp only [Act.put, List.setIfInBounds_toArray, List.set_cons_zero, List.set_cons_succ]
  refine rg_take (i := 23) (d := some 52) (l := #[true, true, true, true, true, true, true, true, true, true, true, true, true, true, true, true, true, true, true, true, true, true, true, true, false]) (fuel := 1) (v := ?_) rfl (by kernel_rfl) (by kernel_rfl) (by kernel_rfl) (by kernel_rfl) (by kernel_rfl) (fun _ _ _ h => h) (by kernel_rfl) ?_ (by assumption) ?_
  rotate_left 1
  · (intro wS hSw; (try dsimp only at hSw); go_simp; try with_reducible rfl)
  try simp only [Act.put, List.setIfInBounds_toArray, List.set_cons_zero, List.set_cons_succ]
  refine rg_take (i := 24) (d := some 4) (l := #[true, true, true, true, true, true, true, true, true, true, true, true, true, true, true, true, true, true, true, true, true, true, true, true, true]) (fuel := 0) (v := ?_) rfl (by kernel_rfl) (by kernel_rfl) (by kernel_rfl) (by kernel_rfl) (by kernel_rfl) (fun _ _ _ h => h) (by kernel_rfl) ?_ (by assumption) ?_
  rotate_left 1
  · (intro wS hSw; (try dsimp only at hSw); go_simp; try with_reducible rfl)
  try simp only [Act.put, List.setIfInBounds_toArray, List.set_cons_zero, List.set_cons_succ]
  refine wpAnyH_done (by kernel_rfl) ?_ _
  go_wp2_with fail
  go_ret
  exact ⟨rfl, HB11.out⟩

theorem own : ownKnob Tryd.prog.godebug = none := by kernel_rfl
theorem laidOut : laidOutB Tryd.prog = true := by kernel_rfl
theorem door_met (os : Os) (args : Array Value) : laidMetH Tryd.prog laid2 ((World.doorLaid Tryd.prog 400 os).forCall (fun _ _ => 0) ⟨#[], args, []⟩).memory :=
  laidMetH_of_parts3 (fuel := 8) (laidMet_of_run' 8 (by kernel_rfl) (by kernel_rfl)) (by kernel_rfl) (by kernel_rfl)
set_option maxRecDepth 100000 in
set_option maxHeartbeats 4000000 in
theorem lifted (os : Os) (started : os.Started) (H : Type) (enc : TypeId × Value → H) :
    ReturnsInHanded {} Tryd.checked os 3 .any (fun w args => (Rows.stateBytesSpec.pre enc Tryd.prog Tryd.f3 [] false w args ∧ laidMetH Tryd.prog laid2 w) ∧ sizedMet enc Tryd.prog Tryd.f3 (OpenSpec.ofChange Rows.stateBytesSpec) false w args)
      (Rows.stateBytesSpec.post enc Tryd.prog Tryd.f3 false true false false) := by
  refine returnsInHanded_of_change_and (C := Tryd.checked) (X := fun w _ => laidMetH Tryd.prog laid2 w) (fun _ _ _ hh h => h.of_heap hh) own started (by kernel_rfl) Tryd.func3
    (ChangeSpec.witness_shaped (enc := enc) (C := Tryd.checked) (os := os) (X := fun w _ => laidMetH Tryd.prog laid2 w) false (World.doorLaid Tryd.prog 400 os) #[.agg #[.int .u8 0, .int .u8 0, .int .u8 0, .int .u8 0, .int .u8 0, .int .u16 0, .int .u8 0, .int .u8 0, .int .u8 0, .int .u8 0, .int .u8 0, .int .u8 0, .int .u8 0, .int .u8 0, .int .u8 0, .bool false], .slice none 0 0] 8 rfl (World.shaped_of_RefB (by kernel_rfl) (by kernel_rfl)) (by kernel_rfl) (by kernel_rfl) (by kernel_rfl) (door_met os _)) ?_
  intro W base args ds gs before hval0 hW _ _ hL0 _
  have hL : laidMetH Tryd.prog laid2 W := hL0
  rw [MakeChecks.laidMetH_plain _ _ _ (by kernel_rfl)] at hL
  have HT := of_laid hL
  have hval : ∀ (j : Nat) t v, Tryd.f3.params[j]? = some t → args[j]? = some v → Value.okWide Tryd.prog W .any base t v := hval0
  have hW' := hW
  obtain ⟨p, q, hA0, hV, rfl, _, _⟩ := hW
  have hA : DataW.TrodAll enc Tryd.prog W 0 (fun _ => true) true Tryd.f3.params.toList args.toList ds p := hA0
  rw [Tryd.params3] at hA hval
  obtain ⟨v0, vs0, d0, ds0, p0, q0, hargs, rfl, rfl, h0, r0⟩ := trodAll_cons hA
  obtain ⟨v1, vs1, d1, ds1, p1, q1, rfl, rfl, rfl, h1, r1⟩ := trodAll_cons r0
  obtain ⟨rfl, rfl, rfl⟩ := trodAll_nil r1
  obtain rfl : args = #[v0, v1] := by cases args; simp_all
  obtain ⟨rfl, rfl⟩ := trodVars_none hV
  obtain ⟨st0, rfl, So0⟩ := state_value Tryd.underlying25 (by kernel_rfl) (by kernel_rfl) (by kernel_rfl) Tryd.underlying5 Tryd.underlying5 Tryd.underlying5 Tryd.underlying5 Tryd.underlying5 Tryd.underlying22 Tryd.underlying23 Tryd.underlying5 (by kernel_rfl) Tryd.underlying5 Tryd.underlying4 (hval 0 25 v0 rfl rfl) h0
  obtain ⟨A1, n1, c1, z1, rfl, g1, m1, R1⟩ := slice_ints Tryd.underlying26 Tryd.underlying5 (by kernel_rfl) (hval 1 26 v1 rfl rfl) h1
  clear hA0 hval0
  refine (walk st0 So0 A1 n1 c1 z1 g1 m1 R1 HT).mono fun e W' ⟨he, hg⟩ => ?_
  subst he
  exact ⟨_, rfl, law_post rfl Tryd.underlying4 laidOut (by kernel_rfl) rfl hW' rfl hg⟩

theorem over : Rows.stateBytesRow.holds Tryd.pinned (OpenSpec.ofChange Rows.stateBytesSpec) :=
  OpenClaim.holds_of_wide 3 Tryd.f3 rfl rfl rfl rfl rfl rfl rfl ⟨rfl, rfl, rfl, rfl, rfl⟩ rfl rfl rfl rfl rfl (by kernel_rfl) Tryd.func3 (by kernel_rfl)
    (of_decide_eq_true (by kernel_rfl)) (by unfold Func.isWrapper; first | (rw [if_pos (by decide +kernel)]; kernel_rfl) | (rw [if_neg (by decide +kernel)]; exact ⟨rfl, rfl⟩))
    (fun os started H enc _ => lifted os started H enc)

theorem proved : Rows.StateBytesCardSaid :=
  Claim7.holds_tied_plain_at .later [] [.data, .data, .data] true _ false
    over (fun _ h => by cases h) (by kernel_rfl) (fun _ h => by cases h) stateBytes_row_tie rfl ⟨rfl, rfl⟩ (by kernel_rfl) rfl
    (fun f fn hf hfn => by
      obtain rfl : f = 3 := Option.some.inj ((show Tryd.prog.funcNamed "gannet/gannetlaw25.StateBytes" = some 3 by kernel_rfl).symm.trans hf) |>.symm
      obtain rfl : fn = Tryd.f3 := (Option.some.inj (Tryd.func3.symm.trans hfn)).symm
      exact ⟨by kernel_rfl, fun j t ht => by
        rw [Tryd.params3] at ht
        have hm : t ∈ [25, 26] := by simpa using Array.mem_of_getElem? ht
        have hall : ([25, 26].all fun u => !Tryd.prog.wantsStandIn u) = true := by kernel_rfl
        exact (show Tryd.prog.wantsStandIn t = false by simpa using List.all_eq_true.1 hall t hm)⟩)
    (by kernel_rfl)
#print axioms proved
end Go.Proofs.YtnnfnjbfjgjgnaaDoor.stateBytes
