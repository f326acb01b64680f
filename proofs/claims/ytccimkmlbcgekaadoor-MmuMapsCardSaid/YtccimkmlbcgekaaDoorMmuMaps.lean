/-
  For every input MmuMaps returns true, and each argument reads behind the call as it read before. The one condition: when the call begins the package-level variables that the row lists hold what the program lays in them (TIED: the card shows it of the text of the project, pruned to the packages that this seat loads).
-/
import Derived.Test.YtccimkmlbcgekaaDoorRows
import Derived.Test.YtccimkmlbcgekaaDoorG3
import Derived.SevenTiedAt
import Derived.ProofKit
import Derived.LaidMore
import Derived.OpenShut
import Derived.Stop.Joined
import Derived.Test.YtccimkmlbcgekaaDoorCards
import Derived.Test.YtccimkmlbcgekaaDoorTie
import Derived.Test.YtccimkmlbcgekaaDoorLaid9
import Derived.Test.YtccimkmlbcgekaaDoorMmu9
import Derived.Test.YtccimkmlbcgekaaDoorG14
namespace Go.Proofs.YtccimkmlbcgekaaDoor.mmuMaps
open Go.ChangeShapes Go.WideShapes Go.ChangeAt Go.RowKit
open Go.ChangeMaps (open_string)

set_option linter.unusedVariables false
set_option linter.unusedSimpArgs false
set_option maxRecDepth 100000 in
set_option maxHeartbeats 8000000 in
theorem walk (z : Nat → Int) (uz : ∀ i, (Lit.int .u8 (z i)).wf = true) (a : Int) (wa : (Lit.int .u16 a).wf = true) (p : Int) (wp : (Lit.int .u32 p).wf = true) (W : World) (hT : Tabs W) :
    Calls Tryd.prog 4 #[.agg (vArr 8 fun i => .int .u8 (z i)), .int .u16 a, .int .u32 p] W fun e w' => e = .returned (.bool true) ∧ Below W.heap.size W w' := by
  obtain ⟨a0, a1⟩ := bounds_u16 wa
  obtain ⟨p0, p1⟩ := bounds_u32 wp
  have HT := Lib.hid hT
  have HZ : Hid (∀ i, i < 8 → 0 ≤ z i ∧ z i ≤ 255) := Lib.hid fun i _ => bounds_u8 (uz i)
  clear hT wa wp uz
  show Calls Tryd.prog 4 #[.agg #[.int .u8 (z 0), .int .u8 (z 1), .int .u8 (z 2), .int .u8 (z 3), .int .u8 (z 4), .int .u8 (z 5), .int .u8 (z 6), .int .u8 (z 7)], .int .u16 a, .int .u32 p] W _
  have hB1 : Below W.heap.size W (W.alloc (.cells #[.int .u8 (z 0), .int .u8 (z 1), .int .u8 (z 2), .int .u8 (z 3), .int .u8 (z 4), .int .u8 (z 5), .int .u8 (z 6), .int .u8 (z 7)] 22)) := (Below.refl _ W).alloc (Nat.le_refl _) _
  have hx1 : Blk (W.alloc (.cells #[.int .u8 (z 0), .int .u8 (z 1), .int .u8 (z 2), .int .u8 (z 3), .int .u8 (z 4), .int .u8 (z 5), .int .u8 (z 6), .int .u8 (z 7)] 22)) W.heap.size 22 (p8 z) := Blk.new_ rfl
  have HB1 := Lib.hid hB1
  have HX1 := Lib.hid hx1
  clear hB1 hx1
  go_enter Tryd.func4, Tryd.ntmps4
  go_wp2_with fail
  refine (live18 (HT.out.below HB1.out)).mono ?_
  rintro e w2 ⟨rfl, k2⟩
  have hx2 := HX1.out.below k2 HX1.out.lt
  have HB2 := Lib.hid (HB1.out.trans (k2.mono HB1.out.size))
  have c0 : w2.cell? ⟨W.heap.size, 0, none⟩ = some (.int .u8 (z 0)) := hx2.cell 0
  have c1 : w2.cell? ⟨W.heap.size, 1, none⟩ = some (.int .u8 (z 1)) := hx2.cell 1
  have c2 : w2.cell? ⟨W.heap.size, 2, none⟩ = some (.int .u8 (z 2)) := hx2.cell 2
  have c3 : w2.cell? ⟨W.heap.size, 3, none⟩ = some (.int .u8 (z 3)) := hx2.cell 3
  have c4 : w2.cell? ⟨W.heap.size, 4, none⟩ = some (.int .u8 (z 4)) := hx2.cell 4
  have c5 : w2.cell? ⟨W.heap.size, 5, none⟩ = some (.int .u8 (z 5)) := hx2.cell 5
  have c6 : w2.cell? ⟨W.heap.size, 6, none⟩ = some (.int .u8 (z 6)) := hx2.cell 6
  have c7 : w2.cell? ⟨W.heap.size, 7, none⟩ = some (.int .u8 (z 7)) := hx2.cell 7
  have HX2 := Lib.hid hx2
  clear k2 hx2
  go_wp2_with fail
  clear c0 c1 c2 c3 c4 c5 c6 c7
  refine (mof_any z 0 _).mono ?_
  rintro e w3 ⟨g, rfl, hg, hm, k3⟩
  have HM := Lib.hid hm
  have hx3 := HX2.out.below k3 HX2.out.lt
  have HB3 := Lib.hid (HB2.out.trans (k3.mono HB2.out.size))
  have c0 : w3.cell? ⟨W.heap.size, 0, none⟩ = some (.int .u8 (z 0)) := hx3.cell 0
  have c1 : w3.cell? ⟨W.heap.size, 1, none⟩ = some (.int .u8 (z 1)) := hx3.cell 1
  have c2 : w3.cell? ⟨W.heap.size, 2, none⟩ = some (.int .u8 (z 2)) := hx3.cell 2
  have c3 : w3.cell? ⟨W.heap.size, 3, none⟩ = some (.int .u8 (z 3)) := hx3.cell 3
  have c4 : w3.cell? ⟨W.heap.size, 4, none⟩ = some (.int .u8 (z 4)) := hx3.cell 4
  have c5 : w3.cell? ⟨W.heap.size, 5, none⟩ = some (.int .u8 (z 5)) := hx3.cell 5
  have c6 : w3.cell? ⟨W.heap.size, 6, none⟩ = some (.int .u8 (z 6)) := hx3.cell 6
  have c7 : w3.cell? ⟨W.heap.size, 7, none⟩ = some (.int .u8 (z 7)) := hx3.cell 7
  clear hm k3 hx3
  go_upto_region 5 with fail
  have hrm : RM (w3.alloc (.cells (mmC z 0) 29)) w3.heap.size z 0 := Blk.new_ rfl
  have hm4 : MM (w3.alloc (.cells (mmC z 0) 29)) g z 0 := Blk.alloc HM.out _
  have hB4 : Below W.heap.size W (w3.alloc (.cells (mmC z 0) 29)) := HB3.out.alloc HB3.out.size _
  unfold mmC at hrm hm4 hB4
  generalize w3.heap.size = r at *
  generalize World.alloc w3 _ = w4 at *
  have HR4 := Lib.hid hrm
  have HM4 := Lib.hid hm4
  have HB4 := Lib.hid hB4
  clear hrm hm4 hB4 c0 c1 c2 c3 c4 c5 c6 c7
  go_wp2_with fail
  refine (mseen_any HM4.out HZ.out p p0 p1).mono ?_
  rintro e w5 ⟨v, rfl, o5, b5⟩
  rw [seL_ints, intsOf_len] at o5
  obtain ⟨A, cap, rfl, hc1, hc2, hI5, -, -, -⟩ := own_row o5 (fun i hi => seZ_wf z p p0 i hi)
  have HR5 := Lib.hid (HR4.out.below b5 HR4.out.lt_)
  have HM5 := Lib.hid (HM4.out.below b5 HM4.out.lt_)
  have HB5 := Lib.hid (HB4.out.trans (b5.mono HB4.out.size))
  have HI5 := Lib.hid hI5
  clear b5 o5 hI5
  go_wp2_with fail
  refine (rseen_any HR5.out HZ.out p p0 p1).mono ?_
  rintro e w6 ⟨v, rfl, o6, b6⟩
  rw [seL_ints, intsOf_len] at o6
  obtain ⟨A2, cap2, rfl, hd1, hd2, hI6, -, -, -⟩ := own_row o6 (fun i hi => seZ_wf z p p0 i hi)
  have HR6 := Lib.hid (HR5.out.below b6 HR5.out.lt_)
  have HM6 := Lib.hid (HM5.out.below b6 HM5.out.lt_)
  have HB6 := Lib.hid (HB5.out.trans (b6.mono HB5.out.size))
  have HJ6 := Lib.hid hI6
  have HI6 := Lib.hid (HI5.out.keep b6)
  clear b6 o6 hI6
  obtain ⟨N, hN⟩ : ∃ N, (seN z p).length = N := ⟨_, rfl⟩
  obtain ⟨y, hy⟩ : ∃ y, seZ z p = y := ⟨_, rfl⟩
  obtain ⟨q, hq⟩ : ∃ q, p % 2097152 = q := ⟨_, rfl⟩
  have hY : ∀ i, i < N → 0 ≤ y i ∧ y i ≤ 65535 ∧ phI z (y i) = q := by rw [← hN, ← hy, ← hq]; exact fun i hi => seZ_spec z p p0 i hi
  have hN8 : N ≤ 8 := by rw [← hN]; exact seN_le z p
  have pt : p.tmod 2097152 = q := by rw [Int.tmod_eq_emod_of_nonneg p0, hq]
  have q0 : 0 ≤ q ∧ q < 2097152 := by omega
  rw [hN] at hc1 hd1 HI6 HJ6
  rw [hy] at HI6 HJ6
  have HY := Lib.hid hY
  clear hY HI5 hy hq
  obtain ⟨x, hx⟩ : ∃ x, phI z a = x := ⟨_, rfl⟩
  have HXX := Lib.hid hx
  clear hx
  have vx : (x != x) = false := by simp
  have vN : ((N : Int) != (N : Int)) = false := by simp
  go_wp2_with fail
  refine (mphys_of (banks_any HM6.out) HZ.out a a0 a1).mono ?_
  rw [HXX.out]
  rintro e w7 ⟨rfl, b7⟩
  have HR7 := Lib.hid (HR6.out.below b7 HR6.out.lt_)
  have HM7 := Lib.hid (HM6.out.below b7 HM6.out.lt_)
  have HB7 := Lib.hid (HB6.out.trans (b7.mono HB6.out.size))
  have HI7 := Lib.hid (HI6.out.keep b7)
  have HJ7 := Lib.hid (HJ6.out.keep b7)
  clear b7 HR4 HR5 HR6 HM4 HM5 HM6 HB1 HX1 HB2 HX2 HB3 HB4 HB5 HB6 HI6 HJ6 HM
  go_wp2_with fail
  refine (rmphys_any HR7.out HZ.out a a0 a1).mono ?_
  rw [HXX.out]
  rintro e w' ⟨rfl, rfl⟩
  clear HXX
  go_wp2_with fail
  clear vx vN
  go_loopw [11] (fun i wr => ∃ k : Nat, k ≤ N ∧ i = .int .i64 k ∧ MM wr g z 0 ∧ IRow wr .u16 A N y ∧ IRow wr .u16 A2 N y ∧ Below W.heap.size W wr) (fun i _ => N - (intOf i).toNat)
  case atStart => exact ⟨0, by omega, rfl, HM7.out, HI7.out, HJ7.out, HB7.out⟩
  case round =>
    obtain ⟨k, hk, rfl, hM, hI, hJ, hBr⟩ := hrel
    by_cases hlt : k < N
    · have i0 : (k : Int) < (N : Int) := by omega
      have i1 : (0 : Int) ≤ (k : Int) := by omega
      obtain ⟨ad, rfl, l1, cA, _⟩ := hI k hlt
      obtain ⟨ad2, rfl, l2, cB, _⟩ := hJ k hlt
      obtain ⟨y0, y1, hph⟩ := HY.out k hlt
      obtain ⟨t, ht⟩ : ∃ t, y k = t := ⟨_, rfl⟩
      rw [ht] at cA cB y0 y1 hph
      have n1 : (t != t) = false := by simp
      have n2 : (q != q) = false := by simp
      have HM := Lib.hid hM
      have HI := Lib.hid hI
      have HJ := Lib.hid hJ
      have HBr := Lib.hid hBr
      have HPH := Lib.hid hph
      clear hM hI hJ hBr ht hph HM7 HI7 HJ7 HB7
      go_upto_region 11 with fail
      refine rg_begin (S := fun w' => w'.cell? (ad.add k) = some (.int .u16 t) ∧ w'.cell? (ad2.add k) = some (.int .u16 t)) 20 #[false, false, false, false, false, false, false, false, false, false, false, false, false, false, false, false, false, false, false, false] (by kernel_rfl) (by kernel_rfl) (by kernel_rfl) ?_ (fun hHeld => ?_)
      · exact ⟨cA, cB⟩
      refine rg_take (i := 0) (d := some 45) (l := #[true, false, false, false, false, false, false, false, false, false, false, false, false, false, false, false, false, false, false, false]) (fuel := 19) (v := ?_) rfl (by kernel_rfl) (by kernel_rfl) (by kernel_rfl) (by kernel_rfl) (by kernel_rfl) (fun _ _ _ h => h) (by kernel_rfl) ?_ (by assumption) ?_
      rotate_left 1
      · (intro wS hSw; (try dsimp only at hSw); go_simp; try with_reducible rfl)
      try simp only [Act.put, List.setIfInBounds_toArray, List.set_cons_zero, List.set_cons_succ]
      refine rg_take (i := 1) (d := some 46) (l := #[true, true, false, false, false, false, false, false, false, false, false, false, false, false, false, false, false, false, false, false]) (fuel := 18) (v := ?_) rfl (by kernel_rfl) (by kernel_rfl) (by kernel_rfl) (by kernel_rfl) (by kernel_rfl) (fun _ _ _ h => h) (by kernel_rfl) ?_ (by assumption) ?_
      rotate_left 1
      · (intro wS hSw; (try dsimp only at hSw); go_simp; try with_reducible rfl)
      try simp only [Act.put, List.setIfInBounds_toArray, List.set_cons_zero, List.set_cons_succ]
      refine rg_take (i := 2) (d := some 47) (l := #[true, true, true, false, false, false, false, false, false, false, false, false, false, false, false, false, false, false, false, false]) (fuel := 17) (v := ?_) rfl (by kernel_rfl) (by kernel_rfl) (by kernel_rfl) (by kernel_rfl) (by kernel_rfl) (fun _ _ _ h => h) (by kernel_rfl) ?_ (by assumption) ?_
      rotate_left 1
      · (intro wS hSw; (try dsimp only at hSw); go_simp; try with_reducible rfl)
      try simp only [Act.put, List.setIfInBounds_toArray, List.set_cons_zero, List.set_cons_succ]
      refine rg_take (i := 3) (d := some 48) (l := #[true, true, true, true, false, false, false, false, false, false, false, false, false, false, false, false, false, false, false, false]) (fuel := 16) (v := ?_) rfl (by kernel_rfl) (by kernel_rfl) (by kernel_rfl) (by kernel_rfl) (by kernel_rfl) (fun _ _ _ h => h) (by kernel_rfl) ?_ (by assumption) ?_
      rotate_left 1
      · (intro wS hSw; (try dsimp only at hSw); go_simp; try with_reducible rfl)
      try simp only [Act.put, List.setIfInBounds_toArray, List.set_cons_zero, List.set_cons_succ]
      refine rg_take (i := 4) (d := some 49) (l := #[true, true, true, true, true, false, false, false, false, false, false, false, false, false, false, false, false, false, false, false]) (fuel := 15) (v := ?_) rfl (by kernel_rfl) (by kernel_rfl) (by kernel_rfl) (by kernel_rfl) (by kernel_rfl) (fun _ _ _ h => h) (by kernel_rfl) ?_ (by assumption) ?_
      rotate_left 1
      · (intro wS hSw; (try dsimp only at hSw); go_simp; try with_reducible rfl)
      try simp only [Act.put, List.setIfInBounds_toArray, List.set_cons_zero, List.set_cons_succ]
      refine rg_take (i := 5) (d := some 50) (l := #[true, true, true, true, true, true, false, false, false, false, false, false, false, false, false, false, false, false, false, false]) (fuel := 14) (v := ?_) rfl (by kernel_rfl) (by kernel_rfl) (by kernel_rfl) (by kernel_rfl) (by kernel_rfl) (fun _ _ _ h => h) (by kernel_rfl) ?_ (by assumption) ?_
      rotate_left 1
      · (intro wS hSw; (try dsimp only at hSw); go_simp; try with_reducible rfl)
      try simp only [Act.put, List.setIfInBounds_toArray, List.set_cons_zero, List.set_cons_succ]
      refine rg_take (i := 6) (d := some 51) (l := #[true, true, true, true, true, true, true, false, false, false, false, false, false, false, false, false, false, false, false, false]) (fuel := 13) (v := ?_) rfl (by kernel_rfl) (by kernel_rfl) (by kernel_rfl) (by kernel_rfl) (by kernel_rfl) (fun _ _ _ h => h) (by kernel_rfl) ?_ (by assumption) ?_
      rotate_left 1
      · (intro wS hSw; (try dsimp only at hSw); go_simp; try with_reducible rfl)
      try simp only [Act.put, List.setIfInBounds_toArray, List.set_cons_zero, List.set_cons_succ]
      refine rg_take (i := 7) (d := some 52) (l := #[true, true, true, true, true, true, true, true, false, false, false, false, false, false, false, false, false, false, false, false]) (fuel := 12) (v := ?_) rfl (by kernel_rfl) (by kernel_rfl) (by kernel_rfl) (by kernel_rfl) (by kernel_rfl) (fun _ _ _ h => h) (by kernel_rfl) ?_ (by assumption) ?_
      rotate_left 1
      · (intro wS hSw; (try dsimp only at hSw); go_simp; try with_reducible rfl)
      try simp only [Act.put, List.setIfInBounds_toArray, List.set_cons_zero, List.set_cons_succ]
      refine rg_take (i := 8) (d := some 53) (l := #[true, true, true, true, true, true, true, true, true, false, false, false, false, false, false, false, false, false, false, false]) (fuel := 11) (v := ?_) rfl (by kernel_rfl) (by kernel_rfl) (by kernel_rfl) (by kernel_rfl) (by kernel_rfl) (fun _ _ _ h => h) (by kernel_rfl) ?_ (by assumption) ?_
      rotate_left 1
      · (intro wS hSw; (try dsimp only at hSw); go_simp; try with_reducible rfl)
      try simp only [Act.put, List.setIfInBounds_toArray, List.set_cons_zero, List.set_cons_succ]
      refine rg_take (i := 9) (d := some 54) (l := #[true, true, true, true, true, true, true, true, true, true, false, false, false, false, false, false, false, false, false, false]) (fuel := 10) (v := ?_) rfl (by kernel_rfl) (by kernel_rfl) (by kernel_rfl) (by kernel_rfl) (by kernel_rfl) (fun _ _ _ h => h) (by kernel_rfl) ?_ (by assumption) ?_
      rotate_left 1
      · (intro wS hSw; (try dsimp only at hSw); go_simp; try with_reducible rfl)
      try simp only [Act.put, List.setIfInBounds_toArray, List.set_cons_zero, List.set_cons_succ]
      refine rg_take (i := 10) (d := some 55) (l := #[true, true, true, true, true, true, true, true, true, true, true, false, false, false, false, false, false, false, false, false]) (fuel := 9) (v := ?_) rfl (by kernel_rfl) (by kernel_rfl) (by kernel_rfl) (by kernel_rfl) (by kernel_rfl) (fun _ _ _ h => h) (by kernel_rfl) ?_ (by assumption) ?_
      rotate_left 1
      · (intro wS hSw; (try dsimp only at hSw); go_simp; try with_reducible rfl)
      try simp only [Act.put, List.setIfInBounds_toArray, List.set_cons_zero, List.set_cons_succ]
      refine rg_take (i := 11) (d := some 56) (l := #[true, true, true, true, true, true, true, true, true, true, true, true, false, false, false, false, false, false, false, false]) (fuel := 8) (v := ?_) rfl (by kernel_rfl) (by kernel_rfl) (by kernel_rfl) (by kernel_rfl) (by kernel_rfl) (fun _ _ _ h => h) (by kernel_rfl) ?_ (by assumption) ?_
      rotate_left 1
      · (intro wS hSw; (try dsimp only at hSw); go_simp; try with_reducible rfl)
      try simp only [Act.put, List.setIfInBounds_toArray, List.set_cons_zero, List.set_cons_succ]
      refine rg_take (i := 12) (d := some 57) (l := #[true, true, true, true, true, true, true, true, true, true, true, true, true, false, false, false, false, false, false, false]) (fuel := 7) (v := ?_) rfl (by kernel_rfl) (by kernel_rfl) (by kernel_rfl) (by kernel_rfl) (by kernel_rfl) (fun _ _ _ h => h) (by kernel_rfl) ?_ (by assumption) ?_
      rotate_left 1
      · (intro wS hSw; (try dsimp only at hSw); go_simp; try with_reducible rfl)
      try simp only [Act.put, List.setIfInBounds_toArray, List.set_cons_zero, List.set_cons_succ]
      refine rg_take (i := 13) (d := some 58) (l := #[true, true, true, true, true, true, true, true, true, true, true, true, true, true, false, false, false, false, false, false]) (fuel := 6) (v := ?_) rfl (by kernel_rfl) (by kernel_rfl) (by kernel_rfl) (by kernel_rfl) (by kernel_rfl) (fun _ _ _ h => h) (by kernel_rfl) ?_ (by assumption) ?_
      rotate_left 1
      · (intro wS hSw; (try dsimp only at hSw); go_simp; try with_reducible rfl)
      try simp only [Act.put, List.setIfInBounds_toArray, List.set_cons_zero, List.set_cons_succ]
      refine rg_take (i := 14) (d := some 59) (l := #[true, true, true, true, true, true, true, true, true, true, true, true, true, true, true, false, false, false, false, false]) (fuel := 5) (v := ?_) rfl (by kernel_rfl) (by kernel_rfl) (by kernel_rfl) (by kernel_rfl) (by kernel_rfl) (fun _ _ _ h => h) (by kernel_rfl) ?_ (by assumption) ?_
      rotate_left 1
      · (intro wS hSw; (try dsimp only at hSw); go_simp; try with_reducible rfl)
      try simp only [Act.put, List.setIfInBounds_toArray, List.set_cons_zero, List.set_cons_succ]
      refine rg_take (i := 16) (d := some 61) (l := #[true, true, true, true, true, true, true, true, true, true, true, true, true, true, true, false, true, false, false, false]) (fuel := 4) (v := ?_) rfl (by kernel_rfl) (by kernel_rfl) (by kernel_rfl) (by kernel_rfl) (by kernel_rfl) (fun _ _ _ h => h) (by kernel_rfl) ?_ (by assumption) ?_
      rotate_left 1
      · (intro wS hSw; (try dsimp only at hSw); go_simp; try with_reducible rfl)
      try simp only [Act.put, List.setIfInBounds_toArray, List.set_cons_zero, List.set_cons_succ]
      refine rg_take (i := 17) (d := some 62) (l := #[true, true, true, true, true, true, true, true, true, true, true, true, true, true, true, false, true, true, false, false]) (fuel := 3) (v := ?_) rfl (by kernel_rfl) (by kernel_rfl) (by kernel_rfl) (by kernel_rfl) (by kernel_rfl) (fun _ _ _ h => h) (by kernel_rfl) ?_ (by assumption) ?_
      rotate_left 1
      · (intro wS hSw; (try dsimp only at hSw); go_simp; try with_reducible rfl)
      try simp only [Act.put, List.setIfInBounds_toArray, List.set_cons_zero, List.set_cons_succ]
      refine rg_next (i := 15) (l := #[true, true, true, true, true, true, true, true, true, true, true, true, true, true, true, true, true, true, false, false]) (fuel := 2) (by kernel_rfl) rfl (by kernel_rfl) (by kernel_rfl) (fun K hK => ?_)
      go_simp
      (go_at_call 16)
      refine (mphys_of (banks_any (HM.out.below (Below.refl _ _).drew HM.out.lt_)) HZ.out t y0 y1).mono ?_
      rw [HPH.out]
      rintro e w8 ⟨rfl, b8⟩
      replace b8 : Below wr.heap.size wr w8 := (Below.refl _ _).drew.trans (b8.mono (Nat.le_refl _))
      have HM8 := Lib.hid (HM.out.below b8 HM.out.lt_)
      have HI8 := Lib.hid (HI.out.keep b8)
      have HJ8 := Lib.hid (HJ.out.keep b8)
      have HB8 := Lib.hid (HBr.out.trans (b8.mono HBr.out.size))
      have cA' := (b8.cell (p := ad.add k) (by rw [block_of_add]; exact l1)).trans cA
      have cB' := (b8.cell (p := ad2.add k) (by rw [block_of_add]; exact l2)).trans cB
      first | (refine hK.out _ _ ?_ (fun hHeld => ?_)) | (go_wp2_with fail; refine hK.out _ _ ?_ (fun hHeld => ?_))
      · (try dsimp only); exact ⟨cA', cB'⟩
      clear hK K
      try simp only [Act.put, List.setIfInBounds_toArray, List.set_cons_zero, List.set_cons_succ]
      refine rg_take (i := 18) (d := some 63) (l := #[true, true, true, true, true, true, true, true, true, true, true, true, true, true, true, true, true, true, true, false]) (fuel := 1) (v := ?_) rfl (by kernel_rfl) (by kernel_rfl) (by kernel_rfl) (by kernel_rfl) (by kernel_rfl) (fun _ _ _ h => h) (by kernel_rfl) ?_ (by assumption) ?_
      rotate_left 1
      · (intro wS hSw; (try dsimp only at hSw); go_simp; try with_reducible rfl)
      try simp only [Act.put, List.setIfInBounds_toArray, List.set_cons_zero, List.set_cons_succ]
      refine rg_take (i := 19) (d := some 64) (l := #[true, true, true, true, true, true, true, true, true, true, true, true, true, true, true, true, true, true, true, true]) (fuel := 0) (v := ?_) rfl (by kernel_rfl) (by kernel_rfl) (by kernel_rfl) (by kernel_rfl) (by kernel_rfl) (fun _ _ _ h => h) (by kernel_rfl) ?_ (by assumption) ?_
      rotate_left 1
      · (intro wS hSw; (try dsimp only at hSw); go_simp; try with_reducible rfl)
      try simp only [Act.put, List.setIfInBounds_toArray, List.set_cons_zero, List.set_cons_succ]
      refine wpAnyH_done (by kernel_rfl) ?_ _
      clear hHeld
      go_wp2_with fail
      go_roundw
      case rel => exact ⟨k + 1, by omega, by go_num, HM8.out, HI8.out, HJ8.out, HB8.out⟩
      case measure => simp [intOf]; omega
    · obtain rfl : k = N := by omega
      have i0 : ¬ (k : Int) < (k : Int) := by omega
      have HBr := Lib.hid hBr
      clear hBr hM hI hJ
      go_wp2_with fail
      go_ret
      exact ⟨rfl, HBr.out⟩

theorem own : ownKnob Tryd.prog.godebug = none := by kernel_rfl
theorem laidOut : laidOutB Tryd.prog = true := by kernel_rfl
theorem door_met (os : Os) (args : Array Value) : laidMetH Tryd.prog laid2 ((World.doorLaid Tryd.prog 400 os).forCall (fun _ _ => 0) ⟨#[], args, []⟩).memory :=
  laidMetH_of_parts3 (fuel := 8) (laidMet_of_run' 8 (by kernel_rfl) (by kernel_rfl)) (by kernel_rfl) (by kernel_rfl)
set_option maxRecDepth 100000 in
theorem lifted (os : Os) (started : os.Started) (H : Type) (enc : TypeId × Value → H) :
    ReturnsInHanded {} Tryd.checked os 4 .any (fun w args => (Rows.mmuMapsSpec.pre enc Tryd.prog Tryd.f4 [] false w args ∧ laidMetH Tryd.prog laid2 w) ∧ sizedMet enc Tryd.prog Tryd.f4 (OpenSpec.ofChange Rows.mmuMapsSpec) false w args)
      (Rows.mmuMapsSpec.post enc Tryd.prog Tryd.f4 false true false false) := by
  refine returnsInHanded_of_change_and (C := Tryd.checked) (X := fun w _ => laidMetH Tryd.prog laid2 w) (fun _ _ _ hh h => h.of_heap hh) own started (by kernel_rfl) Tryd.func4
    (ChangeSpec.witness_shaped (enc := enc) (C := Tryd.checked) (os := os) (X := fun w _ => laidMetH Tryd.prog laid2 w) false (World.doorLaid Tryd.prog 400 os) #[.agg #[.int .u8 0, .int .u8 0, .int .u8 0, .int .u8 0, .int .u8 0, .int .u8 0, .int .u8 0, .int .u8 0], .int .u16 0, .int .u32 0] 8 rfl (World.shaped_of_RefB (by kernel_rfl) (by kernel_rfl)) (by kernel_rfl) (by kernel_rfl) (by kernel_rfl) (door_met os _)) ?_
  intro W base args ds gs before hval0 hW _ _ hL0 _
  have hL : laidMetH Tryd.prog laid2 W := hL0
  rw [MakeChecks.laidMetH_plain _ _ _ (by kernel_rfl)] at hL
  have HT := of_laid hL
  have hval : ∀ (j : Nat) t v, Tryd.f4.params[j]? = some t → args[j]? = some v → Value.okWide Tryd.prog W .any base t v := hval0
  have hW' := hW
  obtain ⟨p, q, hA0, hV, rfl, _, _⟩ := hW
  have hA : DataW.TrodAll enc Tryd.prog W 0 (fun _ => true) true Tryd.f4.params.toList args.toList ds p := hA0
  rw [Tryd.params4] at hA hval
  obtain ⟨v0, vs0, d0, ds0, p0, q0, hargs, rfl, rfl, h0, r0⟩ := trodAll_cons hA
  obtain ⟨v1, vs1, d1, ds1, p1, q1, rfl, rfl, rfl, h1, r1⟩ := trodAll_cons r0
  obtain ⟨v2, vs2, d2, ds2, p2, q2, rfl, rfl, rfl, h2, r2⟩ := trodAll_cons r1
  obtain ⟨rfl, rfl, rfl⟩ := trodAll_nil r2
  obtain rfl : args = #[v0, v1, v2] := by cases args; simp_all
  obtain ⟨rfl, rfl⟩ := trodVars_none hV
  obtain ⟨z0, rfl, u0⟩ := array_ints_v Tryd.underlying22 Tryd.underlying5 (by kernel_rfl) (by kernel_rfl) (hval 0 22 v0 rfl rfl) h0
  obtain ⟨a1, rfl, rfl, rfl, w1⟩ := open_int Tryd.underlying35 (hval 1 35 v1 rfl rfl) h1
  obtain ⟨a2, rfl, rfl, rfl, w2⟩ := open_int Tryd.underlying36 (hval 2 36 v2 rfl rfl) h2
  clear hA0 hval0
  refine (walk z0 u0 a1 w1 a2 w2 W HT).mono fun e W' ⟨he, hg⟩ => ?_
  subst he
  exact ⟨_, rfl, law_post rfl Tryd.underlying4 laidOut (by kernel_rfl) rfl hW' rfl hg⟩

theorem over : Rows.mmuMapsRow.holds Tryd.pinned (OpenSpec.ofChange Rows.mmuMapsSpec) :=
  OpenClaim.holds_of_wide 4 Tryd.f4 rfl rfl rfl rfl rfl rfl rfl ⟨rfl, rfl, rfl, rfl, rfl⟩ rfl rfl rfl rfl rfl (by kernel_rfl) Tryd.func4 (by kernel_rfl)
    (of_decide_eq_true (by kernel_rfl)) (by unfold Func.isWrapper; first | (rw [if_pos (by decide +kernel)]; kernel_rfl) | (rw [if_neg (by decide +kernel)]; exact ⟨rfl, rfl⟩))
    (fun os started H enc _ => lifted os started H enc)

theorem proved : Rows.MmuMapsCardSaid :=
  Claim7.holds_tied_plain_at .later [] [.data] true _ false
    over (fun _ h => by cases h) (by kernel_rfl) (fun _ h => by cases h) mmuMaps_row_tie rfl ⟨rfl, rfl⟩ (by kernel_rfl) rfl
    (fun f fn hf hfn => by
      obtain rfl : f = 4 := Option.some.inj ((show Tryd.prog.funcNamed "gannet/gannetlaw18.MmuMaps" = some 4 by kernel_rfl).symm.trans hf) |>.symm
      obtain rfl : fn = Tryd.f4 := (Option.some.inj (Tryd.func4.symm.trans hfn)).symm
      exact ⟨by kernel_rfl, fun j t ht => by
        rw [Tryd.params4] at ht
        have hm : t ∈ [22, 35, 36] := by simpa using Array.mem_of_getElem? ht
        have hall : ([22, 35, 36].all fun u => !Tryd.prog.wantsStandIn u) = true := by kernel_rfl
        exact (show Tryd.prog.wantsStandIn t = false by simpa using List.all_eq_true.1 hall t hm)⟩)
    (by kernel_rfl)
#print axioms proved
end Go.Proofs.YtccimkmlbcgekaaDoor.mmuMaps
