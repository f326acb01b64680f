/-
  For every input MmuMoves returns true, and each argument reads behind the call as it read before. The one condition: when the call begins the package-level variables that the row lists hold what the program lays in them (TIED: the card shows it of the text of the project, pruned to the packages that this seat loads).
-/
import Derived.Test.YtccimkmlbcgekaaDoorRows
import Derived.Test.YtccimkmlbcgekaaDoorG3
import Derived.SevenTiedAt
import Derived.ProofKit
import Derived.LaidMore
import Derived.OpenShut
import Derived.Stop.Joined
import Derived.Test.YtccimkmlbcgekaaDoorCards
import Derived.Test.YtccimkmlbcgekaaDoorTie
import Derived.Test.YtccimkmlbcgekaaDoorLaid9
import Derived.Test.YtccimkmlbcgekaaDoorMmu10
namespace Go.Proofs.YtccimkmlbcgekaaDoor.mmuMoves
open Go.ChangeShapes Go.WideShapes Go.ChangeAt Go.RowKit
open Go.ChangeMaps (open_string)

set_option linter.unusedVariables false
set_option linter.unusedSimpArgs false
set_option maxRecDepth 100000 in
set_option maxHeartbeats 8000000 in
theorem walk {W : World} (z : Nat → Int) (uz : ∀ i, (Lit.int .u8 (z i)).wf = true) (l : Int) (wl : (Lit.int .u8 l).wf = true) (A2 : Option Addr) (n2 c2 : Nat) (q2 : Nat → Nat → Value) (hnc2 : n2 ≤ c2) (hm2 : c2 ≤ maxLen) (R2 : FRow W 3 A2 n2 q2) (F2 : ∀ i, i < n2 → ∀ (j : Nat) (k : FK), [FK.int .u8, .int .u8, .int .u8][j]? = some k → k.ok (q2 i j)) (A3 : Option Addr) (n3 c3 : Nat) (q3 : Nat → Nat → Value) (hnc3 : n3 ≤ c3) (hm3 : c3 ≤ maxLen) (R3 : FRow W 3 A3 n3 q3) (F3 : ∀ i, i < n3 → ∀ (j : Nat) (k : FK), [FK.int .u8, .int .u8, .int .u8][j]? = some k → k.ok (q3 i j)) (hT : Tabs W) :
    Calls Tryd.prog 3 #[.agg (vArr 8 fun i => .int .u8 (z i)), .int .u8 l, .slice A2 n2 c2, .slice A3 n3 c3] W fun e w' => e = .returned (.bool true) ∧ Below W.heap.size W w' := by
  have HT := Lib.hid hT
  have HR2 := Lib.hid R2
  have HF2 : Hid (MvOk n2 q2) := Lib.hid F2
  have HR3 := Lib.hid R3
  have HF3 : Hid (MvOk n3 q3) := Lib.hid F3
  unfold maxLen at hm2 hm3
  clear hT wl uz R2 F2 R3 F3
  show Calls Tryd.prog 3 #[.agg #[.int .u8 (z 0), .int .u8 (z 1), .int .u8 (z 2), .int .u8 (z 3), .int .u8 (z 4), .int .u8 (z 5), .int .u8 (z 6), .int .u8 (z 7)], .int .u8 l, .slice A2 n2 c2, .slice A3 n3 c3] W _
  have hB1 : Below W.heap.size W (W.alloc (.cells #[.int .u8 (z 0), .int .u8 (z 1), .int .u8 (z 2), .int .u8 (z 3), .int .u8 (z 4), .int .u8 (z 5), .int .u8 (z 6), .int .u8 (z 7)] 22)) := (Below.refl _ W).alloc (Nat.le_refl _) _
  have hx1 : Blk (W.alloc (.cells #[.int .u8 (z 0), .int .u8 (z 1), .int .u8 (z 2), .int .u8 (z 3), .int .u8 (z 4), .int .u8 (z 5), .int .u8 (z 6), .int .u8 (z 7)] 22)) W.heap.size 22 (p8 z) := Blk.new_ rfl
  have HB1 := Lib.hid hB1
  have HX1 := Lib.hid hx1
  clear hB1 hx1
  go_enter Tryd.func3, Tryd.ntmps3
  go_wp2_with fail
  refine (live18 (HT.out.below HB1.out)).mono ?_
  rintro e w2 ⟨rfl, k2⟩
  have hx2 := HX1.out.below k2 HX1.out.lt
  have HB2 := Lib.hid (HB1.out.trans (k2.mono HB1.out.size))
  have c0 : w2.cell? ⟨W.heap.size, 0, none⟩ = some (.int .u8 (z 0)) := hx2.cell 0
  have c1 : w2.cell? ⟨W.heap.size, 1, none⟩ = some (.int .u8 (z 1)) := hx2.cell 1
  have c2 : w2.cell? ⟨W.heap.size, 2, none⟩ = some (.int .u8 (z 2)) := hx2.cell 2
  have c3 : w2.cell? ⟨W.heap.size, 3, none⟩ = some (.int .u8 (z 3)) := hx2.cell 3
  have c4 : w2.cell? ⟨W.heap.size, 4, none⟩ = some (.int .u8 (z 4)) := hx2.cell 4
  have c5 : w2.cell? ⟨W.heap.size, 5, none⟩ = some (.int .u8 (z 5)) := hx2.cell 5
  have c6 : w2.cell? ⟨W.heap.size, 6, none⟩ = some (.int .u8 (z 6)) := hx2.cell 6
  have c7 : w2.cell? ⟨W.heap.size, 7, none⟩ = some (.int .u8 (z 7)) := hx2.cell 7
  have HX2 := Lib.hid hx2
  clear k2 hx2
  by_cases h2 : 200 < n2
  · have j2 : (200 : Int) < n2 := by omega
    go_wp2_with fail
    go_ret
    exact ⟨rfl, HB2.out⟩
  have j2 : ¬ (200 : Int) < n2 := by omega
  by_cases h3 : 200 < n3
  · have j3 : (200 : Int) < n3 := by omega
    go_wp2_with fail
    go_ret
    exact ⟨rfl, HB2.out⟩
  have j3 : ¬ (200 : Int) < n3 := by omega
  go_wp2_with fail
  clear c0 c1 c2 c3 c4 c5 c6 c7
  refine (mof_any z l _).mono ?_
  rintro e w3 ⟨g, rfl, hg, hm, k3⟩
  have HM := Lib.hid hm
  have hx3 := HX2.out.below k3 HX2.out.lt
  have HB3 := Lib.hid (HB2.out.trans (k3.mono HB2.out.size))
  have c0 : w3.cell? ⟨W.heap.size, 0, none⟩ = some (.int .u8 (z 0)) := hx3.cell 0
  have c1 : w3.cell? ⟨W.heap.size, 1, none⟩ = some (.int .u8 (z 1)) := hx3.cell 1
  have c2 : w3.cell? ⟨W.heap.size, 2, none⟩ = some (.int .u8 (z 2)) := hx3.cell 2
  have c3 : w3.cell? ⟨W.heap.size, 3, none⟩ = some (.int .u8 (z 3)) := hx3.cell 3
  have c4 : w3.cell? ⟨W.heap.size, 4, none⟩ = some (.int .u8 (z 4)) := hx3.cell 4
  have c5 : w3.cell? ⟨W.heap.size, 5, none⟩ = some (.int .u8 (z 5)) := hx3.cell 5
  have c6 : w3.cell? ⟨W.heap.size, 6, none⟩ = some (.int .u8 (z 6)) := hx3.cell 6
  have c7 : w3.cell? ⟨W.heap.size, 7, none⟩ = some (.int .u8 (z 7)) := hx3.cell 7
  clear k3 hx3
  have hgW : W.heap.size ≤ g := Nat.le_trans HB2.out.size hg
  go_upto_region 7 with fail
  have hrm : RM (w3.alloc (.cells (mmC z l) 29)) w3.heap.size z l := Blk.new_ rfl
  have hm4 : MM (w3.alloc (.cells (mmC z l) 29)) g z l := Blk.alloc HM.out _
  have hB4 : Below W.heap.size W (w3.alloc (.cells (mmC z l) 29)) := HB3.out.alloc HB3.out.size _
  have hrW : W.heap.size ≤ w3.heap.size := HB3.out.size
  unfold mmC at hrm hm4 hB4
  generalize w3.heap.size = r at *
  generalize World.alloc w3 _ = w4 at *
  have HI4 : Hid (MPl W g r z l w4) := Lib.hid ⟨hm4, hrm, hB4⟩
  clear hrm hm4 hB4 c0 c1 c2 c3 c4 c5 c6 c7 hm HB1 HX1 HB2 HX2 HB3 HM
  go_wp2_with fail
  refine (mplay_any HI4.out HR2.out HF2.out (by omega) ⟨hgW, hrW⟩).mono ?_
  rintro e w5 ⟨rfl, ⟨z5, l5, hI5⟩, k5⟩
  have HI5 := Lib.hid hI5
  clear k5 hI5 HI4
  go_wp2_with fail
  refine (mclone_any HI5.out.1).mono ?_
  rintro e w6 ⟨g2, rfl, hg2, hm6, b6⟩
  have HI6 := Lib.hid (HI5.out.on b6)
  have HM6 := Lib.hid hm6
  have hg6 : W.heap.size ≤ g2 := Nat.le_trans HI5.out.2.2.size hg2
  have hne1 : g ≠ g2 := by have := HI5.out.1.lt_; omega
  have hne2 : r ≠ g2 := by have := HI5.out.2.1.lt_; omega
  clear hm6 b6 hg2 HI5
  have d0 := HI6.out.2.1.cell 0
  have d1 := HI6.out.2.1.cell 1
  have d2 := HI6.out.2.1.cell 2
  have d3 := HI6.out.2.1.cell 3
  have d4 := HI6.out.2.1.cell 4
  have d5 := HI6.out.2.1.cell 5
  have d6 := HI6.out.2.1.cell 6
  have d7 := HI6.out.2.1.cell 7
  have d8 := HI6.out.2.1.cell 8
  go_upto_region 10 with fail
  refine rg_begin (S := fun w' => w'.cell? ⟨r, 0, none⟩ = some (.int .u8 (z5 0)) ∧ w'.cell? ⟨r, 1, none⟩ = some (.int .u8 (z5 1)) ∧ w'.cell? ⟨r, 2, none⟩ = some (.int .u8 (z5 2)) ∧ w'.cell? ⟨r, 3, none⟩ = some (.int .u8 (z5 3)) ∧ w'.cell? ⟨r, 4, none⟩ = some (.int .u8 (z5 4)) ∧ w'.cell? ⟨r, 5, none⟩ = some (.int .u8 (z5 5)) ∧ w'.cell? ⟨r, 6, none⟩ = some (.int .u8 (z5 6)) ∧ w'.cell? ⟨r, 7, none⟩ = some (.int .u8 (z5 7)) ∧ w'.cell? ⟨r, 8, none⟩ = some (.int .u8 l5)) 11 #[false, false, false, false, false, false, false, false, false, false, false] (by kernel_rfl) (by kernel_rfl) (by kernel_rfl) ?_ (fun hHeld => ?_)
  · exact ⟨d0, d1, d2, d3, d4, d5, d6, d7, d8⟩
  refine rg_take (i := 0) (d := some 37) (l := #[true, false, false, false, false, false, false, false, false, false, false]) (fuel := 10) (v := ?_) rfl (by kernel_rfl) (by kernel_rfl) (by kernel_rfl) (by kernel_rfl) (by kernel_rfl) (fun _ _ _ h => h) (by kernel_rfl) ?_ (by assumption) ?_
  rotate_left 1
  · (intro wS hSw; (try dsimp only at hSw); go_simp; try with_reducible rfl)
  try simp only [Act.put, List.setIfInBounds_toArray, List.set_cons_zero, List.set_cons_succ]
  refine rg_take (i := 1) (d := some 38) (l := #[true, true, false, false, false, false, false, false, false, false, false]) (fuel := 9) (v := ?_) rfl (by kernel_rfl) (by kernel_rfl) (by kernel_rfl) (by kernel_rfl) (by kernel_rfl) (fun _ _ _ h => h) (by kernel_rfl) ?_ (by assumption) ?_
  rotate_left 1
  · (intro wS hSw; (try dsimp only at hSw); go_simp; try with_reducible rfl)
  try simp only [Act.put, List.setIfInBounds_toArray, List.set_cons_zero, List.set_cons_succ]
  refine rg_take (i := 2) (d := some 39) (l := #[true, true, true, false, false, false, false, false, false, false, false]) (fuel := 8) (v := ?_) rfl (by kernel_rfl) (by kernel_rfl) (by kernel_rfl) (by kernel_rfl) (by kernel_rfl) (fun _ _ _ h => h) (by kernel_rfl) ?_ (by assumption) ?_
  rotate_left 1
  · (intro wS hSw; (try dsimp only at hSw); go_simp; try with_reducible rfl)
  try simp only [Act.put, List.setIfInBounds_toArray, List.set_cons_zero, List.set_cons_succ]
  refine rg_take (i := 3) (d := some 40) (l := #[true, true, true, true, false, false, false, false, false, false, false]) (fuel := 7) (v := ?_) rfl (by kernel_rfl) (by kernel_rfl) (by kernel_rfl) (by kernel_rfl) (by kernel_rfl) (fun _ _ _ h => h) (by kernel_rfl) ?_ (by assumption) ?_
  rotate_left 1
  · (intro wS hSw; (try dsimp only at hSw); go_simp; try with_reducible rfl)
  try simp only [Act.put, List.setIfInBounds_toArray, List.set_cons_zero, List.set_cons_succ]
  refine rg_take (i := 4) (d := some 41) (l := #[true, true, true, true, true, false, false, false, false, false, false]) (fuel := 6) (v := ?_) rfl (by kernel_rfl) (by kernel_rfl) (by kernel_rfl) (by kernel_rfl) (by kernel_rfl) (fun _ _ _ h => h) (by kernel_rfl) ?_ (by assumption) ?_
  rotate_left 1
  · (intro wS hSw; (try dsimp only at hSw); go_simp; try with_reducible rfl)
  try simp only [Act.put, List.setIfInBounds_toArray, List.set_cons_zero, List.set_cons_succ]
  refine rg_take (i := 5) (d := some 42) (l := #[true, true, true, true, true, true, false, false, false, false, false]) (fuel := 5) (v := ?_) rfl (by kernel_rfl) (by kernel_rfl) (by kernel_rfl) (by kernel_rfl) (by kernel_rfl) (fun _ _ _ h => h) (by kernel_rfl) ?_ (by assumption) ?_
  rotate_left 1
  · (intro wS hSw; (try dsimp only at hSw); go_simp; try with_reducible rfl)
  try simp only [Act.put, List.setIfInBounds_toArray, List.set_cons_zero, List.set_cons_succ]
  refine rg_take (i := 6) (d := some 43) (l := #[true, true, true, true, true, true, true, false, false, false, false]) (fuel := 4) (v := ?_) rfl (by kernel_rfl) (by kernel_rfl) (by kernel_rfl) (by kernel_rfl) (by kernel_rfl) (fun _ _ _ h => h) (by kernel_rfl) ?_ (by assumption) ?_
  rotate_left 1
  · (intro wS hSw; (try dsimp only at hSw); go_simp; try with_reducible rfl)
  try simp only [Act.put, List.setIfInBounds_toArray, List.set_cons_zero, List.set_cons_succ]
  refine rg_take (i := 7) (d := some 44) (l := #[true, true, true, true, true, true, true, true, false, false, false]) (fuel := 3) (v := ?_) rfl (by kernel_rfl) (by kernel_rfl) (by kernel_rfl) (by kernel_rfl) (by kernel_rfl) (fun _ _ _ h => h) (by kernel_rfl) ?_ (by assumption) ?_
  rotate_left 1
  · (intro wS hSw; (try dsimp only at hSw); go_simp; try with_reducible rfl)
  try simp only [Act.put, List.setIfInBounds_toArray, List.set_cons_zero, List.set_cons_succ]
  refine rg_take (i := 8) (d := some 45) (l := #[true, true, true, true, true, true, true, true, true, false, false]) (fuel := 2) (v := ?_) rfl (by kernel_rfl) (by kernel_rfl) (by kernel_rfl) (by kernel_rfl) (by kernel_rfl) (fun _ _ _ h => h) (by kernel_rfl) ?_ (by assumption) ?_
  rotate_left 1
  · (intro wS hSw; (try dsimp only at hSw); go_simp; try with_reducible rfl)
  try simp only [Act.put, List.setIfInBounds_toArray, List.set_cons_zero, List.set_cons_succ]
  have HX7 : Hid (RM (w6.alloc (.cells (mmC z5 l5) 29)) w6.heap.size z5 l5) := Lib.hid (Blk.new_ rfl)
  have HI7 : Hid (MPl W g r z5 l5 (w6.alloc (.cells (mmC z5 l5) 29))) := Lib.hid (HI6.out.kp0 ((Kp.refl _ _).alloc _))
  have HM7 : Hid (MM (w6.alloc (.cells (mmC z5 l5) 29)) g2 z5 l5) := Lib.hid (Blk.alloc HM6.out _)
  have hx7 : g < w6.heap.size ∧ r < w6.heap.size ∧ g2 < w6.heap.size := ⟨HI6.out.1.lt_, HI6.out.2.1.lt_, HM6.out.lt_⟩
  unfold mmC at HX7 HI7 HM7
  refine rg_next (i := 9) (l := #[true, true, true, true, true, true, true, true, true, true, false]) (fuel := 1) (by kernel_rfl) rfl (by kernel_rfl) (by kernel_rfl) (fun K hK => ?_)
  go_simp
  skip
  first | (refine hK.out _ _ ?_ (fun hHeld => ?_)) | (go_wp2_with fail; refine hK.out _ _ ?_ (fun hHeld => ?_))
  · (try dsimp only); exact ⟨HI7.out.2.1.cell 0, HI7.out.2.1.cell 1, HI7.out.2.1.cell 2, HI7.out.2.1.cell 3, HI7.out.2.1.cell 4, HI7.out.2.1.cell 5, HI7.out.2.1.cell 6, HI7.out.2.1.cell 7, HI7.out.2.1.cell 8⟩
  clear hK K
  try simp only [Act.put, List.setIfInBounds_toArray, List.set_cons_zero, List.set_cons_succ]
  refine rg_take (i := 10) (d := some 12) (l := #[true, true, true, true, true, true, true, true, true, true, true]) (fuel := 0) (v := ?_) rfl (by kernel_rfl) (by kernel_rfl) (by kernel_rfl) (by kernel_rfl) (by kernel_rfl) (fun _ _ _ h => h) (by kernel_rfl) ?_ (by assumption) ?_
  rotate_left 1
  · (intro wS hSw; (try dsimp only at hSw); go_simp; try with_reducible rfl)
  try simp only [Act.put, List.setIfInBounds_toArray, List.set_cons_zero, List.set_cons_succ]
  refine wpAnyH_done (by kernel_rfl) ?_ _
  clear hHeld
  clear d0 d1 d2 d3 d4 d5 d6 d7 d8
  replace HX7 := Lib.hid (HX7.out.kp (Kp.refl [] _).drew (by simp))
  replace HI7 := Lib.hid (HI7.out.kp0 (Kp.refl [] _).drew)
  replace HM7 := Lib.hid (HM7.out.kp (Kp.refl [] _).drew (by simp))
  generalize (World.alloc w6 _).drew = w7 at *
  generalize w6.heap.size = x at *
  clear HI6 HM6
  have HJ7 : Hid (MPl W g2 x z5 l5 w7) := Lib.hid ⟨HM7.out, HX7.out, HI7.out.2.2⟩
  have hxW : W.heap.size ≤ x := by omega
  have hE : ∀ W : World, (Op.equalIn 10000 22 (.agg #[.int .u8 (z5 0), .int .u8 (z5 1), .int .u8 (z5 2), .int .u8 (z5 3), .int .u8 (z5 4), .int .u8 (z5 5), .int .u8 (z5 6), .int .u8 (z5 7)]) (.agg #[.int .u8 (z5 0), .int .u8 (z5 1), .int .u8 (z5 2), .int .u8 (z5 3), .int .u8 (z5 4), .int .u8 (z5 5), .int .u8 (z5 6), .int .u8 (z5 7)])).run Tryd.prog W = .ok true W := fun W => by
    have h := bank_eq z5 z5 W
    rw [show ((List.range 8).all fun i => z5 i == z5 i) = true by simp] at h
    exact h
  have nl : (l5 == l5) = true := by simp
  have r7 := HI7.out.2.1
  have d0 := r7.cell 0
  have d1 := r7.cell 1
  have d2 := r7.cell 2
  have d3 := r7.cell 3
  have d4 := r7.cell 4
  have d5 := r7.cell 5
  have d6 := r7.cell 6
  have d7 := r7.cell 7
  have d8 := r7.cell 8
  clear r7
  go_upto_region 11 with fail
  refine rg_begin (S := fun w' => w'.cell? ⟨r, 0, none⟩ = some (.int .u8 (z5 0)) ∧ w'.cell? ⟨r, 1, none⟩ = some (.int .u8 (z5 1)) ∧ w'.cell? ⟨r, 2, none⟩ = some (.int .u8 (z5 2)) ∧ w'.cell? ⟨r, 3, none⟩ = some (.int .u8 (z5 3)) ∧ w'.cell? ⟨r, 4, none⟩ = some (.int .u8 (z5 4)) ∧ w'.cell? ⟨r, 5, none⟩ = some (.int .u8 (z5 5)) ∧ w'.cell? ⟨r, 6, none⟩ = some (.int .u8 (z5 6)) ∧ w'.cell? ⟨r, 7, none⟩ = some (.int .u8 (z5 7)) ∧ w'.cell? ⟨r, 8, none⟩ = some (.int .u8 l5)) 23 #[false, false, false, false, false, false, false, false, false, false, false, false, false, false, false, false, false, false, false, false, false, false, false] (by kernel_rfl) (by kernel_rfl) (by kernel_rfl) ?_ (fun hHeld => ?_)
  · exact ⟨d0, d1, d2, d3, d4, d5, d6, d7, d8⟩
  refine rg_take (i := 0) (d := some 47) (l := #[true, false, false, false, false, false, false, false, false, false, false, false, false, false, false, false, false, false, false, false, false, false, false]) (fuel := 22) (v := ?_) rfl (by kernel_rfl) (by kernel_rfl) (by kernel_rfl) (by kernel_rfl) (by kernel_rfl) (fun _ _ _ h => h) (by kernel_rfl) ?_ (by assumption) ?_
  rotate_left 1
  · (intro wS hSw; (try dsimp only at hSw); go_simp; try with_reducible rfl)
  try simp only [Act.put, List.setIfInBounds_toArray, List.set_cons_zero, List.set_cons_succ]
  refine rg_take (i := 1) (d := some 48) (l := #[true, true, false, false, false, false, false, false, false, false, false, false, false, false, false, false, false, false, false, false, false, false, false]) (fuel := 21) (v := ?_) rfl (by kernel_rfl) (by kernel_rfl) (by kernel_rfl) (by kernel_rfl) (by kernel_rfl) (fun _ _ _ h => h) (by kernel_rfl) ?_ (by assumption) ?_
  rotate_left 1
  · (intro wS hSw; (try dsimp only at hSw); go_simp; try with_reducible rfl)
  try simp only [Act.put, List.setIfInBounds_toArray, List.set_cons_zero, List.set_cons_succ]
  refine rg_take (i := 2) (d := some 49) (l := #[true, true, true, false, false, false, false, false, false, false, false, false, false, false, false, false, false, false, false, false, false, false, false]) (fuel := 20) (v := ?_) rfl (by kernel_rfl) (by kernel_rfl) (by kernel_rfl) (by kernel_rfl) (by kernel_rfl) (fun _ _ _ h => h) (by kernel_rfl) ?_ (by assumption) ?_
  rotate_left 1
  · (intro wS hSw; (try dsimp only at hSw); go_simp; try with_reducible rfl)
  try simp only [Act.put, List.setIfInBounds_toArray, List.set_cons_zero, List.set_cons_succ]
  refine rg_next (i := 3) (l := #[true, true, true, true, false, false, false, false, false, false, false, false, false, false, false, false, false, false, false, false, false, false, false]) (fuel := 19) (by kernel_rfl) rfl (by kernel_rfl) (by kernel_rfl) (fun K hK => ?_)
  go_simp
  (go_at_call 10)
  refine (mplay_any (HJ7.out.kp0 (Kp.refl _ _).drew) HR3.out HF3.out (by omega) ⟨hg6, hxW⟩).mono ?_
  rintro e w8 ⟨rfl, ⟨z8, l8, hI8⟩, k8⟩
  replace k8 : Kp [g2, x] w7 w8 := ((Kp.refl [g2, x] w7).drew).trans k8 (by simp)
  have M8 := Lib.hid (HI7.out.1.kp k8 (by simp; omega))
  have R8 := Lib.hid (HI7.out.2.1.kp k8 (by simp; omega))
  have B8 := Lib.hid hI8.2.2
  clear hI8 k8 d0 d1 d2 d3 d4 d5 d6 d7 d8
  have R3 := R8.out
  first | (refine hK.out _ _ ?_ (fun hHeld => ?_)) | (go_wp2_with fail; refine hK.out _ _ ?_ (fun hHeld => ?_))
  · (try dsimp only); exact ⟨R3.cell 0, R3.cell 1, R3.cell 2, R3.cell 3, R3.cell 4, R3.cell 5, R3.cell 6, R3.cell 7, R3.cell 8⟩
  clear hK K
  try simp only [Act.put, List.setIfInBounds_toArray, List.set_cons_zero, List.set_cons_succ]
  refine rg_take (i := 4) (d := some 51) (l := #[true, true, true, true, true, false, false, false, false, false, false, false, false, false, false, false, false, false, false, false, false, false, false]) (fuel := 18) (v := ?_) rfl (by kernel_rfl) (by kernel_rfl) (by kernel_rfl) (by kernel_rfl) (by kernel_rfl) (fun _ _ _ h => h) (by kernel_rfl) ?_ (by assumption) ?_
  rotate_left 1
  · (intro wS hSw; (try dsimp only at hSw); go_simp; try with_reducible rfl)
  try simp only [Act.put, List.setIfInBounds_toArray, List.set_cons_zero, List.set_cons_succ]
  refine rg_take (i := 5) (d := some 52) (l := #[true, true, true, true, true, true, false, false, false, false, false, false, false, false, false, false, false, false, false, false, false, false, false]) (fuel := 17) (v := ?_) rfl (by kernel_rfl) (by kernel_rfl) (by kernel_rfl) (by kernel_rfl) (by kernel_rfl) (fun _ _ _ h => h) (by kernel_rfl) ?_ (by assumption) ?_
  rotate_left 1
  · (intro wS hSw; (try dsimp only at hSw); go_simp; try with_reducible rfl)
  try simp only [Act.put, List.setIfInBounds_toArray, List.set_cons_zero, List.set_cons_succ]
  refine rg_take (i := 7) (d := some 54) (l := #[true, true, true, true, true, true, false, true, false, false, false, false, false, false, false, false, false, false, false, false, false, false, false]) (fuel := 16) (v := ?_) rfl (by kernel_rfl) (by kernel_rfl) (by kernel_rfl) (by kernel_rfl) (by kernel_rfl) (fun _ _ _ h => h) (by kernel_rfl) ?_ (by assumption) ?_
  rotate_left 1
  · (intro wS hSw; (try dsimp only at hSw); go_simp; try with_reducible rfl)
  try simp only [Act.put, List.setIfInBounds_toArray, List.set_cons_zero, List.set_cons_succ]
  refine rg_take (i := 8) (d := some 55) (l := #[true, true, true, true, true, true, false, true, true, false, false, false, false, false, false, false, false, false, false, false, false, false, false]) (fuel := 15) (v := ?_) rfl (by kernel_rfl) (by kernel_rfl) (by kernel_rfl) (by kernel_rfl) (by kernel_rfl) (fun _ _ _ h => h) (by kernel_rfl) ?_ (by assumption) ?_
  rotate_left 1
  · (intro wS hSw; (try dsimp only at hSw); go_simp; try with_reducible rfl)
  try simp only [Act.put, List.setIfInBounds_toArray, List.set_cons_zero, List.set_cons_succ]
  refine rg_take (i := 9) (d := some 56) (l := #[true, true, true, true, true, true, false, true, true, true, false, false, false, false, false, false, false, false, false, false, false, false, false]) (fuel := 14) (v := ?_) rfl (by kernel_rfl) (by kernel_rfl) (by kernel_rfl) (by kernel_rfl) (by kernel_rfl) (fun _ _ _ h => h) (by kernel_rfl) ?_ (by assumption) ?_
  rotate_left 1
  · (intro wS hSw; (try dsimp only at hSw); go_simp; try with_reducible rfl)
  try simp only [Act.put, List.setIfInBounds_toArray, List.set_cons_zero, List.set_cons_succ]
  refine rg_take (i := 10) (d := some 57) (l := #[true, true, true, true, true, true, false, true, true, true, true, false, false, false, false, false, false, false, false, false, false, false, false]) (fuel := 13) (v := ?_) rfl (by kernel_rfl) (by kernel_rfl) (by kernel_rfl) (by kernel_rfl) (by kernel_rfl) (fun _ _ _ h => h) (by kernel_rfl) ?_ (by assumption) ?_
  rotate_left 1
  · (intro wS hSw; (try dsimp only at hSw); go_simp; try with_reducible rfl)
  try simp only [Act.put, List.setIfInBounds_toArray, List.set_cons_zero, List.set_cons_succ]
  refine rg_next (i := 6) (l := #[true, true, true, true, true, true, true, true, true, true, true, false, false, false, false, false, false, false, false, false, false, false, false]) (fuel := 12) (by kernel_rfl) rfl (by kernel_rfl) (by kernel_rfl) (fun K hK => ?_)
  go_simp
  (go_at_call 12)
  refine (banks_any M8.out).mono ?_
  rw [show p8 z5 = #[.int .u8 (z5 0), .int .u8 (z5 1), .int .u8 (z5 2), .int .u8 (z5 3), .int .u8 (z5 4), .int .u8 (z5 5), .int .u8 (z5 6), .int .u8 (z5 7)] from rfl]
  rintro e w9 ⟨rfl, b9⟩
  have M9 := Lib.hid (M8.out.below b9 M8.out.lt_)
  have R9 := R8.out.below b9 R8.out.lt_
  have B9 := Lib.hid (B8.out.trans (b9.mono B8.out.size))
  clear b9 R3
  first | (refine hK.out _ _ ?_ (fun hHeld => ?_)) | (go_wp2_with fail; refine hK.out _ _ ?_ (fun hHeld => ?_))
  · (try dsimp only); exact ⟨R9.cell 0, R9.cell 1, R9.cell 2, R9.cell 3, R9.cell 4, R9.cell 5, R9.cell 6, R9.cell 7, R9.cell 8⟩
  clear hK K
  try simp only [Act.put, List.setIfInBounds_toArray, List.set_cons_zero, List.set_cons_succ]
  refine rg_take (i := 11) (d := some 58) (l := #[true, true, true, true, true, true, true, true, true, true, true, true, false, false, false, false, false, false, false, false, false, false, false]) (fuel := 11) (v := ?_) rfl (by kernel_rfl) (by kernel_rfl) (by kernel_rfl) (by kernel_rfl) (by kernel_rfl) (fun _ _ _ h => h) (by kernel_rfl) ?_ (by assumption) ?_
  rotate_left 1
  · (intro wS hSw; (try dsimp only at hSw); go_simp; try with_reducible rfl)
  try simp only [Act.put, List.setIfInBounds_toArray, List.set_cons_zero, List.set_cons_succ]
  refine rg_take (i := 12) (d := some 59) (l := #[true, true, true, true, true, true, true, true, true, true, true, true, true, false, false, false, false, false, false, false, false, false, false]) (fuel := 10) (v := ?_) rfl (by kernel_rfl) (by kernel_rfl) (by kernel_rfl) (by kernel_rfl) (by kernel_rfl) (fun _ _ _ h => h) (by kernel_rfl) ?_ (by assumption) ?_
  rotate_left 1
  · (intro wS hSw; (try dsimp only at hSw); go_simp; try with_reducible rfl)
  try simp only [Act.put, List.setIfInBounds_toArray, List.set_cons_zero, List.set_cons_succ]
  refine rg_take (i := 13) (d := some 60) (l := #[true, true, true, true, true, true, true, true, true, true, true, true, true, true, false, false, false, false, false, false, false, false, false]) (fuel := 9) (v := ?_) rfl (by kernel_rfl) (by kernel_rfl) (by kernel_rfl) (by kernel_rfl) (by kernel_rfl) (fun _ _ _ h => h) (by kernel_rfl) ?_ (by assumption) ?_
  rotate_left 1
  · (intro wS hSw; (try dsimp only at hSw); go_simp; try with_reducible rfl)
  try simp only [Act.put, List.setIfInBounds_toArray, List.set_cons_zero, List.set_cons_succ]
  refine rg_take (i := 14) (d := some 61) (l := #[true, true, true, true, true, true, true, true, true, true, true, true, true, true, true, false, false, false, false, false, false, false, false]) (fuel := 8) (v := ?_) rfl (by kernel_rfl) (by kernel_rfl) (by kernel_rfl) (by kernel_rfl) (by kernel_rfl) (fun _ _ _ h => h) (by kernel_rfl) ?_ (by assumption) ?_
  rotate_left 1
  · (intro wS hSw; (try dsimp only at hSw); go_simp; try with_reducible rfl)
  try simp only [Act.put, List.setIfInBounds_toArray, List.set_cons_zero, List.set_cons_succ]
  refine rg_take (i := 16) (d := some 63) (l := #[true, true, true, true, true, true, true, true, true, true, true, true, true, true, true, false, true, false, false, false, false, false, false]) (fuel := 7) (v := ?_) rfl (by kernel_rfl) (by kernel_rfl) (by kernel_rfl) (by kernel_rfl) (by kernel_rfl) (fun _ _ _ h => h) (by kernel_rfl) ?_ (by assumption) ?_
  rotate_left 1
  · (intro wS hSw; (try dsimp only at hSw); go_simp; try with_reducible rfl)
  try simp only [Act.put, List.setIfInBounds_toArray, List.set_cons_zero, List.set_cons_succ]
  refine rg_take (i := 17) (d := some 64) (l := #[true, true, true, true, true, true, true, true, true, true, true, true, true, true, true, false, true, true, false, false, false, false, false]) (fuel := 6) (v := ?_) rfl (by kernel_rfl) (by kernel_rfl) (by kernel_rfl) (by kernel_rfl) (by kernel_rfl) (fun _ _ _ h => h) (by kernel_rfl) ?_ (by assumption) ?_
  rotate_left 1
  · (intro wS hSw; (try dsimp only at hSw); go_simp; try with_reducible rfl)
  try simp only [Act.put, List.setIfInBounds_toArray, List.set_cons_zero, List.set_cons_succ]
  refine rg_take (i := 18) (d := some 65) (l := #[true, true, true, true, true, true, true, true, true, true, true, true, true, true, true, false, true, true, true, false, false, false, false]) (fuel := 5) (v := ?_) rfl (by kernel_rfl) (by kernel_rfl) (by kernel_rfl) (by kernel_rfl) (by kernel_rfl) (fun _ _ _ h => h) (by kernel_rfl) ?_ (by assumption) ?_
  rotate_left 1
  · (intro wS hSw; (try dsimp only at hSw); go_simp; try with_reducible rfl)
  try simp only [Act.put, List.setIfInBounds_toArray, List.set_cons_zero, List.set_cons_succ]
  refine rg_take (i := 19) (d := some 66) (l := #[true, true, true, true, true, true, true, true, true, true, true, true, true, true, true, false, true, true, true, true, false, false, false]) (fuel := 4) (v := ?_) rfl (by kernel_rfl) (by kernel_rfl) (by kernel_rfl) (by kernel_rfl) (by kernel_rfl) (fun _ _ _ h => h) (by kernel_rfl) ?_ (by assumption) ?_
  rotate_left 1
  · (intro wS hSw; (try dsimp only at hSw); go_simp; try with_reducible rfl)
  try simp only [Act.put, List.setIfInBounds_toArray, List.set_cons_zero, List.set_cons_succ]
  refine rg_next (i := 15) (l := #[true, true, true, true, true, true, true, true, true, true, true, true, true, true, true, true, true, true, true, true, false, false, false]) (fuel := 3) (by kernel_rfl) rfl (by kernel_rfl) (by kernel_rfl) (fun K hK => ?_)
  go_simp
  (go_at_call 13)
  refine (last_any M9.out).mono ?_
  rintro e w10 ⟨rfl, rfl⟩
  first | (refine hK.out _ _ ?_ (fun hHeld => ?_)) | (go_wp2_with fail; refine hK.out _ _ ?_ (fun hHeld => ?_))
  · (try dsimp only); exact ⟨R9.cell 0, R9.cell 1, R9.cell 2, R9.cell 3, R9.cell 4, R9.cell 5, R9.cell 6, R9.cell 7, R9.cell 8⟩
  clear hK K
  try simp only [Act.put, List.setIfInBounds_toArray, List.set_cons_zero, List.set_cons_succ]
  refine rg_take (i := 20) (d := some 67) (l := #[true, true, true, true, true, true, true, true, true, true, true, true, true, true, true, true, true, true, true, true, true, false, false]) (fuel := 2) (v := ?_) rfl (by kernel_rfl) (by kernel_rfl) (by kernel_rfl) (by kernel_rfl) (by kernel_rfl) (fun _ _ _ h => h) (by kernel_rfl) ?_ (by assumption) ?_
  rotate_left 1
  · (intro wS hSw; (try dsimp only at hSw); go_simp; try with_reducible rfl)
  try simp only [Act.put, List.setIfInBounds_toArray, List.set_cons_zero, List.set_cons_succ]
  refine rg_take (i := 21) (d := some 68) (l := #[true, true, true, true, true, true, true, true, true, true, true, true, true, true, true, true, true, true, true, true, true, true, false]) (fuel := 1) (v := ?_) rfl (by kernel_rfl) (by kernel_rfl) (by kernel_rfl) (by kernel_rfl) (by kernel_rfl) (fun _ _ _ h => h) (by kernel_rfl) ?_ (by assumption) ?_
  rotate_left 1
  · (intro wS hSw; (try dsimp only at hSw); go_simp; try with_reducible rfl)
  try simp only [Act.put, List.setIfInBounds_toArray, List.set_cons_zero, List.set_cons_succ]
  refine rg_take (i := 22) (d := some 8) (l := #[true, true, true, true, true, true, true, true, true, true, true, true, true, true, true, true, true, true, true, true, true, true, true]) (fuel := 0) (v := ?_) rfl (by kernel_rfl) (by kernel_rfl) (by kernel_rfl) (by kernel_rfl) (by kernel_rfl) (fun _ _ _ h => h) (by kernel_rfl) ?_ (by assumption) ?_
  rotate_left 1
  · (intro wS hSw; (try dsimp only at hSw); go_simp; try with_reducible rfl)
  try simp only [Act.put, List.setIfInBounds_toArray, List.set_cons_zero, List.set_cons_succ]
  refine wpAnyH_done (by kernel_rfl) ?_ _
  go_wp2_with fail
  go_ret
  exact ⟨rfl, B9.out⟩

theorem own : ownKnob Tryd.prog.godebug = none := by kernel_rfl
theorem laidOut : laidOutB Tryd.prog = true := by kernel_rfl
theorem door_met (os : Os) (args : Array Value) : laidMetH Tryd.prog laid2 ((World.doorLaid Tryd.prog 400 os).forCall (fun _ _ => 0) ⟨#[], args, []⟩).memory :=
  laidMetH_of_parts3 (fuel := 8) (laidMet_of_run' 8 (by kernel_rfl) (by kernel_rfl)) (by kernel_rfl) (by kernel_rfl)
set_option maxRecDepth 100000 in
theorem lifted (os : Os) (started : os.Started) (H : Type) (enc : TypeId × Value → H) :
    ReturnsInHanded {} Tryd.checked os 3 .any (fun w args => (Rows.mmuMovesSpec.pre enc Tryd.prog Tryd.f3 [] false w args ∧ laidMetH Tryd.prog laid2 w) ∧ sizedMet enc Tryd.prog Tryd.f3 (OpenSpec.ofChange Rows.mmuMovesSpec) false w args)
      (Rows.mmuMovesSpec.post enc Tryd.prog Tryd.f3 false true false false) := by
  refine returnsInHanded_of_change_and (C := Tryd.checked) (X := fun w _ => laidMetH Tryd.prog laid2 w) (fun _ _ _ hh h => h.of_heap hh) own started (by kernel_rfl) Tryd.func3
    (ChangeSpec.witness_shaped (enc := enc) (C := Tryd.checked) (os := os) (X := fun w _ => laidMetH Tryd.prog laid2 w) false (World.doorLaid Tryd.prog 400 os) #[.agg #[.int .u8 0, .int .u8 0, .int .u8 0, .int .u8 0, .int .u8 0, .int .u8 0, .int .u8 0, .int .u8 0], .int .u8 0, .slice none 0 0, .slice none 0 0] 8 rfl (World.shaped_of_RefB (by kernel_rfl) (by kernel_rfl)) (by kernel_rfl) (by kernel_rfl) (by kernel_rfl) (door_met os _)) ?_
  intro W base args ds gs before hval0 hW _ _ hL0 _
  have hL : laidMetH Tryd.prog laid2 W := hL0
  rw [MakeChecks.laidMetH_plain _ _ _ (by kernel_rfl)] at hL
  have HT := of_laid hL
  have hval : ∀ (j : Nat) t v, Tryd.f3.params[j]? = some t → args[j]? = some v → Value.okWide Tryd.prog W .any base t v := hval0
  have hW' := hW
  obtain ⟨p, q, hA0, hV, rfl, _, _⟩ := hW
  have hA : DataW.TrodAll enc Tryd.prog W 0 (fun _ => true) true Tryd.f3.params.toList args.toList ds p := hA0
  rw [Tryd.params3] at hA hval
  obtain ⟨v0, vs0, d0, ds0, p0, q0, hargs, rfl, rfl, h0, r0⟩ := trodAll_cons hA
  obtain ⟨v1, vs1, d1, ds1, p1, q1, rfl, rfl, rfl, h1, r1⟩ := trodAll_cons r0
  obtain ⟨v2, vs2, d2, ds2, p2, q2, rfl, rfl, rfl, h2, r2⟩ := trodAll_cons r1
  obtain ⟨v3, vs3, d3, ds3, p3, q3, rfl, rfl, rfl, h3, r3⟩ := trodAll_cons r2
  obtain ⟨rfl, rfl, rfl⟩ := trodAll_nil r3
  obtain rfl : args = #[v0, v1, v2, v3] := by cases args; simp_all
  obtain ⟨rfl, rfl⟩ := trodVars_none hV
  obtain ⟨z0, rfl, u0⟩ := array_ints_v Tryd.underlying22 Tryd.underlying5 (by kernel_rfl) (by kernel_rfl) (hval 0 22 v0 rfl rfl) h0
  obtain ⟨a1, rfl, rfl, rfl, w1⟩ := open_int Tryd.underlying5 (hval 1 5 v1 rfl rfl) h1
  obtain ⟨A2, n2, c2, q2, rfl, g2, m2, R2, F2, N2⟩ := slice_fk _ [.int .u8, .int .u8, .int .u8] Tryd.underlying23 Tryd.underlying68 (by kernel_rfl) (by kernel_rfl) rfl (by decide)
    (fun j k h => match j, h with
      | 0, h => by cases h; exact ⟨_, rfl, Tryd.underlying5⟩
      | 1, h => by cases h; exact ⟨_, rfl, Tryd.underlying5⟩
      | 2, h => by cases h; exact ⟨_, rfl, Tryd.underlying5⟩
      | j + 3, h => by simp at h) (hval 2 23 v2 rfl rfl) h2
  obtain ⟨A3, n3, c3, q3, rfl, g3, m3, R3, F3, N3⟩ := slice_fk _ [.int .u8, .int .u8, .int .u8] Tryd.underlying23 Tryd.underlying68 (by kernel_rfl) (by kernel_rfl) rfl (by decide)
    (fun j k h => match j, h with
      | 0, h => by cases h; exact ⟨_, rfl, Tryd.underlying5⟩
      | 1, h => by cases h; exact ⟨_, rfl, Tryd.underlying5⟩
      | 2, h => by cases h; exact ⟨_, rfl, Tryd.underlying5⟩
      | j + 3, h => by simp at h) (hval 3 23 v3 rfl rfl) h3
  clear hA0 hval0
  refine (walk z0 u0 a1 w1 A2 n2 c2 q2 g2 m2 R2 F2 A3 n3 c3 q3 g3 m3 R3 F3 HT).mono fun e W' ⟨he, hg⟩ => ?_
  subst he
  exact ⟨_, rfl, law_post rfl Tryd.underlying4 laidOut (by kernel_rfl) rfl hW' rfl hg⟩

theorem over : Rows.mmuMovesRow.holds Tryd.pinned (OpenSpec.ofChange Rows.mmuMovesSpec) :=
  OpenClaim.holds_of_wide 3 Tryd.f3 rfl rfl rfl rfl rfl rfl rfl ⟨rfl, rfl, rfl, rfl, rfl⟩ rfl rfl rfl rfl rfl (by kernel_rfl) Tryd.func3 (by kernel_rfl)
    (of_decide_eq_true (by kernel_rfl)) (by unfold Func.isWrapper; first | (rw [if_pos (by decide +kernel)]; kernel_rfl) | (rw [if_neg (by decide +kernel)]; exact ⟨rfl, rfl⟩))
    (fun os started H enc _ => lifted os started H enc)

theorem proved : Rows.MmuMovesCardSaid :=
  Claim7.holds_tied_plain_at .later [] [.data] true _ false
    over (fun _ h => by cases h) (by kernel_rfl) (fun _ h => by cases h) mmuMoves_row_tie rfl ⟨rfl, rfl⟩ (by kernel_rfl) rfl
    (fun f fn hf hfn => by
      obtain rfl : f = 3 := Option.some.inj ((show Tryd.prog.funcNamed "gannet/gannetlaw18.MmuMoves" = some 3 by kernel_rfl).symm.trans hf) |>.symm
      obtain rfl : fn = Tryd.f3 := (Option.some.inj (Tryd.func3.symm.trans hfn)).symm
      exact ⟨by kernel_rfl, fun j t ht => by
        rw [Tryd.params3] at ht
        have hm : t ∈ [22, 5, 23, 23] := by simpa using Array.mem_of_getElem? ht
        have hall : ([22, 5, 23, 23].all fun u => !Tryd.prog.wantsStandIn u) = true := by kernel_rfl
        exact (show Tryd.prog.wantsStandIn t = false by simpa using List.all_eq_true.1 hall t hm)⟩)
    (by kernel_rfl)
#print axioms proved
end Go.Proofs.YtccimkmlbcgekaaDoor.mmuMoves
