/-
  For every input FeedGives returns true, and each argument reads behind the call as it read before. No conditions.
-/
import Derived.Test.YtfhndajhlpakoaaRows
import Derived.Test.YtfhndajhlpakoaaG3
import Derived.Test.YtfhndajhlpakoaaFeed8
import Derived.Test.YtfhndajhlpakoaaG13
import Derived.Test.YtfhndajhlpakoaaG15
import Derived.Deep.Cut
import Derived.Deep.CutRange
import Derived.Deep.RegionHeld3
import Derived.Deep.RegionWith
import Derived.RegionTactic
import Derived.BigRegion
import Derived.LoopTactic
namespace Go.Proofs.Ytfhndajhlpakoaa.feedGives
open Go.ChangeShapes Go.WideShapes Go.ChangeAt Go.RowKit
open Go.ChangeMaps (open_string)

set_option linter.unusedVariables false
set_option linter.unusedSimpArgs false
set_option maxRecDepth 100000 in
set_option maxHeartbeats 4000000 in
theorem walk {W : World} (A : Option Addr) (n c : Nat) (z : Nat → Int) (hc : n ≤ c) (hm : c ≤ maxLen) (R : IRow W .u8 A n z) (N : A = none → n = 0 ∧ c = 0) (Y : c ≤ 140737488355328)
    (A1 : Option Addr) (n1 c1 : Nat) (z1 : Nat → Int) (hc1 : n1 ≤ c1) (hm1 : c1 ≤ maxLen) (R1 : IRow W .i64 A1 n1 z1) (N1 : A1 = none → n1 = 0 ∧ c1 = 0)
    (A2 : Option Addr) (n2 c2 : Nat) (z2 : Nat → Int) (hc2 : n2 ≤ c2) (hm2 : c2 ≤ maxLen) (R2 : IRow W .i64 A2 n2 z2) (N2 : A2 = none → n2 = 0 ∧ c2 = 0) :
    Calls Try.prog 7 #[.slice A n c, .slice A1 n1 c1, .slice A2 n2 c2] W fun e w' => e = .returned (.bool true) ∧ Below W.heap.size W w' := by
  unfold maxLen at hm hm1 hm2
  clear N1 N2
  by_cases g1 : 300 < n1
  · have i1 : (300 : Int) < n1 := by omega
    clear R R1 R2 N Y
    go_enter Try.func7, Try.ntmps7
    go_wp2_with (go_at_call 28; refine (liveF_any _).mono ?_; rintro e w1 ⟨rfl, hB⟩)
    go_ret
    exact ⟨rfl, hB⟩
  by_cases g2 : 300 < n2
  · have i1 : ¬ (300 : Int) < n1 := by omega
    have i2 : (300 : Int) < n2 := by omega
    clear R R1 R2 N Y
    go_enter Try.func7, Try.ntmps7
    go_wp2_with (go_at_call 28; refine (liveF_any _).mono ?_; rintro e w1 ⟨rfl, hB⟩)
    go_ret
    exact ⟨rfl, hB⟩
  have i1 : ¬ (300 : Int) < n1 := by omega
  have i2 : ¬ (300 : Int) < n2 := by omega
  have RH := Lib.hid R
  have RH1 := Lib.hid R1
  have RH2 := Lib.hid R2
  have NH := Lib.hid N
  have YH := Lib.hid Y
  clear R R1 R2 N Y hm
  go_enter Try.func7, Try.ntmps7
  go_wp2_with fail
  refine (liveF_any _).mono ?_
  rintro e w1 ⟨rfl, hB⟩
  have s1 := hB.size
  go_wp2_with fail
  refine (new_any A n c z NH.out (by have := YH.out; omega) (RH.out.keep hB)).mono ?_
  rintro e w2 ⟨g, cb, rfl, f1, f2, f3, f4, f5, f6⟩
  have hB2 := hB.trans (f6.mono s1)
  have F5 := Lib.hid f5
  have s2 := hB2.size
  clear f5 f6 hB
  go_wp2_with fail
  have hB3 := hB2.alloc s2 (.cells (rcs A n c 0) 60)
  have PL : Hid (PlayI W g cb w2.heap.size n c 0 A z (w2.alloc (.cells (rcs A n c 0) 60))) :=
    Lib.hid ⟨(F5.out.keep ((Below.refl _ _).alloc (Nat.le_refl _) _)).congr (by omega) (fun i _ => by rw [Nat.zero_add]) rfl, Blk.new _ _ _, hB3⟩
  refine (play_any (cm := c1) PL.out RH.out RH1.out (by omega) (by have := YH.out; omega) (by omega) (by omega)).mono ?_
  rintro e w3 ⟨rfl, ⟨k, hk, PF, PR, PB⟩, PK⟩
  have QF := Lib.hid PF
  have QR := Lib.hid PR
  have QB := Lib.hid PB
  have s3 := PB.size
  have sr : w2.heap.size < w3.heap.size := by have := PK.size; simp at this; omega
  generalize w2.heap.size = r at *
  clear PF PR PB PK PL hB2 hB3 F5
  go_wp2_with fail
  refine (fclone_any QF.out (by have := YH.out; omega)).mono ?_
  rintro e w4 ⟨g2, cb2, rfl, x1, x2, x3, x4, x5⟩
  have hge : W.heap.size ≤ g ∧ W.heap.size ≤ cb ∧ W.heap.size ≤ r := by omega
  have hB4 := x5.onto QB.out s3 (by simp <;> omega)
  have hrc : r ∉ [cb] := by obtain ⟨_, v, hv, _⟩ := QF.out; simpa using QR.out.ne_ hv (by decide)
  have QR4 := Lib.hid (QR.out.kp x5 hrc)
  have QF4 := Lib.hid x4
  have QG4 := Lib.hid x3
  have QB4 := Lib.hid hB4
  have s4 := hB4.size
  have t4 := x5.size
  clear x3 x4 x5 hB4 QF QR QB hrc
  go_wp2_with fail
  refine (rcopy_any QR4.out).mono ?_
  rintro e w5 ⟨rfl, y1, y2⟩
  have hlt2 : g2 < w4.heap.size ∧ cb2 < w4.heap.size := ⟨QG4.out.1.lt, by obtain ⟨_, v, hv, _⟩ := QG4.out; exact hv.lt⟩
  have hlt1 : g < w3.heap.size ∧ cb < w3.heap.size := by omega
  have QR5 := Lib.hid (QR4.out.below y2 (by omega))
  have QF5 := Lib.hid (QF4.out.keep y2)
  have QG5 := Lib.hid (QG4.out.keep y2)
  have QS5 := Lib.hid y1
  have hB5 := QB4.out.trans (y2.mono s4)
  have s5 := hB5.size
  have t5 := y2.size
  have QB5 := Lib.hid hB5
  generalize w4.heap.size = r2 at *
  clear y1 y2 hB5 QR4 QF4 QG4 QB4
  have PL5 : Hid (PlayI W g2 cb2 r2 n c k A z w5.drew) := Lib.hid ⟨by exact QG5.out, by exact QS5.out, QB5.out.drew⟩
  have q1 : w5.cell? ⟨r, 1, none⟩ = some (.int .i64 k) := QR5.out.cell 1
  have N1 : Hid (∀ x ∈ [g2, cb2, r2], W.heap.size ≤ x) := Lib.hid (by simp; omega)
  have N2 : Hid (r ∉ [g2, cb2, r2]) := Lib.hid (by simp; omega)
  have N3 : Hid (g ∉ [g2, cb2, r2]) := Lib.hid (by simp; omega)
  have N4 : Hid (cb ∉ [g2, cb2, r2]) := Lib.hid (by simp; omega)
  have N5 : Hid (∀ x ∈ [cb], W.heap.size ≤ x) := Lib.hid (by simp; omega)
  have N6 : Hid (r ∉ [cb]) := Lib.hid (by obtain ⟨_, v, hv, _⟩ := QF5.out; simpa using QR5.out.ne_ hv (by decide))
  have N7 : Hid (∀ x ∈ [g2, cb2, r2], ∃ t cs, Blk w5 x t cs ∧ 5 ≠ t) := Lib.hid (fun x hx => by
    have hx' : x = g2 ∨ x = cb2 ∨ x = r2 := by simpa using hx
    rcases hx' with rfl | rfl | rfl
    · exact ⟨_, _, QG5.out.1, by decide⟩
    · obtain ⟨_, v, hv, _⟩ := QG5.out; exact ⟨_, _, hv, by decide⟩
    · exact ⟨_, _, QS5.out, by decide⟩)
  have hn : n ≤ 140737488355328 := by have := YH.out; omega
  go_wp2_with fail
  refine rg_begin (S := fun w' => w'.cell? ⟨r, 1, none⟩ = some (.int .i64 k)) 21 #[false, false, false, false, false, false, false, false, false, false, false, false, false, false, false, false, false, false, false, false, false] (by kernel_rfl) (by kernel_rfl) (by kernel_rfl) ?_ (fun hHeld => ?_)
  · exact q1
  refine rg_take (i := 0) (d := some 35) (l := #[true, false, false, false, false, false, false, false, false, false, false, false, false, false, false, false, false, false, false, false, false]) (fuel := 20) (v := ?_) rfl (by kernel_rfl) (by kernel_rfl) (by kernel_rfl) (by kernel_rfl) (by kernel_rfl) (fun _ _ _ h => h) (by kernel_rfl) ?_ (by assumption) ?_
  rotate_left 1
  · (intro w hSw; (try dsimp only at hSw); go_simp; try with_reducible rfl)
  try simp only [Act.put, List.setIfInBounds_toArray, List.set_cons_zero, List.set_cons_succ]
  refine rg_take (i := 1) (d := some 36) (l := #[true, true, false, false, false, false, false, false, false, false, false, false, false, false, false, false, false, false, false, false, false]) (fuel := 19) (v := ?_) rfl (by kernel_rfl) (by kernel_rfl) (by kernel_rfl) (by kernel_rfl) (by kernel_rfl) (fun _ _ _ h => h) (by kernel_rfl) ?_ (by assumption) ?_
  rotate_left 1
  · (intro w hSw; (try dsimp only at hSw); go_simp; try with_reducible rfl)
  try simp only [Act.put, List.setIfInBounds_toArray, List.set_cons_zero, List.set_cons_succ]
  refine rg_take (i := 2) (d := some 37) (l := #[true, true, true, false, false, false, false, false, false, false, false, false, false, false, false, false, false, false, false, false, false]) (fuel := 18) (v := ?_) rfl (by kernel_rfl) (by kernel_rfl) (by kernel_rfl) (by kernel_rfl) (by kernel_rfl) (fun _ _ _ h => h) (by kernel_rfl) ?_ (by assumption) ?_
  rotate_left 1
  · (intro w hSw; (try dsimp only at hSw); go_simp; try with_reducible rfl)
  try simp only [Act.put, List.setIfInBounds_toArray, List.set_cons_zero, List.set_cons_succ]
  refine rg_next (i := 3) (l := #[true, true, true, true, false, false, false, false, false, false, false, false, false, false, false, false, false, false, false, false, false]) (fuel := 17) (by kernel_rfl) rfl (by kernel_rfl) (by kernel_rfl) (fun K hK => ?_)
  go_simp
  (go_at_call 30)
  refine (play_any (w := w5.drew) (t := k) (r := r2) (g := g2) (cb := cb2) (cm := c2) PL5.out RH.out RH2.out (by omega) hn (by omega) (by omega)).mono ?_
  rintro e wx ⟨rfl, ⟨k2, hk2, PF, PR, PB⟩, PK⟩
  have X1 := Lib.hid PB
  have X2 := Lib.hid PK
  clear PF PR PB PK
  have X3 := Lib.hid (Blk.kp (by exact QR5.out) X2.out N2.out)
  have X4 := Lib.hid (FD.kp (by exact QF5.out) X2.out (by exact N7.out) N3.out N4.out)
  have rx : wx.cell? ⟨r, 1, none⟩ = some (.int .i64 k) := X3.out.cell 1
  first | (refine hK.out _ _ ?_ (fun hHeld => ?_)) | (go_wp2_with fail; refine hK.out _ _ ?_ (fun hHeld => ?_))
  · (try dsimp only); exact rx
  clear hK K
  try simp only [Act.put, List.setIfInBounds_toArray, List.set_cons_zero, List.set_cons_succ]
  refine rg_take (i := 4) (d := some 39) (l := #[true, true, true, true, true, false, false, false, false, false, false, false, false, false, false, false, false, false, false, false, false]) (fuel := 16) (v := ?_) rfl (by kernel_rfl) (by kernel_rfl) (by kernel_rfl) (by kernel_rfl) (by kernel_rfl) (fun _ _ _ h => h) (by kernel_rfl) ?_ (by assumption) ?_
  rotate_left 1
  · (intro w hSw; (try dsimp only at hSw); go_simp; try with_reducible rfl)
  try simp only [Act.put, List.setIfInBounds_toArray, List.set_cons_zero, List.set_cons_succ]
  refine rg_take (i := 5) (d := some 40) (l := #[true, true, true, true, true, true, false, false, false, false, false, false, false, false, false, false, false, false, false, false, false]) (fuel := 15) (v := ?_) rfl (by kernel_rfl) (by kernel_rfl) (by kernel_rfl) (by kernel_rfl) (by kernel_rfl) (fun _ _ _ h => h) (by kernel_rfl) ?_ (by assumption) ?_
  rotate_left 1
  · (intro w hSw; (try dsimp only at hSw); go_simp; try with_reducible rfl)
  try simp only [Act.put, List.setIfInBounds_toArray, List.set_cons_zero, List.set_cons_succ]
  refine rg_take (i := 7) (d := some 42) (l := #[true, true, true, true, true, true, false, true, false, false, false, false, false, false, false, false, false, false, false, false, false]) (fuel := 14) (v := ?_) rfl (by kernel_rfl) (by kernel_rfl) (by kernel_rfl) (by kernel_rfl) (by kernel_rfl) (fun _ _ _ h => h) (by kernel_rfl) ?_ (by assumption) ?_
  rotate_left 1
  · (intro w hSw; (try dsimp only at hSw); go_simp; try with_reducible rfl)
  try simp only [Act.put, List.setIfInBounds_toArray, List.set_cons_zero, List.set_cons_succ]
  refine rg_next (i := 6) (l := #[true, true, true, true, true, true, true, true, false, false, false, false, false, false, false, false, false, false, false, false, false]) (fuel := 13) (by kernel_rfl) rfl (by kernel_rfl) (by kernel_rfl) (fun K hK => ?_)
  go_simp
  (go_at_call 33)
  refine (left_any X4.out).mono ?_
  rintro e wy ⟨rfl, y1, y2⟩
  have Y1 := Lib.hid y1
  have Y2 := Lib.hid y2
  clear y1 y2
  have Y3 := Lib.hid (Y2.out.onto X1.out (by have := X1.out.size; exact this) N5.out)
  have Y4 := Lib.hid (X3.out.kp Y2.out N6.out)
  have ry : wy.cell? ⟨r, 1, none⟩ = some (.int .i64 k) := Y4.out.cell 1
  first | (refine hK.out _ _ ?_ (fun hHeld => ?_)) | (go_wp2_with fail; refine hK.out _ _ ?_ (fun hHeld => ?_))
  · (try dsimp only); exact ry
  clear hK K
  try simp only [Act.put, List.setIfInBounds_toArray, List.set_cons_zero, List.set_cons_succ]
  refine rg_next (i := 8) (l := #[true, true, true, true, true, true, true, true, true, false, false, false, false, false, false, false, false, false, false, false, false]) (fuel := 12) (by kernel_rfl) rfl (by kernel_rfl) (by kernel_rfl) (fun K hK => ?_)
  go_simp
  (go_at_call 34)
  refine (rleft_any Y4.out hn (by omega)).mono ?_
  rintro e wz ⟨rfl, z3⟩
  have Z1 := Lib.hid z3
  clear z3
  have Z3 := Lib.hid (Z1.out.onto Y3.out (by have := Y3.out.size; exact this) (by simp))
  have Z4 := Lib.hid (Y4.out.kp Z1.out (by simp))
  have Z5 := Lib.hid (Y1.out.kp Z1.out (by simp) (by simp) (by simp))
  have rz : wz.cell? ⟨r, 1, none⟩ = some (.int .i64 k) := Z4.out.cell 1
  first | (refine hK.out _ _ ?_ (fun hHeld => ?_)) | (go_wp2_with fail; refine hK.out _ _ ?_ (fun hHeld => ?_))
  · (try dsimp only); exact rz
  clear hK K
  try simp only [Act.put, List.setIfInBounds_toArray, List.set_cons_zero, List.set_cons_succ]
  refine rg_take (i := 9) (d := some 44) (l := #[true, true, true, true, true, true, true, true, true, true, false, false, false, false, false, false, false, false, false, false, false]) (fuel := 11) (v := ?_) rfl (by kernel_rfl) (by kernel_rfl) (by kernel_rfl) (by kernel_rfl) (by kernel_rfl) (fun _ _ _ h => h) (by kernel_rfl) ?_ (by assumption) ?_
  rotate_left 1
  · (intro w hSw; (try dsimp only at hSw); go_simp; try with_reducible rfl)
  try simp only [Act.put, List.setIfInBounds_toArray, List.set_cons_zero, List.set_cons_succ]
  refine rg_take (i := 10) (d := some 45) (l := #[true, true, true, true, true, true, true, true, true, true, true, false, false, false, false, false, false, false, false, false, false]) (fuel := 10) (v := ?_) rfl (by kernel_rfl) (by kernel_rfl) (by kernel_rfl) (by kernel_rfl) (by kernel_rfl) (fun _ _ _ h => h) (by kernel_rfl) ?_ (by assumption) ?_
  rotate_left 1
  · (intro w hSw; (try dsimp only at hSw); go_simp; try with_reducible rfl)
  try simp only [Act.put, List.setIfInBounds_toArray, List.set_cons_zero, List.set_cons_succ]
  refine rg_take (i := 11) (d := some 46) (l := #[true, true, true, true, true, true, true, true, true, true, true, true, false, false, false, false, false, false, false, false, false]) (fuel := 9) (v := ?_) rfl (by kernel_rfl) (by kernel_rfl) (by kernel_rfl) (by kernel_rfl) (by kernel_rfl) (fun _ _ _ h => h) (by kernel_rfl) ?_ (by assumption) ?_
  rotate_left 1
  · (intro w hSw; (try dsimp only at hSw); go_simp; try with_reducible rfl)
  try simp only [Act.put, List.setIfInBounds_toArray, List.set_cons_zero, List.set_cons_succ]
  refine rg_take (i := 12) (d := some 47) (l := #[true, true, true, true, true, true, true, true, true, true, true, true, true, false, false, false, false, false, false, false, false]) (fuel := 8) (v := ?_) rfl (by kernel_rfl) (by kernel_rfl) (by kernel_rfl) (by kernel_rfl) (by kernel_rfl) (fun _ _ _ h => h) (by kernel_rfl) ?_ (by assumption) ?_
  rotate_left 1
  · (intro w hSw; (try dsimp only at hSw); go_simp; try with_reducible rfl)
  try simp only [Act.put, List.setIfInBounds_toArray, List.set_cons_zero, List.set_cons_succ]
  refine rg_take (i := 14) (d := some 49) (l := #[true, true, true, true, true, true, true, true, true, true, true, true, true, false, true, false, false, false, false, false, false]) (fuel := 7) (v := ?_) rfl (by kernel_rfl) (by kernel_rfl) (by kernel_rfl) (by kernel_rfl) (by kernel_rfl) (fun _ _ _ h => h) (by kernel_rfl) ?_ (by assumption) ?_
  rotate_left 1
  · (intro w hSw; (try dsimp only at hSw); go_simp; try with_reducible rfl)
  try simp only [Act.put, List.setIfInBounds_toArray, List.set_cons_zero, List.set_cons_succ]
  refine rg_take (i := 15) (d := some 50) (l := #[true, true, true, true, true, true, true, true, true, true, true, true, true, false, true, true, false, false, false, false, false]) (fuel := 6) (v := ?_) rfl (by kernel_rfl) (by kernel_rfl) (by kernel_rfl) (by kernel_rfl) (by kernel_rfl) (fun _ _ _ h => h) (by kernel_rfl) ?_ (by assumption) ?_
  rotate_left 1
  · (intro w hSw; (try dsimp only at hSw); go_simp; try with_reducible rfl)
  try simp only [Act.put, List.setIfInBounds_toArray, List.set_cons_zero, List.set_cons_succ]
  refine rg_take (i := 16) (d := some 51) (l := #[true, true, true, true, true, true, true, true, true, true, true, true, true, false, true, true, true, false, false, false, false]) (fuel := 5) (v := ?_) rfl (by kernel_rfl) (by kernel_rfl) (by kernel_rfl) (by kernel_rfl) (by kernel_rfl) (fun _ _ _ h => h) (by kernel_rfl) ?_ (by assumption) ?_
  rotate_left 1
  · (intro w hSw; (try dsimp only at hSw); go_simp; try with_reducible rfl)
  try simp only [Act.put, List.setIfInBounds_toArray, List.set_cons_zero, List.set_cons_succ]
  refine rg_take (i := 17) (d := some 52) (l := #[true, true, true, true, true, true, true, true, true, true, true, true, true, false, true, true, true, true, false, false, false]) (fuel := 4) (v := ?_) rfl (by kernel_rfl) (by kernel_rfl) (by kernel_rfl) (by kernel_rfl) (by kernel_rfl) (fun _ _ _ h => h) (by kernel_rfl) ?_ (by assumption) ?_
  rotate_left 1
  · (intro w hSw; (try dsimp only at hSw); go_simp; try with_reducible rfl)
  try simp only [Act.put, List.setIfInBounds_toArray, List.set_cons_zero, List.set_cons_succ]
  refine rg_next (i := 13) (l := #[true, true, true, true, true, true, true, true, true, true, true, true, true, true, true, true, true, true, false, false, false]) (fuel := 3) (by kernel_rfl) rfl (by kernel_rfl) (by kernel_rfl) (fun K hK => ?_)
  go_simp
  (go_at_call 35)
  refine (taken_any Z5.out).mono ?_
  rintro e w' ⟨rfl, rfl⟩
  first | (refine hK.out _ _ ?_ (fun hHeld => ?_)) | (go_wp2_with fail; refine hK.out _ _ ?_ (fun hHeld => ?_))
  · (try dsimp only); exact rz
  clear hK K
  try simp only [Act.put, List.setIfInBounds_toArray, List.set_cons_zero, List.set_cons_succ]
  refine rg_take (i := 18) (d := some 53) (l := #[true, true, true, true, true, true, true, true, true, true, true, true, true, true, true, true, true, true, true, false, false]) (fuel := 2) (v := ?_) rfl (by kernel_rfl) (by kernel_rfl) (by kernel_rfl) (by kernel_rfl) (by kernel_rfl) (fun _ _ _ h => h) (by kernel_rfl) ?_ (by assumption) ?_
  rotate_left 1
  · (intro w hSw; (try dsimp only at hSw); go_simp; try with_reducible rfl)
  try simp only [Act.put, List.setIfInBounds_toArray, List.set_cons_zero, List.set_cons_succ]
  refine rg_take (i := 19) (d := some 54) (l := #[true, true, true, true, true, true, true, true, true, true, true, true, true, true, true, true, true, true, true, true, false]) (fuel := 1) (v := ?_) rfl (by kernel_rfl) (by kernel_rfl) (by kernel_rfl) (by kernel_rfl) (by kernel_rfl) (fun _ _ _ h => h) (by kernel_rfl) ?_ (by assumption) ?_
  rotate_left 1
  · (intro w hSw; (try dsimp only at hSw); go_simp; try with_reducible rfl)
  try simp only [Act.put, List.setIfInBounds_toArray, List.set_cons_zero, List.set_cons_succ]
  refine rg_take (i := 20) (d := some 6) (l := #[true, true, true, true, true, true, true, true, true, true, true, true, true, true, true, true, true, true, true, true, true]) (fuel := 0) (v := ?_) rfl (by kernel_rfl) (by kernel_rfl) (by kernel_rfl) (by kernel_rfl) (by kernel_rfl) (fun _ _ _ h => h) (by kernel_rfl) ?_ (by assumption) ?_
  rotate_left 1
  · (intro w hSw; (try dsimp only at hSw); go_simp; try with_reducible rfl)
  try simp only [Act.put, List.setIfInBounds_toArray, List.set_cons_zero, List.set_cons_succ]
  refine wpAnyH_done (by kernel_rfl) ?_ _
  go_wp2_with fail
  go_ret
  exact ⟨by simp, Z3.out⟩

theorem own : ownKnob Try.prog.godebug = none := by kernel_rfl
theorem laidOut : laidOutB Try.prog = true := by kernel_rfl
set_option maxRecDepth 100000 in
theorem lifted (os : Os) (started : os.Started) (H : Type) (enc : TypeId × Value → H) :
    ReturnsInHanded {} Try.checked os 7 .any (Rows.feedGivesSpec.pre6 enc Try.prog Try.f7 Rows.feedGivesRow.domain false) (Rows.feedGivesSpec.post enc Try.prog Try.f7 false true false false) := by
  refine returnsInHanded_of_change_sized (C := Try.checked) own started (by kernel_rfl) Try.func7
    (ChangeSpec.witness6 (enc := enc) (C := Try.checked) false ⟨#[], #[.slice none 0 0, .slice none 0 0, .slice none 0 0], []⟩ 8 (by kernel_rfl) (by kernel_rfl) (by kernel_rfl) (by kernel_rfl)) ?_
  intro W base args ds gs before hval0 hW _ hsz0 _
  have hval : ∀ (j : Nat) t v, Try.f7.params[j]? = some t → args[j]? = some v → Value.okWide Try.prog W .any base t v := hval0
  have hW' := hW
  obtain ⟨p, q, hA0, hV, rfl, _, _⟩ := hW
  have hA : DataW.TrodAll enc Try.prog W 0 (fun _ => true) true Try.f7.params.toList args.toList ds p := hA0
  rw [Try.params7] at hA hval
  have hsz : (DataW.weightsEach Try.prog (Try.f7.params.toList ++ []) (ds ++ gs)).all (· ≤ reachBytes) = true := hsz0
  rw [Try.params7] at hsz
  clear hsz0
  obtain ⟨v0, vs0, d0, ds0, p0, q0, hargs, rfl, rfl, h0, r0⟩ := trodAll_cons hA
  obtain ⟨v1, vs1, d1, ds1, p1, q1, rfl, rfl, rfl, h1, r1⟩ := trodAll_cons r0
  obtain ⟨v2, vs2, d2, ds2, p2, q2, rfl, rfl, rfl, h2, r2⟩ := trodAll_cons r1
  obtain ⟨rfl, rfl, rfl⟩ := trodAll_nil r2
  obtain rfl : args = #[v0, v1, v2] := by cases args; simp_all
  obtain ⟨rfl, rfl⟩ := trodVars_none hV
  obtain ⟨A0, n0, c0, z0, rfl, g0, m0, R0, X0, N0⟩ := slice_ints_sized2 Try.underlying23 Try.underlying5 (by kernel_rfl) (hval 0 23 v0 rfl rfl) h0
  have Y0 := reach_of hsz (j := 0) (t := 23) rfl rfl Try.underlying23 (by kernel_rfl) X0
  obtain ⟨A1, n1, c1, z1, rfl, g1, m1, R1, N1⟩ := slice_ints2 Try.underlying55 Try.underlying3 (by kernel_rfl) (hval 1 55 v1 rfl rfl) h1
  obtain ⟨A2, n2, c2, z2, rfl, g2, m2, R2, N2⟩ := slice_ints2 Try.underlying55 Try.underlying3 (by kernel_rfl) (hval 2 55 v2 rfl rfl) h2
  clear hA0 hval0
  refine (walk A0 n0 c0 z0 g0 m0 R0 N0 Y0 A1 n1 c1 z1 g1 m1 R1 N1 A2 n2 c2 z2 g2 m2 R2 N2).mono fun e W' ⟨he, hg⟩ => ?_
  subst he
  exact ⟨_, rfl, law_post rfl Try.underlying4 laidOut (by kernel_rfl) rfl hW' rfl hg⟩

theorem over : Rows.feedGivesRow.holds Try.pinned (OpenSpec.ofChange Rows.feedGivesSpec) :=
  OpenClaim.holds_of_wide 7 Try.f7 rfl rfl rfl rfl rfl rfl rfl ⟨rfl, rfl, rfl, rfl, rfl⟩ rfl rfl rfl rfl rfl (by kernel_rfl) Try.func7 (by kernel_rfl)
    (of_decide_eq_true (by kernel_rfl)) (by unfold Func.isWrapper; first | (rw [if_pos (by decide +kernel)]; kernel_rfl) | (rw [if_neg (by decide +kernel)]; exact ⟨rfl, rfl⟩))
    (fun os started H enc _ => lifted os started H enc)

theorem proved : Rows.FeedGivesSaid := over
#print axioms proved
end Go.Proofs.Ytfhndajhlpakoaa.feedGives
