/-
  For every input PortReads returns true, and each argument reads behind the call as it read before. No conditions.
-/
import Derived.Test.YtbdmpgpdnnjmpaaRows
import Derived.Test.YtbdmpgpdnnjmpaaG3
import Derived.Test.YtbdmpgpdnnjmpaaPort4
import Derived.Test.YtbdmpgpdnnjmpaaG15
import Derived.Test.YtbdmpgpdnnjmpaaG14
import Derived.Deep.Cut
import Derived.Deep.CutRange
import Derived.Deep.RegionHeld3
import Derived.Deep.RegionWith
import Derived.RegionTactic
import Derived.BigRegion
import Derived.LoopTactic
namespace Go.Proofs.Ytbdmpgpdnnjmpaa.portReads
open Go.ChangeShapes Go.WideShapes Go.ChangeAt Go.RowKit
open Go.ChangeMaps (open_string)

set_option linter.unusedVariables false
set_option linter.unusedSimpArgs false
set_option maxRecDepth 100000 in
set_option maxHeartbeats 8000000 in
theorem walk {W : World} (A : Option Addr) (n c : Nat) (z : Nat → Int) (hc : n ≤ c) (hm : c ≤ maxLen) (R : IRow W .u8 A n z) (N : A = none → n = 0 ∧ c = 0) (Y : c ≤ 140737488355328) (A1 : Option Addr) (n1 c1 : Nat) (z1 : Nat → Bool × Int) (hnc1 : n1 ≤ c1) (hm1 : c1 ≤ maxLen) (R1 : FRow W 2 A1 n1 (fun i => biV .u8 (z1 i))) (F1 : ∀ i, i < n1 → (Lit.int .u8 (z1 i).2).wf = true) (A2 : Option Addr) (n2 c2 : Nat) (z2 : Nat → Bool × Int) (hnc2 : n2 ≤ c2) (hm2 : c2 ≤ maxLen) (R2 : FRow W 2 A2 n2 (fun i => biV .u8 (z2 i))) (F2 : ∀ i, i < n2 → (Lit.int .u8 (z2 i).2).wf = true) :
    Calls Try.prog 7 #[.slice A n c, .slice A1 n1 c1, .slice A2 n2 c2] W fun e w' => e = .returned (.bool true) ∧ Below W.heap.size W w' := by
  unfold maxLen at hm hm1 hm2
  have HR := Lib.hid R
  have HN := Lib.hid N
  have HR1 := Lib.hid R1
  have HR2 := Lib.hid R2
  have HF1 := Lib.hid F1
  have HF2 := Lib.hid F2
  have hn : n ≤ 140737488355328 := by omega
  clear R N R1 R2 F1 F2
  by_cases g1 : 200 < n1
  · have i1 : (200 : Int) < n1 := by omega
    go_enter Try.func7, Try.ntmps7
    go_wp2_with (go_at_call 23; refine (liveP_any _).mono ?_; rintro e w1 ⟨rfl, hB⟩)
    go_ret
    exact ⟨rfl, hB⟩
  have i1 : ¬ (200 : Int) < n1 := by omega
  by_cases g2 : 200 < n2
  · have i2 : (200 : Int) < n2 := by omega
    go_enter Try.func7, Try.ntmps7
    go_wp2_with (go_at_call 23; refine (liveP_any _).mono ?_; rintro e w1 ⟨rfl, hB⟩)
    go_ret
    exact ⟨rfl, hB⟩
  have i2 : ¬ (200 : Int) < n2 := by omega
  go_enter Try.func7, Try.ntmps7
  go_wp2_with fail
  refine (liveP_any _).mono ?_
  rintro e w1 ⟨rfl, hB1⟩
  have HB1 := Lib.hid hB1
  clear hB1
  go_wp2_with fail
  refine (pnew_any A n c z HN.out hn (HR.out.keep HB1.out)).mono ?_
  rintro e w2 ⟨g, cb, rfl, h1, h2, t2, b2⟩
  have s1 := HB1.out.size
  have hg : W.heap.size ≤ g := by omega
  have hcb : W.heap.size ≤ cb := by omega
  have T2 := Lib.hid t2
  have HB2 := Lib.hid (HB1.out.trans (b2.mono s1))
  clear t2 b2 HB1 h1 h2 s1
  go_wp2_with fail
  refine (rpnew_any A n c w2).mono ?_
  rintro e w3 ⟨rfl, t3, b3⟩
  have hr : W.heap.size ≤ w2.heap.size := HB2.out.size
  have hgl : g < w2.heap.size := T2.out.lt
  have hcl : cb < w2.heap.size := T2.out.ltc
  have hrl : w2.heap.size < w3.heap.size := RP.lt t3
  have HI3 : Hid (PPl W g cb w2.heap.size A n c z 0 ⟨0, 0⟩ w3) := Lib.hid ⟨PT.keep T2.out b3, t3, HB2.out.trans (b3.mono hr)⟩
  clear t3 b3 T2 HB2
  generalize w2.heap.size = r at *
  go_wp2_with fail
  refine (pplay_any HI3.out HR.out hn HR1.out HF1.out ⟨hg, hcb, hr⟩ (by omega) (by omega)).mono ?_
  rintro e w4 ⟨rfl, ⟨q, s, hq, h4⟩, _⟩
  have HI4 := Lib.hid h4
  clear h4 HI3
  go_wp2_with fail
  refine (pclone_any HI4.out.1 hn).mono ?_
  rintro e w5 ⟨u, cu, rfl, hu, hcu, t5, p5, k5⟩
  have hg4 : g < w4.heap.size := HI4.out.1.lt
  have hc4 : cb < w4.heap.size := HI4.out.1.ltc
  have hr4 : r < w4.heap.size := RP.lt HI4.out.2.1
  have hW4 : W.heap.size ≤ w4.heap.size := HI4.out.2.2.size
  have hul : u < w5.heap.size := t5.lt
  have hcul : cu < w5.heap.size := t5.ltc
  have hw5 : w4.heap.size ≤ w5.heap.size := k5.size
  have T5 := Lib.hid t5
  have HI5 : Hid (PPl W g cb r A n c z q s w5) := Lib.hid ⟨p5, HI4.out.2.1.kp k5 (by simpa using HI4.out.ne.2.symm), k5.onto HI4.out.2.2 hW4 (by simpa using hcb)⟩
  clear t5 p5 k5 HI4
  go_wp2_with fail
  refine (rpcopy_any HI5.out.2.1).mono ?_
  rintro e w6 ⟨rfl, t6, b6⟩
  have hW5 : W.heap.size ≤ w5.heap.size := HI5.out.2.2.size
  have hB6 := HI5.out.2.2.trans (b6.mono hW5)
  have HI6 : Hid (PPl W g cb r A n c z q s w6) := Lib.hid ⟨PT.keep HI5.out.1 b6, HI5.out.2.1.keep b6 (by omega), hB6⟩
  have HJ6 : Hid (PPl W u cu w5.heap.size A n c z q s w6) := Lib.hid ⟨PT.keep T5.out b6, t6, hB6⟩
  clear t6 b6 HI5 T5 hB6
  generalize w5.heap.size = x at *
  obtain ⟨e0, e1, e2, e3⟩ := HI6.out.2.1.cells
  obtain ⟨l, p⟩ := s
  dsimp only at e0 e1 e2 e3
  have t1 : ((p : Int) == p) = true := by simp
  have t2 : ((q : Int) == q) = true := by simp
  go_wp2_with fail
  refine rg_begin (S := fun w' => w'.cell? ⟨r, 1, none⟩ = some (.int .i64 q) ∧ w'.cell? ⟨r, 3, none⟩ = some (.int .i64 p)) 24 #[false, false, false, false, false, false, false, false, false, false, false, false, false, false, false, false, false, false, false, false, false, false, false, false] (by kernel_rfl) (by kernel_rfl) (by kernel_rfl) ?_ (fun hHeld => ?_)
  · exact ⟨e1, e3⟩
  refine rg_take (i := 0) (d := some 34) (l := #[true, false, false, false, false, false, false, false, false, false, false, false, false, false, false, false, false, false, false, false, false, false, false, false]) (fuel := 23) (v := ?_) rfl (by kernel_rfl) (by kernel_rfl) (by kernel_rfl) (by kernel_rfl) (by kernel_rfl) (fun _ _ _ h => h) (by kernel_rfl) ?_ (by assumption) ?_
  rotate_left 1
  · (intro wS hSw; (try dsimp only at hSw); go_simp; try with_reducible rfl)
  try simp only [Act.put, List.setIfInBounds_toArray, List.set_cons_zero, List.set_cons_succ]
  refine rg_take (i := 1) (d := some 35) (l := #[true, true, false, false, false, false, false, false, false, false, false, false, false, false, false, false, false, false, false, false, false, false, false, false]) (fuel := 22) (v := ?_) rfl (by kernel_rfl) (by kernel_rfl) (by kernel_rfl) (by kernel_rfl) (by kernel_rfl) (fun _ _ _ h => h) (by kernel_rfl) ?_ (by assumption) ?_
  rotate_left 1
  · (intro wS hSw; (try dsimp only at hSw); go_simp; try with_reducible rfl)
  try simp only [Act.put, List.setIfInBounds_toArray, List.set_cons_zero, List.set_cons_succ]
  refine rg_take (i := 2) (d := some 36) (l := #[true, true, true, false, false, false, false, false, false, false, false, false, false, false, false, false, false, false, false, false, false, false, false, false]) (fuel := 21) (v := ?_) rfl (by kernel_rfl) (by kernel_rfl) (by kernel_rfl) (by kernel_rfl) (by kernel_rfl) (fun _ _ _ h => h) (by kernel_rfl) ?_ (by assumption) ?_
  rotate_left 1
  · (intro wS hSw; (try dsimp only at hSw); go_simp; try with_reducible rfl)
  try simp only [Act.put, List.setIfInBounds_toArray, List.set_cons_zero, List.set_cons_succ]
  refine rg_next (i := 3) (l := #[true, true, true, true, false, false, false, false, false, false, false, false, false, false, false, false, false, false, false, false, false, false, false, false]) (fuel := 20) (by kernel_rfl) rfl (by kernel_rfl) (by kernel_rfl) (fun K hK => ?_)
  go_simp
  (go_at_call 26)
  refine (pplay_any (HJ6.out.kp0 (Kp.refl _ _).drew) HR.out hn HR2.out HF2.out ⟨by omega, by omega, by omega⟩ (by omega) (by omega)).mono ?_
  rintro e w7 ⟨rfl, ⟨q7, s7, _, h7⟩, k7⟩
  have HB7 := Lib.hid h7.2.2
  have k8 : Kp [u, cu, x] w6 w7 := ((Kp.refl [u, cu, x] w6).drew).trans k7 (by simp)
  have hoff : ∀ y ∈ [u, cu, x], ∃ t cs, Blk w6 y t cs ∧ 5 ≠ t := (fun y hy => by rcases (by simpa using hy : y = u ∨ y = cu ∨ y = x) with rfl | rfl | rfl; exact HJ6.out.1.off _ (by simp); exact HJ6.out.1.off _ (by simp); exact rp_off HJ6.out.2.1 _ (by simp))
  have T7 : Hid (P0 w7 g cb n z q ⟨l, p⟩) := Lib.hid (PT.kp HI6.out.1 k8 hoff (by simp; omega) (by simp; omega))
  have R7 := Lib.hid (HI6.out.2.1.kp k8 (by simp; omega))
  clear h7 k7 k8 hoff e0 e1 e2 e3
  obtain ⟨e0, e1, e2, e3⟩ := R7.out.cells
  dsimp only at e0 e1 e2 e3
  first | (refine hK.out _ _ ?_ (fun hHeld => ?_)) | (go_wp2_with fail; refine hK.out _ _ ?_ (fun hHeld => ?_))
  · (try dsimp only); exact ⟨e1, e3⟩
  clear hK K
  try simp only [Act.put, List.setIfInBounds_toArray, List.set_cons_zero, List.set_cons_succ]
  refine rg_take (i := 4) (d := some 38) (l := #[true, true, true, true, true, false, false, false, false, false, false, false, false, false, false, false, false, false, false, false, false, false, false, false]) (fuel := 19) (v := ?_) rfl (by kernel_rfl) (by kernel_rfl) (by kernel_rfl) (by kernel_rfl) (by kernel_rfl) (fun _ _ _ h => h) (by kernel_rfl) ?_ (by assumption) ?_
  rotate_left 1
  · (intro wS hSw; (try dsimp only at hSw); go_simp; try with_reducible rfl)
  try simp only [Act.put, List.setIfInBounds_toArray, List.set_cons_zero, List.set_cons_succ]
  refine rg_take (i := 5) (d := some 39) (l := #[true, true, true, true, true, true, false, false, false, false, false, false, false, false, false, false, false, false, false, false, false, false, false, false]) (fuel := 18) (v := ?_) rfl (by kernel_rfl) (by kernel_rfl) (by kernel_rfl) (by kernel_rfl) (by kernel_rfl) (fun _ _ _ h => h) (by kernel_rfl) ?_ (by assumption) ?_
  rotate_left 1
  · (intro wS hSw; (try dsimp only at hSw); go_simp; try with_reducible rfl)
  try simp only [Act.put, List.setIfInBounds_toArray, List.set_cons_zero, List.set_cons_succ]
  refine rg_take (i := 7) (d := some 41) (l := #[true, true, true, true, true, true, false, true, false, false, false, false, false, false, false, false, false, false, false, false, false, false, false, false]) (fuel := 17) (v := ?_) rfl (by kernel_rfl) (by kernel_rfl) (by kernel_rfl) (by kernel_rfl) (by kernel_rfl) (fun _ _ _ h => h) (by kernel_rfl) ?_ (by assumption) ?_
  rotate_left 1
  · (intro wS hSw; (try dsimp only at hSw); go_simp; try with_reducible rfl)
  try simp only [Act.put, List.setIfInBounds_toArray, List.set_cons_zero, List.set_cons_succ]
  refine rg_take (i := 8) (d := some 42) (l := #[true, true, true, true, true, true, false, true, true, false, false, false, false, false, false, false, false, false, false, false, false, false, false, false]) (fuel := 16) (v := ?_) rfl (by kernel_rfl) (by kernel_rfl) (by kernel_rfl) (by kernel_rfl) (by kernel_rfl) (fun _ _ _ h => h) (by kernel_rfl) ?_ (by assumption) ?_
  rotate_left 1
  · (intro wS hSw; (try dsimp only at hSw); go_simp; try with_reducible rfl)
  try simp only [Act.put, List.setIfInBounds_toArray, List.set_cons_zero, List.set_cons_succ]
  refine rg_take (i := 9) (d := some 43) (l := #[true, true, true, true, true, true, false, true, true, true, false, false, false, false, false, false, false, false, false, false, false, false, false, false]) (fuel := 15) (v := ?_) rfl (by kernel_rfl) (by kernel_rfl) (by kernel_rfl) (by kernel_rfl) (by kernel_rfl) (fun _ _ _ h => h) (by kernel_rfl) ?_ (by assumption) ?_
  rotate_left 1
  · (intro wS hSw; (try dsimp only at hSw); go_simp; try with_reducible rfl)
  try simp only [Act.put, List.setIfInBounds_toArray, List.set_cons_zero, List.set_cons_succ]
  refine rg_take (i := 10) (d := some 44) (l := #[true, true, true, true, true, true, false, true, true, true, true, false, false, false, false, false, false, false, false, false, false, false, false, false]) (fuel := 14) (v := ?_) rfl (by kernel_rfl) (by kernel_rfl) (by kernel_rfl) (by kernel_rfl) (by kernel_rfl) (fun _ _ _ h => h) (by kernel_rfl) ?_ (by assumption) ?_
  rotate_left 1
  · (intro wS hSw; (try dsimp only at hSw); go_simp; try with_reducible rfl)
  try simp only [Act.put, List.setIfInBounds_toArray, List.set_cons_zero, List.set_cons_succ]
  refine rg_next (i := 6) (l := #[true, true, true, true, true, true, true, true, true, true, true, false, false, false, false, false, false, false, false, false, false, false, false, false]) (fuel := 13) (by kernel_rfl) rfl (by kernel_rfl) (by kernel_rfl) (fun K hK => ?_)
  go_simp
  (go_at_call 29)
  refine (ppad_v T7.out (x := p) rfl).mono ?_
  rintro e w' ⟨rfl, rfl⟩
  first | (refine hK.out _ _ ?_ (fun hHeld => ?_)) | (go_wp2_with fail; refine hK.out _ _ ?_ (fun hHeld => ?_))
  · (try dsimp only); exact ⟨e1, e3⟩
  clear hK K
  try simp only [Act.put, List.setIfInBounds_toArray, List.set_cons_zero, List.set_cons_succ]
  refine rg_take (i := 11) (d := some 45) (l := #[true, true, true, true, true, true, true, true, true, true, true, true, false, false, false, false, false, false, false, false, false, false, false, false]) (fuel := 12) (v := ?_) rfl (by kernel_rfl) (by kernel_rfl) (by kernel_rfl) (by kernel_rfl) (by kernel_rfl) (fun _ _ _ h => h) (by kernel_rfl) ?_ (by assumption) ?_
  rotate_left 1
  · (intro wS hSw; (try dsimp only at hSw); go_simp; try with_reducible rfl)
  try simp only [Act.put, List.setIfInBounds_toArray, List.set_cons_zero, List.set_cons_succ]
  refine rg_take (i := 12) (d := some 46) (l := #[true, true, true, true, true, true, true, true, true, true, true, true, true, false, false, false, false, false, false, false, false, false, false, false]) (fuel := 11) (v := ?_) rfl (by kernel_rfl) (by kernel_rfl) (by kernel_rfl) (by kernel_rfl) (by kernel_rfl) (fun _ _ _ h => h) (by kernel_rfl) ?_ (by assumption) ?_
  rotate_left 1
  · (intro wS hSw; (try dsimp only at hSw); go_simp; try with_reducible rfl)
  try simp only [Act.put, List.setIfInBounds_toArray, List.set_cons_zero, List.set_cons_succ]
  refine rg_take (i := 13) (d := some 47) (l := #[true, true, true, true, true, true, true, true, true, true, true, true, true, true, false, false, false, false, false, false, false, false, false, false]) (fuel := 10) (v := ?_) rfl (by kernel_rfl) (by kernel_rfl) (by kernel_rfl) (by kernel_rfl) (by kernel_rfl) (fun _ _ _ h => h) (by kernel_rfl) ?_ (by assumption) ?_
  rotate_left 1
  · (intro wS hSw; (try dsimp only at hSw); go_simp; try with_reducible rfl)
  try simp only [Act.put, List.setIfInBounds_toArray, List.set_cons_zero, List.set_cons_succ]
  refine rg_take (i := 14) (d := some 48) (l := #[true, true, true, true, true, true, true, true, true, true, true, true, true, true, true, false, false, false, false, false, false, false, false, false]) (fuel := 9) (v := ?_) rfl (by kernel_rfl) (by kernel_rfl) (by kernel_rfl) (by kernel_rfl) (by kernel_rfl) (fun _ _ _ h => h) (by kernel_rfl) ?_ (by assumption) ?_
  rotate_left 1
  · (intro wS hSw; (try dsimp only at hSw); go_simp; try with_reducible rfl)
  try simp only [Act.put, List.setIfInBounds_toArray, List.set_cons_zero, List.set_cons_succ]
  refine rg_take (i := 16) (d := some 50) (l := #[true, true, true, true, true, true, true, true, true, true, true, true, true, true, true, false, true, false, false, false, false, false, false, false]) (fuel := 8) (v := ?_) rfl (by kernel_rfl) (by kernel_rfl) (by kernel_rfl) (by kernel_rfl) (by kernel_rfl) (fun _ _ _ h => h) (by kernel_rfl) ?_ (by assumption) ?_
  rotate_left 1
  · (intro wS hSw; (try dsimp only at hSw); go_simp; try with_reducible rfl)
  try simp only [Act.put, List.setIfInBounds_toArray, List.set_cons_zero, List.set_cons_succ]
  refine rg_take (i := 17) (d := some 51) (l := #[true, true, true, true, true, true, true, true, true, true, true, true, true, true, true, false, true, true, false, false, false, false, false, false]) (fuel := 7) (v := ?_) rfl (by kernel_rfl) (by kernel_rfl) (by kernel_rfl) (by kernel_rfl) (by kernel_rfl) (fun _ _ _ h => h) (by kernel_rfl) ?_ (by assumption) ?_
  rotate_left 1
  · (intro wS hSw; (try dsimp only at hSw); go_simp; try with_reducible rfl)
  try simp only [Act.put, List.setIfInBounds_toArray, List.set_cons_zero, List.set_cons_succ]
  refine rg_take (i := 18) (d := some 52) (l := #[true, true, true, true, true, true, true, true, true, true, true, true, true, true, true, false, true, true, true, false, false, false, false, false]) (fuel := 6) (v := ?_) rfl (by kernel_rfl) (by kernel_rfl) (by kernel_rfl) (by kernel_rfl) (by kernel_rfl) (fun _ _ _ h => h) (by kernel_rfl) ?_ (by assumption) ?_
  rotate_left 1
  · (intro wS hSw; (try dsimp only at hSw); go_simp; try with_reducible rfl)
  try simp only [Act.put, List.setIfInBounds_toArray, List.set_cons_zero, List.set_cons_succ]
  refine rg_take (i := 19) (d := some 53) (l := #[true, true, true, true, true, true, true, true, true, true, true, true, true, true, true, false, true, true, true, true, false, false, false, false]) (fuel := 5) (v := ?_) rfl (by kernel_rfl) (by kernel_rfl) (by kernel_rfl) (by kernel_rfl) (by kernel_rfl) (fun _ _ _ h => h) (by kernel_rfl) ?_ (by assumption) ?_
  rotate_left 1
  · (intro wS hSw; (try dsimp only at hSw); go_simp; try with_reducible rfl)
  try simp only [Act.put, List.setIfInBounds_toArray, List.set_cons_zero, List.set_cons_succ]
  refine rg_take (i := 20) (d := some 54) (l := #[true, true, true, true, true, true, true, true, true, true, true, true, true, true, true, false, true, true, true, true, true, false, false, false]) (fuel := 4) (v := ?_) rfl (by kernel_rfl) (by kernel_rfl) (by kernel_rfl) (by kernel_rfl) (by kernel_rfl) (fun _ _ _ h => h) (by kernel_rfl) ?_ (by assumption) ?_
  rotate_left 1
  · (intro wS hSw; (try dsimp only at hSw); go_simp; try with_reducible rfl)
  try simp only [Act.put, List.setIfInBounds_toArray, List.set_cons_zero, List.set_cons_succ]
  refine rg_next (i := 15) (l := #[true, true, true, true, true, true, true, true, true, true, true, true, true, true, true, true, true, true, true, true, true, false, false, false]) (fuel := 3) (by kernel_rfl) rfl (by kernel_rfl) (by kernel_rfl) (fun K hK => ?_)
  go_simp
  (go_at_call 30)
  refine (ptaken_v T7.out (x := q) rfl).mono ?_
  rintro e w' ⟨rfl, rfl⟩
  first | (refine hK.out _ _ ?_ (fun hHeld => ?_)) | (go_wp2_with fail; refine hK.out _ _ ?_ (fun hHeld => ?_))
  · (try dsimp only); exact ⟨e1, e3⟩
  clear hK K
  try simp only [Act.put, List.setIfInBounds_toArray, List.set_cons_zero, List.set_cons_succ]
  refine rg_take (i := 21) (d := some 55) (l := #[true, true, true, true, true, true, true, true, true, true, true, true, true, true, true, true, true, true, true, true, true, true, false, false]) (fuel := 2) (v := ?_) rfl (by kernel_rfl) (by kernel_rfl) (by kernel_rfl) (by kernel_rfl) (by kernel_rfl) (fun _ _ _ h => h) (by kernel_rfl) ?_ (by assumption) ?_
  rotate_left 1
  · (intro wS hSw; (try dsimp only at hSw); go_simp; try with_reducible rfl)
  try simp only [Act.put, List.setIfInBounds_toArray, List.set_cons_zero, List.set_cons_succ]
  refine rg_take (i := 22) (d := some 56) (l := #[true, true, true, true, true, true, true, true, true, true, true, true, true, true, true, true, true, true, true, true, true, true, true, false]) (fuel := 1) (v := ?_) rfl (by kernel_rfl) (by kernel_rfl) (by kernel_rfl) (by kernel_rfl) (by kernel_rfl) (fun _ _ _ h => h) (by kernel_rfl) ?_ (by assumption) ?_
  rotate_left 1
  · (intro wS hSw; (try dsimp only at hSw); go_simp; try with_reducible rfl)
  try simp only [Act.put, List.setIfInBounds_toArray, List.set_cons_zero, List.set_cons_succ]
  refine rg_take (i := 23) (d := some 6) (l := #[true, true, true, true, true, true, true, true, true, true, true, true, true, true, true, true, true, true, true, true, true, true, true, true]) (fuel := 0) (v := ?_) rfl (by kernel_rfl) (by kernel_rfl) (by kernel_rfl) (by kernel_rfl) (by kernel_rfl) (fun _ _ _ h => h) (by kernel_rfl) ?_ (by assumption) ?_
  rotate_left 1
  · (intro wS hSw; (try dsimp only at hSw); go_simp; try with_reducible rfl)
  try simp only [Act.put, List.setIfInBounds_toArray, List.set_cons_zero, List.set_cons_succ]
  refine wpAnyH_done (by kernel_rfl) ?_ _
  go_wp2_with fail
  go_ret
  exact ⟨by simp, HB7.out⟩

theorem own : ownKnob Try.prog.godebug = none := by kernel_rfl
theorem laidOut : laidOutB Try.prog = true := by kernel_rfl
set_option maxRecDepth 100000 in
theorem lifted (os : Os) (started : os.Started) (H : Type) (enc : TypeId × Value → H) :
    ReturnsInHanded {} Try.checked os 7 .any (Rows.portReadsSpec.pre6 enc Try.prog Try.f7 Rows.portReadsRow.domain false) (Rows.portReadsSpec.post enc Try.prog Try.f7 false true false false) := by
  refine returnsInHanded_of_change_sized (C := Try.checked) own started (by kernel_rfl) Try.func7
    (ChangeSpec.witness6 (enc := enc) (C := Try.checked) false ⟨#[], #[.slice none 0 0, .slice none 0 0, .slice none 0 0], []⟩ 8 (by kernel_rfl) (by kernel_rfl) (by kernel_rfl) (by kernel_rfl)) ?_
  intro W base args ds gs before hval0 hW _ hsz0 _
  have hval : ∀ (j : Nat) t v, Try.f7.params[j]? = some t → args[j]? = some v → Value.okWide Try.prog W .any base t v := hval0
  have hW' := hW
  obtain ⟨p, q, hA0, hV, rfl, _, _⟩ := hW
  have hA : DataW.TrodAll enc Try.prog W 0 (fun _ => true) true Try.f7.params.toList args.toList ds p := hA0
  rw [Try.params7] at hA hval
  have hsz : (DataW.weightsEach Try.prog (Try.f7.params.toList ++ []) (ds ++ gs)).all (· ≤ reachBytes) = true := hsz0
  rw [Try.params7] at hsz
  clear hsz0
  obtain ⟨v0, vs0, d0, ds0, p0, q0, hargs, rfl, rfl, h0, r0⟩ := trodAll_cons hA
  obtain ⟨v1, vs1, d1, ds1, p1, q1, rfl, rfl, rfl, h1, r1⟩ := trodAll_cons r0
  obtain ⟨v2, vs2, d2, ds2, p2, q2, rfl, rfl, rfl, h2, r2⟩ := trodAll_cons r1
  obtain ⟨rfl, rfl, rfl⟩ := trodAll_nil r2
  obtain rfl : args = #[v0, v1, v2] := by cases args; simp_all
  obtain ⟨rfl, rfl⟩ := trodVars_none hV
  obtain ⟨A0, n0, c0, z0, rfl, g0, m0, R0, X0, N0⟩ := slice_ints_sized2 Try.underlying44 Try.underlying5 (by kernel_rfl) (hval 0 44 v0 rfl rfl) h0
  have Y0 := reach_of hsz (j := 0) (t := 44) rfl rfl Try.underlying44 (by kernel_rfl) X0
  obtain ⟨A1, n1, c1, z1, rfl, g1, m1, R1, F1⟩ := slice_bi Try.underlying45 Try.underlying61 (by kernel_rfl) (by kernel_rfl) Try.underlying4 Try.underlying5 (hval 1 45 v1 rfl rfl) h1
  obtain ⟨A2, n2, c2, z2, rfl, g2, m2, R2, F2⟩ := slice_bi Try.underlying45 Try.underlying61 (by kernel_rfl) (by kernel_rfl) Try.underlying4 Try.underlying5 (hval 2 45 v2 rfl rfl) h2
  clear hA0 hval0
  refine (walk A0 n0 c0 z0 g0 m0 R0 N0 Y0 A1 n1 c1 z1 g1 m1 R1 F1 A2 n2 c2 z2 g2 m2 R2 F2).mono fun e W' ⟨he, hg⟩ => ?_
  subst he
  exact ⟨_, rfl, law_post rfl Try.underlying4 laidOut (by kernel_rfl) rfl hW' rfl hg⟩

theorem over : Rows.portReadsRow.holds Try.pinned (OpenSpec.ofChange Rows.portReadsSpec) :=
  OpenClaim.holds_of_wide 7 Try.f7 rfl rfl rfl rfl rfl rfl rfl ⟨rfl, rfl, rfl, rfl, rfl⟩ rfl rfl rfl rfl rfl (by kernel_rfl) Try.func7 (by kernel_rfl)
    (of_decide_eq_true (by kernel_rfl)) (by unfold Func.isWrapper; first | (rw [if_pos (by decide +kernel)]; kernel_rfl) | (rw [if_neg (by decide +kernel)]; exact ⟨rfl, rfl⟩))
    (fun os started H enc _ => lifted os started H enc)

theorem proved : Rows.PortReadsSaid := over
#print axioms proved
end Go.Proofs.Ytbdmpgpdnnjmpaa.portReads
