/-
  For every input LinesGo returns true, and each argument reads behind the call as it read before. No conditions.
-/
import Derived.Test.YtjedlldmmnacbaaRows
import Derived.Test.YtjedlldmmnacbaaG3
import Derived.Test.YtjedlldmmnacbaaLin9
import Derived.Test.YtjedlldmmnacbaaG14
import Derived.Deep.Cut
import Derived.Deep.CutRange
import Derived.Deep.RegionHeld3
import Derived.Deep.RegionWith
import Derived.RegionTactic
import Derived.BigRegion
import Derived.LoopTactic
namespace Go.Proofs.Ytjedlldmmnacbaa.linesGo
open Go.ChangeShapes Go.WideShapes Go.ChangeAt Go.RowKit
open Go.ChangeMaps (open_string)

set_option linter.unusedVariables false
set_option linter.unusedSimpArgs false
theorem good_of {n : Nat} {es : Nat → Iib} (h : (chk es n).1 = 0) (F : ∀ i, i < n → (Lit.int .i64 (es i).a).wf = true ∧ (Lit.int .u8 (es i).b).wf = true) : Good n es :=
  ⟨(chk_zero h).1, (chk_zero h).2.1, fun j hj => (bounds_u8 (F j hj).2).1⟩
set_option maxRecDepth 100000 in
set_option maxHeartbeats 8000000 in
theorem walk {W : World} (A : Option Addr) (n c : Nat) (es : Nat → Iib) (hnc : n ≤ c) (hm : c ≤ maxLen) (R : FRow W 3 A n (fun i => iibV .i64 .u8 (es i))) (F : ∀ i, i < n → (Lit.int .i64 (es i).a).wf = true ∧ (Lit.int .u8 (es i).b).wf = true) (N : A = none → n = 0 ∧ c = 0) (A1 : Option Addr) (n1 c1 : Nat) (z1 : Nat → Int × Bool) (hnc1 : n1 ≤ c1) (hm1 : c1 ≤ maxLen) (R1 : FRow W 2 A1 n1 (fun i => ibV .i64 (z1 i))) (A2 : Option Addr) (n2 c2 : Nat) (z2 : Nat → Int × Bool) (hnc2 : n2 ≤ c2) (hm2 : c2 ≤ maxLen) (R2 : FRow W 2 A2 n2 (fun i => ibV .i64 (z2 i))) :
    Calls Try.prog 5 #[.slice A n c, .slice A1 n1 c1, .slice A2 n2 c2] W fun e w' => e = .returned (.bool true) ∧ Below W.heap.size W w' := by
  unfold maxLen at hm hm1 hm2
  have HR : Hid (ERow W A n es) := Lib.hid R
  have HR1 := Lib.hid R1
  have HR2 := Lib.hid R2
  have HN := Lib.hid N
  have HF := Lib.hid F
  have hn : n ≤ 9223372036854775807 := by omega
  have hfd := fieldF
  clear R F N R1 R2
  by_cases g0 : 60 < n
  · have i0 : (60 : Int) < n := by omega
    go_enter Try.func5, Try.ntmps5
    go_wp2_with (go_at_call 11; refine (liveN_any _).mono ?_; rintro e w1 ⟨rfl, hB⟩)
    go_ret
    exact ⟨rfl, hB⟩
  have i0 : ¬ (60 : Int) < n := by omega
  by_cases g1 : 40 < n1
  · have i1 : (40 : Int) < n1 := by omega
    go_enter Try.func5, Try.ntmps5
    go_wp2_with (go_at_call 11; refine (liveN_any _).mono ?_; rintro e w1 ⟨rfl, hB⟩)
    go_ret
    exact ⟨rfl, hB⟩
  have i1 : ¬ (40 : Int) < n1 := by omega
  by_cases g2 : 40 < n2
  · have i2 : (40 : Int) < n2 := by omega
    go_enter Try.func5, Try.ntmps5
    go_wp2_with (go_at_call 11; refine (liveN_any _).mono ?_; rintro e w1 ⟨rfl, hB⟩)
    go_ret
    exact ⟨rfl, hB⟩
  have i2 : ¬ (40 : Int) < n2 := by omega
  obtain ⟨⟨a, b⟩, hr⟩ : ∃ r, chk es n = r := ⟨_, rfl⟩
  have HC := Lib.hid hr
  have hz : a = 0 → b = 0 := fun h => by
    have := (chk_zero (es := es) (n := n) (by rw [hr]; exact h)).2.2
    rw [hr] at this
    exact (Prod.mk.inj this).2
  have HZ := Lib.hid hz
  clear hr hz
  go_enter Try.func5, Try.ntmps5
  go_wp2_with fail
  refine (liveN_any _).mono ?_
  rintro e w1 ⟨rfl, hB1⟩
  have HB1 := Lib.hid hB1
  clear hB1
  go_wp2_with fail
  by_cases h0 : a = 0
  · obtain rfl := h0
    obtain rfl := HZ.out rfl
    have hgood : Good n es := good_of (by rw [HC.out]) HF.out
    have HGo := Lib.hid hgood
    refine (lnew_yes HN.out (FRow.keep HR.out HB1.out) hn (by rw [HC.out])).mono ?_
    rintro e w4 ⟨g, rfl, hg, h4, b4⟩
    have HB4 := Lib.hid (HB1.out.trans (b4.mono HB1.out.size))
    have H4 := Lib.hid h4
    have hWg : W.heap.size ≤ g := by have := HB1.out.size; omega
    clear h4 b4 HB1 hgood hg
    go_wp2_with fail
    have hB5 : Below w4.heap.size w4 (w4.alloc (.cells #[.int .i64 0, .int .i64 0] 26)) := (Below.refl _ _).alloc (Nat.le_refl _) _
    have HB5 := Lib.hid (HB4.out.trans (hB5.mono HB4.out.size))
    have H5 := Lib.hid (H4.out.keep hB5)
    clear HB4 H4 hB5
    generalize w4.alloc _ = w5 at *
    refine (rcheck_any (FRow.keep HR.out HB5.out) hn).mono ?_
    rw [HC.out]
    simp only [fltV]
    rintro e w6 ⟨rfl, h6⟩
    have HB6 := Lib.hid (HB5.out.trans (h6.mono HB5.out.size))
    have H6 := Lib.hid (H5.out.keep h6)
    clear h6 HB5 H5
    go_wp2_with fail
    have hB7 : Below w6.heap.size w6 (w6.alloc (.cells (rlC A n c 0 false) 36)) := (Below.refl _ _).alloc (Nat.le_refl _) _
    have HI7 : Hid (LPlayI W g w6.heap.size n c 0 A es false (w6.alloc (.cells (rlC A n c 0 false) 36))) := Lib.hid ⟨H6.out.keep hB7, Blk.new w6 _ _, HB6.out.trans (hB7.mono HB6.out.size)⟩
    have hWr : W.heap.size ≤ w6.heap.size := HB6.out.size
    clear hB7 HB6 H6
    unfold rlC at HI7
    generalize w6.alloc _ = w7 at *
    generalize w6.heap.size = r at *
    refine (lplay_any HI7.out HGo.out HR.out HR1.out ⟨hWg, hWr⟩ (by omega)).mono ?_
    rintro e w8 ⟨rfl, ⟨s, ro, h8⟩, _⟩
    have HI8 := Lib.hid h8
    clear h8 HI7
    go_wp2_with fail
    refine (clone_any HI8.out.1).mono ?_
    rintro e w9 ⟨rfl, t9, b9⟩
    have hB9 := HI8.out.2.2.trans (b9.mono HI8.out.2.2.size)
    have HI9 : Hid (LPlayI W g r n c s A es ro w9) := Lib.hid ⟨HI8.out.1.keep b9, HI8.out.2.1.below b9 HI8.out.2.1.lt, hB9⟩
    have HT9 := Lib.hid t9
    have hg9 : g < w8.heap.size := HI8.out.1.lt
    have hr9 : r < w8.heap.size := HI8.out.2.1.lt
    have hW8 : W.heap.size ≤ w8.heap.size := HI8.out.2.2.size
    have h89 : w8.heap.size < w9.heap.size := t9.lt
    clear t9 b9 hB9 HI8
    generalize w8.heap.size = g2 at *
    go_wp2_with fail
    refine (rlcopy_any HI9.out.2.1).mono ?_
    rintro e w10 ⟨rfl, x10, b10⟩
    have hB10 := HI9.out.2.2.trans (b10.mono HI9.out.2.2.size)
    have HI10 : Hid (LPlayI W g r n c s A es ro w10) := Lib.hid ⟨HI9.out.1.keep b10, HI9.out.2.1.below b10 HI9.out.2.1.lt, hB10⟩
    have HJ10 : Hid (LPlayI W g2 w9.heap.size n c s A es ro w10) := Lib.hid ⟨HT9.out.keep b10, x10, hB10⟩
    have hr2 : W.heap.size ≤ w9.heap.size := by omega
    have hgr : g ∉ [g2, w9.heap.size] ∧ r ∉ [g2, w9.heap.size] := by simp; omega
    have HGR := Lib.hid hgr
    clear x10 b10 hB10 HI9 HT9 h89 hgr
    generalize w9.heap.size = r2 at *
    have c1 : w10.cell? ⟨r, 1, none⟩ = some (.int .i64 s) := HI10.out.2.1.cell 1
    have c2 : w10.cell? ⟨r, 2, none⟩ = some (.bool ro) := HI10.out.2.1.cell 2
    have ts : ((s : Int) == s) = true := by simp
    have tr : (ro == ro) = true := by simp
    go_wp2_with fail
    have HOFF : Hid (∀ x ∈ [g2, r2], ∃ t cs, Blk w10 x t cs ∧ 65 ≠ t) := Lib.hid fun x hx => by
      have hx' : x = g2 ∨ x = r2 := by simpa using hx
      rcases hx' with rfl | rfl
      · obtain ⟨⟨_, _, _, q, _⟩, _⟩ := HJ10.out
        exact ⟨_, _, q, by decide⟩
      · exact ⟨_, _, HJ10.out.2.1, by decide⟩
    have HJ11 : Hid (LPlayI W g2 r2 n c s A es ro w10.drew) := Lib.hid (HJ10.out.kp0 (Kp.refl _ _).drew)
    refine rg_begin (S := fun w' => w'.cell? ⟨r, 1, none⟩ = some (.int .i64 s) ∧ w'.cell? ⟨r, 2, none⟩ = some (.bool ro)) 23 #[false, false, false, false, false, false, false, false, false, false, false, false, false, false, false, false, false, false, false, false, false, false, false] (by kernel_rfl) (by kernel_rfl) (by kernel_rfl) ?_ (fun hHeld => ?_)
    · exact ⟨c1, c2⟩
    refine rg_take (i := 0) (d := some 55) (l := #[true, false, false, false, false, false, false, false, false, false, false, false, false, false, false, false, false, false, false, false, false, false, false]) (fuel := 22) (v := ?_) rfl (by kernel_rfl) (by kernel_rfl) (by kernel_rfl) (by kernel_rfl) (by kernel_rfl) (fun _ _ _ h => h) (by kernel_rfl) ?_ (by assumption) ?_
    rotate_left 1
    · (intro wS hSw; (try dsimp only at hSw); go_simp; try with_reducible rfl)
    try simp only [Act.put, List.setIfInBounds_toArray, List.set_cons_zero, List.set_cons_succ]
    refine rg_take (i := 1) (d := some 56) (l := #[true, true, false, false, false, false, false, false, false, false, false, false, false, false, false, false, false, false, false, false, false, false, false]) (fuel := 21) (v := ?_) rfl (by kernel_rfl) (by kernel_rfl) (by kernel_rfl) (by kernel_rfl) (by kernel_rfl) (fun _ _ _ h => h) (by kernel_rfl) ?_ (by assumption) ?_
    rotate_left 1
    · (intro wS hSw; (try dsimp only at hSw); go_simp; try with_reducible rfl)
    try simp only [Act.put, List.setIfInBounds_toArray, List.set_cons_zero, List.set_cons_succ]
    refine rg_take (i := 2) (d := some 57) (l := #[true, true, true, false, false, false, false, false, false, false, false, false, false, false, false, false, false, false, false, false, false, false, false]) (fuel := 20) (v := ?_) rfl (by kernel_rfl) (by kernel_rfl) (by kernel_rfl) (by kernel_rfl) (by kernel_rfl) (fun _ _ _ h => h) (by kernel_rfl) ?_ (by assumption) ?_
    rotate_left 1
    · (intro wS hSw; (try dsimp only at hSw); go_simp; try with_reducible rfl)
    try simp only [Act.put, List.setIfInBounds_toArray, List.set_cons_zero, List.set_cons_succ]
    refine rg_next (i := 3) (l := #[true, true, true, true, false, false, false, false, false, false, false, false, false, false, false, false, false, false, false, false, false, false, false]) (fuel := 19) (by kernel_rfl) rfl (by kernel_rfl) (by kernel_rfl) (fun K hK => ?_)
    go_simp
    (go_at_call 17)
    refine (lplay_any (w := w10.drew) HJ11.out HGo.out HR.out HR2.out ⟨hW8, hr2⟩ (by omega)).mono ?_
    rintro e wx ⟨rfl, ⟨s2, ro2, xi⟩, xk⟩
    have XK : Hid (Kp [g2, r2] w10 wx) := Lib.hid ((Kp.refl _ _).drew.trans xk (fun x hx => .inl hx))
    have XB : Hid (Below W.heap.size W wx) := Lib.hid xi.2.2
    have XL : Hid (LN wx g n es s ro) := Lib.hid (HI10.out.1.kp XK.out HOFF.out HGR.out.1)
    have XR : Hid (Blk wx r 36 (rlC A n c s ro)) := Lib.hid (HI10.out.2.1.kp XK.out HGR.out.2)
    clear xi xk
    first | (refine hK.out _ _ ?_ (fun hHeld => ?_)) | (go_wp2_with fail; refine hK.out _ _ ?_ (fun hHeld => ?_))
    · (try dsimp only); exact ⟨XR.out.cell 1, XR.out.cell 2⟩
    clear hK K
    try simp only [Act.put, List.setIfInBounds_toArray, List.set_cons_zero, List.set_cons_succ]
    refine rg_take (i := 4) (d := some 59) (l := #[true, true, true, true, true, false, false, false, false, false, false, false, false, false, false, false, false, false, false, false, false, false, false]) (fuel := 18) (v := ?_) rfl (by kernel_rfl) (by kernel_rfl) (by kernel_rfl) (by kernel_rfl) (by kernel_rfl) (fun _ _ _ h => h) (by kernel_rfl) ?_ (by assumption) ?_
    rotate_left 1
    · (intro wS hSw; (try dsimp only at hSw); go_simp; try with_reducible rfl)
    try simp only [Act.put, List.setIfInBounds_toArray, List.set_cons_zero, List.set_cons_succ]
    refine rg_take (i := 5) (d := some 60) (l := #[true, true, true, true, true, true, false, false, false, false, false, false, false, false, false, false, false, false, false, false, false, false, false]) (fuel := 17) (v := ?_) rfl (by kernel_rfl) (by kernel_rfl) (by kernel_rfl) (by kernel_rfl) (by kernel_rfl) (fun _ _ _ h => h) (by kernel_rfl) ?_ (by assumption) ?_
    rotate_left 1
    · (intro wS hSw; (try dsimp only at hSw); go_simp; try with_reducible rfl)
    try simp only [Act.put, List.setIfInBounds_toArray, List.set_cons_zero, List.set_cons_succ]
    refine rg_take (i := 7) (d := some 62) (l := #[true, true, true, true, true, true, false, true, false, false, false, false, false, false, false, false, false, false, false, false, false, false, false]) (fuel := 16) (v := ?_) rfl (by kernel_rfl) (by kernel_rfl) (by kernel_rfl) (by kernel_rfl) (by kernel_rfl) (fun _ _ _ h => h) (by kernel_rfl) ?_ (by assumption) ?_
    rotate_left 1
    · (intro wS hSw; (try dsimp only at hSw); go_simp; try with_reducible rfl)
    try simp only [Act.put, List.setIfInBounds_toArray, List.set_cons_zero, List.set_cons_succ]
    refine rg_take (i := 8) (d := some 63) (l := #[true, true, true, true, true, true, false, true, true, false, false, false, false, false, false, false, false, false, false, false, false, false, false]) (fuel := 15) (v := ?_) rfl (by kernel_rfl) (by kernel_rfl) (by kernel_rfl) (by kernel_rfl) (by kernel_rfl) (fun _ _ _ h => h) (by kernel_rfl) ?_ (by assumption) ?_
    rotate_left 1
    · (intro wS hSw; (try dsimp only at hSw); go_simp; try with_reducible rfl)
    try simp only [Act.put, List.setIfInBounds_toArray, List.set_cons_zero, List.set_cons_succ]
    refine rg_take (i := 9) (d := some 64) (l := #[true, true, true, true, true, true, false, true, true, true, false, false, false, false, false, false, false, false, false, false, false, false, false]) (fuel := 14) (v := ?_) rfl (by kernel_rfl) (by kernel_rfl) (by kernel_rfl) (by kernel_rfl) (by kernel_rfl) (fun _ _ _ h => h) (by kernel_rfl) ?_ (by assumption) ?_
    rotate_left 1
    · (intro wS hSw; (try dsimp only at hSw); go_simp; try with_reducible rfl)
    try simp only [Act.put, List.setIfInBounds_toArray, List.set_cons_zero, List.set_cons_succ]
    refine rg_take (i := 10) (d := some 65) (l := #[true, true, true, true, true, true, false, true, true, true, true, false, false, false, false, false, false, false, false, false, false, false, false]) (fuel := 13) (v := ?_) rfl (by kernel_rfl) (by kernel_rfl) (by kernel_rfl) (by kernel_rfl) (by kernel_rfl) (fun _ _ _ h => h) (by kernel_rfl) ?_ (by assumption) ?_
    rotate_left 1
    · (intro wS hSw; (try dsimp only at hSw); go_simp; try with_reducible rfl)
    try simp only [Act.put, List.setIfInBounds_toArray, List.set_cons_zero, List.set_cons_succ]
    refine rg_next (i := 6) (l := #[true, true, true, true, true, true, true, true, true, true, true, false, false, false, false, false, false, false, false, false, false, false, false]) (fuel := 12) (by kernel_rfl) rfl (by kernel_rfl) (by kernel_rfl) (fun K hK => ?_)
    go_simp
    (go_at_call 20)
    refine (seen_any XL.out).mono ?_
    rintro e w' ⟨rfl, rfl⟩
    first | (refine hK.out _ _ ?_ (fun hHeld => ?_)) | (go_wp2_with fail; refine hK.out _ _ ?_ (fun hHeld => ?_))
    · (try dsimp only); exact ⟨XR.out.cell 1, XR.out.cell 2⟩
    clear hK K
    try simp only [Act.put, List.setIfInBounds_toArray, List.set_cons_zero, List.set_cons_succ]
    refine rg_take (i := 11) (d := some 66) (l := #[true, true, true, true, true, true, true, true, true, true, true, true, false, false, false, false, false, false, false, false, false, false, false]) (fuel := 11) (v := ?_) rfl (by kernel_rfl) (by kernel_rfl) (by kernel_rfl) (by kernel_rfl) (by kernel_rfl) (fun _ _ _ h => h) (by kernel_rfl) ?_ (by assumption) ?_
    rotate_left 1
    · (intro wS hSw; (try dsimp only at hSw); go_simp; try with_reducible rfl)
    try simp only [Act.put, List.setIfInBounds_toArray, List.set_cons_zero, List.set_cons_succ]
    refine rg_take (i := 12) (d := some 67) (l := #[true, true, true, true, true, true, true, true, true, true, true, true, true, false, false, false, false, false, false, false, false, false, false]) (fuel := 10) (v := ?_) rfl (by kernel_rfl) (by kernel_rfl) (by kernel_rfl) (by kernel_rfl) (by kernel_rfl) (fun _ _ _ h => h) (by kernel_rfl) ?_ (by assumption) ?_
    rotate_left 1
    · (intro wS hSw; (try dsimp only at hSw); go_simp; try with_reducible rfl)
    try simp only [Act.put, List.setIfInBounds_toArray, List.set_cons_zero, List.set_cons_succ]
    refine rg_take (i := 13) (d := some 68) (l := #[true, true, true, true, true, true, true, true, true, true, true, true, true, true, false, false, false, false, false, false, false, false, false]) (fuel := 9) (v := ?_) rfl (by kernel_rfl) (by kernel_rfl) (by kernel_rfl) (by kernel_rfl) (by kernel_rfl) (fun _ _ _ h => h) (by kernel_rfl) ?_ (by assumption) ?_
    rotate_left 1
    · (intro wS hSw; (try dsimp only at hSw); go_simp; try with_reducible rfl)
    try simp only [Act.put, List.setIfInBounds_toArray, List.set_cons_zero, List.set_cons_succ]
    refine rg_take (i := 14) (d := some 69) (l := #[true, true, true, true, true, true, true, true, true, true, true, true, true, true, true, false, false, false, false, false, false, false, false]) (fuel := 8) (v := ?_) rfl (by kernel_rfl) (by kernel_rfl) (by kernel_rfl) (by kernel_rfl) (by kernel_rfl) (fun _ _ _ h => h) (by kernel_rfl) ?_ (by assumption) ?_
    rotate_left 1
    · (intro wS hSw; (try dsimp only at hSw); go_simp; try with_reducible rfl)
    try simp only [Act.put, List.setIfInBounds_toArray, List.set_cons_zero, List.set_cons_succ]
    refine rg_take (i := 16) (d := some 71) (l := #[true, true, true, true, true, true, true, true, true, true, true, true, true, true, true, false, true, false, false, false, false, false, false]) (fuel := 7) (v := ?_) rfl (by kernel_rfl) (by kernel_rfl) (by kernel_rfl) (by kernel_rfl) (by kernel_rfl) (fun _ _ _ h => h) (by kernel_rfl) ?_ (by assumption) ?_
    rotate_left 1
    · (intro wS hSw; (try dsimp only at hSw); go_simp; try with_reducible rfl)
    try simp only [Act.put, List.setIfInBounds_toArray, List.set_cons_zero, List.set_cons_succ]
    refine rg_take (i := 17) (d := some 72) (l := #[true, true, true, true, true, true, true, true, true, true, true, true, true, true, true, false, true, true, false, false, false, false, false]) (fuel := 6) (v := ?_) rfl (by kernel_rfl) (by kernel_rfl) (by kernel_rfl) (by kernel_rfl) (by kernel_rfl) (fun _ _ _ h => h) (by kernel_rfl) ?_ (by assumption) ?_
    rotate_left 1
    · (intro wS hSw; (try dsimp only at hSw); go_simp; try with_reducible rfl)
    try simp only [Act.put, List.setIfInBounds_toArray, List.set_cons_zero, List.set_cons_succ]
    refine rg_take (i := 18) (d := some 73) (l := #[true, true, true, true, true, true, true, true, true, true, true, true, true, true, true, false, true, true, true, false, false, false, false]) (fuel := 5) (v := ?_) rfl (by kernel_rfl) (by kernel_rfl) (by kernel_rfl) (by kernel_rfl) (by kernel_rfl) (fun _ _ _ h => h) (by kernel_rfl) ?_ (by assumption) ?_
    rotate_left 1
    · (intro wS hSw; (try dsimp only at hSw); go_simp; try with_reducible rfl)
    try simp only [Act.put, List.setIfInBounds_toArray, List.set_cons_zero, List.set_cons_succ]
    refine rg_take (i := 19) (d := some 74) (l := #[true, true, true, true, true, true, true, true, true, true, true, true, true, true, true, false, true, true, true, true, false, false, false]) (fuel := 4) (v := ?_) rfl (by kernel_rfl) (by kernel_rfl) (by kernel_rfl) (by kernel_rfl) (by kernel_rfl) (fun _ _ _ h => h) (by kernel_rfl) ?_ (by assumption) ?_
    rotate_left 1
    · (intro wS hSw; (try dsimp only at hSw); go_simp; try with_reducible rfl)
    try simp only [Act.put, List.setIfInBounds_toArray, List.set_cons_zero, List.set_cons_succ]
    refine rg_next (i := 15) (l := #[true, true, true, true, true, true, true, true, true, true, true, true, true, true, true, true, true, true, true, true, false, false, false]) (fuel := 3) (by kernel_rfl) rfl (by kernel_rfl) (by kernel_rfl) (fun K hK => ?_)
    go_simp
    (go_at_call 21)
    refine (rose_any XL.out).mono ?_
    rintro e w' ⟨rfl, rfl⟩
    first | (refine hK.out _ _ ?_ (fun hHeld => ?_)) | (go_wp2_with fail; refine hK.out _ _ ?_ (fun hHeld => ?_))
    · (try dsimp only); exact ⟨XR.out.cell 1, XR.out.cell 2⟩
    clear hK K
    try simp only [Act.put, List.setIfInBounds_toArray, List.set_cons_zero, List.set_cons_succ]
    refine rg_take (i := 20) (d := some 75) (l := #[true, true, true, true, true, true, true, true, true, true, true, true, true, true, true, true, true, true, true, true, true, false, false]) (fuel := 2) (v := ?_) rfl (by kernel_rfl) (by kernel_rfl) (by kernel_rfl) (by kernel_rfl) (by kernel_rfl) (fun _ _ _ h => h) (by kernel_rfl) ?_ (by assumption) ?_
    rotate_left 1
    · (intro wS hSw; (try dsimp only at hSw); go_simp; try with_reducible rfl)
    try simp only [Act.put, List.setIfInBounds_toArray, List.set_cons_zero, List.set_cons_succ]
    refine rg_take (i := 21) (d := some 76) (l := #[true, true, true, true, true, true, true, true, true, true, true, true, true, true, true, true, true, true, true, true, true, true, false]) (fuel := 1) (v := ?_) rfl (by kernel_rfl) (by kernel_rfl) (by kernel_rfl) (by kernel_rfl) (by kernel_rfl) (fun _ _ _ h => h) (by kernel_rfl) ?_ (by assumption) ?_
    rotate_left 1
    · (intro wS hSw; (try dsimp only at hSw); go_simp; try with_reducible rfl)
    try simp only [Act.put, List.setIfInBounds_toArray, List.set_cons_zero, List.set_cons_succ]
    refine rg_take (i := 22) (d := some 6) (l := #[true, true, true, true, true, true, true, true, true, true, true, true, true, true, true, true, true, true, true, true, true, true, true]) (fuel := 0) (v := ?_) rfl (by kernel_rfl) (by kernel_rfl) (by kernel_rfl) (by kernel_rfl) (by kernel_rfl) (fun _ _ _ h => h) (by kernel_rfl) ?_ (by assumption) ?_
    rotate_left 1
    · (intro wS hSw; (try dsimp only at hSw); go_simp; try with_reducible rfl)
    try simp only [Act.put, List.setIfInBounds_toArray, List.set_cons_zero, List.set_cons_succ]
    refine wpAnyH_done (by kernel_rfl) ?_ _
    go_wp2_with fail
    go_ret
    exact ⟨by simp, XB.out⟩
  · have hne : (a != 0) = true := by simpa using h0
    refine (lnew_no (FRow.keep HR.out HB1.out) hn (by rw [HC.out]; exact h0)).mono ?_
    rw [HC.out]
    rintro e w4 ⟨rfl, b4⟩
    have HB4 := Lib.hid (HB1.out.trans (b4.mono HB1.out.size))
    clear b4 HB1
    go_wp2_with fail
    have HB5 := Lib.hid (HB4.out.alloc HB4.out.size (.cells #[.int .i64 a, .int .i64 b] 26))
    have HF5 := Lib.hid (Blk.new w4 26 #[.int .i64 a, .int .i64 b])
    clear HB4
    generalize w4.alloc _ = w5 at *
    generalize w4.heap.size = g5 at *
    refine (rcheck_any (FRow.keep HR.out HB5.out) hn).mono ?_
    rw [HC.out]
    simp only [fltV]
    rintro e w6 ⟨rfl, h6⟩
    have HB6 := Lib.hid (HB5.out.trans (h6.mono HB5.out.size))
    have hf6 := HF5.out.below h6 HF5.out.lt
    have c0 : w6.cell? ⟨g5, 0, none⟩ = some (.int .i64 a) := hf6.cell 0
    clear h6 hf6 HB5 HF5
    go_wp2_with fail
    go_ret
    exact ⟨by simp, HB6.out⟩

theorem own : ownKnob Try.prog.godebug = none := by kernel_rfl
theorem laidOut : laidOutB Try.prog = true := by kernel_rfl
set_option maxRecDepth 100000 in
theorem lifted (os : Os) (started : os.Started) (H : Type) (enc : TypeId × Value → H) :
    ReturnsInHanded {} Try.checked os 5 .any (Rows.linesGoSpec.pre6 enc Try.prog Try.f5 Rows.linesGoRow.domain false) (Rows.linesGoSpec.post enc Try.prog Try.f5 false true false false) := by
  refine returnsInHanded_of_change (C := Try.checked) own started (by kernel_rfl) Try.func5
    (ChangeSpec.witness6 (enc := enc) (C := Try.checked) false ⟨#[], #[.slice none 0 0, .slice none 0 0, .slice none 0 0], []⟩ 8 (by kernel_rfl) (by kernel_rfl) (by kernel_rfl) (by kernel_rfl)) ?_
  intro W base args ds gs before hval0 hW _ _
  have hval : ∀ (j : Nat) t v, Try.f5.params[j]? = some t → args[j]? = some v → Value.okWide Try.prog W .any base t v := hval0
  have hW' := hW
  obtain ⟨p, q, hA0, hV, rfl, _, _⟩ := hW
  have hA : DataW.TrodAll enc Try.prog W 0 (fun _ => true) true Try.f5.params.toList args.toList ds p := hA0
  rw [Try.params5] at hA hval
  obtain ⟨v0, vs0, d0, ds0, p0, q0, hargs, rfl, rfl, h0, r0⟩ := trodAll_cons hA
  obtain ⟨v1, vs1, d1, ds1, p1, q1, rfl, rfl, rfl, h1, r1⟩ := trodAll_cons r0
  obtain ⟨v2, vs2, d2, ds2, p2, q2, rfl, rfl, rfl, h2, r2⟩ := trodAll_cons r1
  obtain ⟨rfl, rfl, rfl⟩ := trodAll_nil r2
  obtain rfl : args = #[v0, v1, v2] := by cases args; simp_all
  obtain ⟨rfl, rfl⟩ := trodVars_none hV
  obtain ⟨A0, n0, c0, z0, rfl, g0, m0, R0, F0, N0⟩ := slice_iib Try.underlying22 Try.underlying65 (by kernel_rfl) (by kernel_rfl) Try.underlying2 Try.underlying5 Try.underlying4 (hval 0 22 v0 rfl rfl) h0
  obtain ⟨A1, n1, c1, z1, rfl, g1, m1, R1, F1⟩ := slice_ib Try.underlying33 Try.underlying74 (by kernel_rfl) (by kernel_rfl) Try.underlying2 Try.underlying4 (hval 1 33 v1 rfl rfl) h1
  obtain ⟨A2, n2, c2, z2, rfl, g2, m2, R2, F2⟩ := slice_ib Try.underlying33 Try.underlying74 (by kernel_rfl) (by kernel_rfl) Try.underlying2 Try.underlying4 (hval 2 33 v2 rfl rfl) h2
  clear hA0 hval0
  refine (walk A0 n0 c0 z0 g0 m0 R0 F0 N0 A1 n1 c1 z1 g1 m1 R1 A2 n2 c2 z2 g2 m2 R2).mono fun e W' ⟨he, hg⟩ => ?_
  subst he
  exact ⟨_, rfl, law_post rfl Try.underlying4 laidOut (by kernel_rfl) rfl hW' rfl hg⟩

theorem over : Rows.linesGoRow.holds Try.pinned (OpenSpec.ofChange Rows.linesGoSpec) :=
  OpenClaim.holds_of_wide 5 Try.f5 rfl rfl rfl rfl rfl rfl rfl ⟨rfl, rfl, rfl, rfl, rfl⟩ rfl rfl rfl rfl rfl (by kernel_rfl) Try.func5 (by kernel_rfl)
    (of_decide_eq_true (by kernel_rfl)) (by unfold Func.isWrapper; first | (rw [if_pos (by decide +kernel)]; kernel_rfl) | (rw [if_neg (by decide +kernel)]; exact ⟨rfl, rfl⟩))
    (fun os started H enc _ => lifted os started H enc)

theorem proved : Rows.LinesGoSaid := over
#print axioms proved
end Go.Proofs.Ytjedlldmmnacbaa.linesGo
