/-
  Texts of these proofs, one behind the other: Rb16, Rb13, Fk4.
-/
import Derived.Test.YtleofglnlfpoeaaGreatKBP42
import Derived.Deep.Cut
import Derived.Deep.CutRange
import Derived.Deep.CutBlock
import Derived.Deep.RegionHeld3
import Derived.Test.YtleofglnlfpoeaaGreatKBP41
import Derived.BigQuiet
import Derived.WalkSmall
import Derived.Deep.QuietTactic
import Derived.Test.YtleofglnlfpoeaaGreatKBP05
namespace Go.Proofs.YtleofglnlfpoeaaGreat
open Go.RowKit
set_option linter.unusedVariables false
set_option linter.unusedSimpArgs false
set_option maxRecDepth 100000
theorem rbcopy_cells {W w w' : World} {g : Nat} {d : Hd} {Q : Rbp} {s : Bs} {nx : Bool} {e : Ending} (h : RbCopyR W g d Q s nx w e w') :
    w'.cell? ⟨g, 0, none⟩ = some (.slice Q.A s.rn Q.ca) ∧ w'.cell? ⟨g, 1, none⟩ = some (.slice (some ⟨Q.m, 0, none⟩) 8192 Q.mc) ∧ w'.cell? ⟨g, 2, none⟩ = some (.pointer (some ⟨Q.p, 0, none⟩)) ∧ w'.cell? ⟨g, 3, none⟩ = some (.pointer (some ⟨Q.c, 0, none⟩)) ∧ w'.cell? ⟨g, 4, none⟩ = some (.int .i64 s.left) ∧ w'.cell? ⟨g, 5, none⟩ = some (.bool s.over) ∧ w'.cell? ⟨g, 6, none⟩ = some Q.tr := by
  obtain ⟨_, _, _, _, h0, _⟩ := h
  exact h0.cells
set_option maxHeartbeats 32000000 in
theorem rbcopy_any {W w : World} {g : Nat} {d : Hd} {Q : Rbp} {s : Bs} {nx : Bool} (h : RBU W w g d Q s nx) (hf : ∀ i, i < 8192 → 0 ≤ s.f i ∧ s.f i ≤ 255) (hn : s.tl.length ≤ 1000000) :
    Calls Tryz.prog 13 #[.pointer (some ⟨g, 0, none⟩)] w (RbCopyR W g d Q s nx w) := by
  have HF := Lib.hid hf
  have HN := Lib.hid hn
  have sx := Lib.hid (CX.start h)
  have H := Lib.hid h
  clear h hf hn
  go_enter Tryz.func13, Tryz.ntmps13
  go_wp2_with fail
  refine rg_begin (S := fun w' => w'.cell? ⟨g, 0, none⟩ = some (.slice Q.A s.rn Q.ca) ∧ w'.cell? ⟨g, 1, none⟩ = some (.slice (some ⟨Q.m, 0, none⟩) 8192 Q.mc) ∧ w'.cell? ⟨g, 2, none⟩ = some (.pointer (some ⟨Q.p, 0, none⟩)) ∧ w'.cell? ⟨g, 3, none⟩ = some (.pointer (some ⟨Q.c, 0, none⟩)) ∧ w'.cell? ⟨g, 4, none⟩ = some (.int .i64 s.left) ∧ w'.cell? ⟨g, 5, none⟩ = some (.bool s.over) ∧ w'.cell? ⟨g, 6, none⟩ = some Q.tr) 37 #[false, false, false, false, false, false, false, false, false, false, false, false, false, false, false, false, false, false, false, false, false, false, false, false, false, false, false, false, false, false, false, false, false, false, false, false, false] (by kernel_rfl) (by kernel_rfl) (by kernel_rfl) ?_ (fun hHeld => ?_)
  · exact sx.out.hr.cells
  generalize w.drew = u0 at *
  refine rgt 0 (some 3) (v := ?_) rfl ?_ ?_
  rotate_left 1
  · (intro wS hSw; (try dsimp only at hSw); go_simp; try with_reducible rfl)
  refine rgt 1 (some 4) (v := ?_) rfl ?_ ?_
  rotate_left 1
  · (intro wS hSw; (try dsimp only at hSw); go_simp; try with_reducible rfl)
  refine rgt 2 (some 5) (v := ?_) rfl ?_ ?_
  rotate_left 1
  · (intro wS hSw; (try dsimp only at hSw); go_simp; try with_reducible rfl)
  refine rgt 3 (some 6) (v := ?_) rfl ?_ ?_
  rotate_left 1
  · (intro wS hSw; (try dsimp only at hSw); go_simp; try with_reducible rfl)
  refine rgt 5 (some 8) (v := ?_) rfl ?_ ?_
  rotate_left 1
  · (intro wS hSw; (try dsimp only at hSw); go_simp; try with_reducible rfl)
  refine rgt 6 (some 9) (v := ?_) rfl ?_ ?_
  rotate_left 1
  · (intro wS hSw; (try dsimp only at hSw); go_simp; try with_reducible rfl)
  refine rgt 7 (some 10) (v := ?_) rfl ?_ ?_
  rotate_left 1
  · (intro wS hSw; (try dsimp only at hSw); go_simp; try with_reducible rfl)
  refine rgt 8 (some 11) (v := ?_) rfl ?_ ?_
  rotate_left 1
  · (intro wS hSw; (try dsimp only at hSw); go_simp; try with_reducible rfl)
  refine rgt 10 (some 13) (v := ?_) rfl ?_ ?_
  rotate_left 1
  · (intro wS hSw; (try dsimp only at hSw); go_simp; try with_reducible rfl)
  refine rgt 11 (some 14) (v := ?_) rfl ?_ ?_
  rotate_left 1
  · (intro wS hSw; (try dsimp only at hSw); go_simp; try with_reducible rfl)
  refine rgt 12 (some 15) (v := ?_) rfl ?_ ?_
  rotate_left 1
  · (intro wS hSw; (try dsimp only at hSw); go_simp; try with_reducible rfl)
  refine rgt 13 (some 16) (v := ?_) rfl ?_ ?_
  rotate_left 1
  · (intro wS hSw; (try dsimp only at hSw); go_simp; try with_reducible rfl)
  refine rgt 15 (some 18) (v := ?_) rfl ?_ ?_
  rotate_left 1
  · (intro wS hSw; (try dsimp only at hSw); go_simp; try with_reducible rfl)
  refine rgt 16 (some 19) (v := ?_) rfl ?_ ?_
  rotate_left 1
  · (intro wS hSw; (try dsimp only at hSw); go_simp; try with_reducible rfl)
  refine rgt 17 (some 20) (v := ?_) rfl ?_ ?_
  rotate_left 1
  · (intro wS hSw; (try dsimp only at hSw); go_simp; try with_reducible rfl)
  refine rgt 18 (some 21) (v := ?_) rfl ?_ ?_
  rotate_left 1
  · (intro wS hSw; (try dsimp only at hSw); go_simp; try with_reducible rfl)
  refine rgt 20 (some 23) (v := ?_) rfl ?_ ?_
  rotate_left 1
  · (intro wS hSw; (try dsimp only at hSw); go_simp; try with_reducible rfl)
  refine rgt 21 (some 24) (v := ?_) rfl ?_ ?_
  rotate_left 1
  · (intro wS hSw; (try dsimp only at hSw); go_simp; try with_reducible rfl)
  refine rgt 22 (some 25) (v := ?_) rfl ?_ ?_
  rotate_left 1
  · (intro wS hSw; (try dsimp only at hSw); go_simp; try with_reducible rfl)
  refine rgt 23 (some 26) (v := ?_) rfl ?_ ?_
  rotate_left 1
  · (intro wS hSw; (try dsimp only at hSw); go_simp; try with_reducible rfl)
  refine rgt 24 (some 27) (v := ?_) rfl ?_ ?_
  rotate_left 1
  · (intro wS hSw; (try dsimp only at hSw); go_simp; try with_reducible rfl)
  refine rgt 25 (some 28) (v := ?_) rfl ?_ ?_
  rotate_left 1
  · (intro wS hSw; (try dsimp only at hSw); go_simp; try with_reducible rfl)
  refine rgt 26 (some 29) (v := ?_) rfl ?_ ?_
  rotate_left 1
  · (intro wS hSw; (try dsimp only at hSw); go_simp; try with_reducible rfl)
  refine rgt 27 (some 30) (v := ?_) rfl ?_ ?_
  rotate_left 1
  · (intro wS hSw; (try dsimp only at hSw); go_simp; try with_reducible rfl)
  refine rgt 29 (some 32) (v := ?_) rfl ?_ ?_
  rotate_left 1
  · (intro wS hSw; (try dsimp only at hSw); go_simp; try with_reducible rfl)
  refine rgt 30 (some 33) (v := ?_) rfl ?_ ?_
  rotate_left 1
  · (intro wS hSw; (try dsimp only at hSw); go_simp; try with_reducible rfl)
  refine rgt 31 (some 34) (v := ?_) rfl ?_ ?_
  rotate_left 1
  · (intro wS hSw; (try dsimp only at hSw); go_simp; try with_reducible rfl)
  refine rgt 32 (some 35) (v := ?_) rfl ?_ ?_
  rotate_left 1
  · (intro wS hSw; (try dsimp only at hSw); go_simp; try with_reducible rfl)
  try simp only [Act.put, List.setIfInBounds_toArray, List.set_cons_zero, List.set_cons_succ]
  refine rg_of (rs := [4, 28]) (fuel := 8) (by kernel_rfl) rfl ?_
  refine rg_step (i := 4) (l := #[true, true, true, true, true, true, true, true, true, false, true, true, true, true, false, true, true, true, true, false, true, true, true, true, true, true, true, true, false, true, true, true, true, false, false, false, false]) rfl (by kernel_rfl) (by kernel_rfl) ?_ ?_
  · intro K hK
    go_simp
    have sx2 := sx.out.s4
    obtain ⟨a7, ha7⟩ : ∃ a, u0.heap.size = a := ⟨_, rfl⟩
    rw [ha7] at sx2
    go_wp2_with fail
    try rw [ha7]
    first | (refine hK.out _ _ ?_ (fun hHeld => ?_)) | (go_wp2_with fail; refine hK.out _ _ ?_ (fun hHeld => ?_))
    · (try dsimp only); exact sx2.hr.cells
    clear hK K
    try simp only [Act.put, List.setIfInBounds_toArray, List.set_cons_zero, List.set_cons_succ]
    generalize World.alloc u0 (.cells #[] 5) = u1 at *
    clear sx
    have sx := Lib.hid sx2
    clear sx2
    refine rg_of (rs := [9, 28]) (fuel := 7) (by kernel_rfl) rfl ?_
    refine rg_step (i := 9) (l := #[true, true, true, true, true, true, true, true, true, true, true, true, true, true, false, true, true, true, true, false, true, true, true, true, true, true, true, true, false, true, true, true, true, false, false, false, false]) rfl (by kernel_rfl) (by kernel_rfl) ?_ ?_
    · intro K hK
      obtain ⟨m2, mc2, u2, run, cm1, cm2, sx2⟩ := sx.out.s9 (ty := 22) (mc0 := Q.mc) HF.out
      refine wp_append_anyB (.tmp 7) (.tmp 11) 22 rfl rfl rfl run ?_
      first | (refine hK.out _ _ ?_ (fun hHeld => ?_)) | (go_wp2_with fail; refine hK.out _ _ ?_ (fun hHeld => ?_))
      · (try dsimp only); exact sx2.hr.cells
      clear hK K
      try simp only [Act.put, List.setIfInBounds_toArray, List.set_cons_zero, List.set_cons_succ]
      clear run
      have CM1 := Lib.hid cm1
      have CM2 := Lib.hid cm2
      clear cm1 cm2
      clear sx
      have sx := Lib.hid sx2
      clear sx2
      refine rg_of (rs := [14, 28]) (fuel := 6) (by kernel_rfl) rfl ?_
      refine rg_step (i := 14) (l := #[true, true, true, true, true, true, true, true, true, true, true, true, true, true, true, true, true, true, true, false, true, true, true, true, true, true, true, true, false, true, true, true, true, false, false, false, false]) rfl (by kernel_rfl) (by kernel_rfl) ?_ ?_
      · intro K hK
        go_simp
        go_at_call 57
        refine (rhcopy_any sx.out.hr.pg).mono ?_
        rintro e u3 ⟨r2, J2, rfl, q1, q2, q3, q4⟩
        have sx2 := sx.out.s14 q1 q2 q4
        clear q1 q2 q3 q4
        first | (refine hK.out _ _ ?_ (fun hHeld => ?_)) | (go_wp2_with fail; refine hK.out _ _ ?_ (fun hHeld => ?_))
        · (try dsimp only); exact sx2.hr.cells
        clear hK K
        try simp only [Act.put, List.setIfInBounds_toArray, List.set_cons_zero, List.set_cons_succ]
        clear sx
        have sx := Lib.hid sx2
        clear sx2
        refine rg_of (rs := [19, 28]) (fuel := 5) (by kernel_rfl) rfl ?_
        refine rg_step (i := 19) (l := #[true, true, true, true, true, true, true, true, true, true, true, true, true, true, true, true, true, true, true, true, true, true, true, true, true, true, true, true, false, true, true, true, true, false, false, false, false]) rfl (by kernel_rfl) (by kernel_rfl) ?_ ?_
        · intro K hK
          go_simp
          go_at_call 58
          refine (copy_any sx.out.hr.ck).mono ?_
          rintro e u4 ⟨rfl, q1, q2⟩
          have sx2 := sx.out.s19 q1 q2
          obtain ⟨c2, hc2⟩ : ∃ c, u3.heap.size = c := ⟨_, rfl⟩
          rw [hc2] at sx2
          rw [hc2]
          clear q1 q2
          first | (refine hK.out _ _ ?_ (fun hHeld => ?_)) | (go_wp2_with fail; refine hK.out _ _ ?_ (fun hHeld => ?_))
          · (try dsimp only); exact sx2.hr.cells
          clear hK K
          try simp only [Act.put, List.setIfInBounds_toArray, List.set_cons_zero, List.set_cons_succ]
          clear sx
          have sx := Lib.hid sx2
          clear sx2
          refine rg_next (i := 28) (l := #[true, true, true, true, true, true, true, true, true, true, true, true, true, true, true, true, true, true, true, true, true, true, true, true, true, true, true, true, true, true, true, true, true, false, false, false, false]) (fuel := 4) (by kernel_rfl) rfl (by kernel_rfl) (by kernel_rfl) (fun K hK => ?_)
          go_simp
          have sx2 := sx.out.s28
          obtain ⟨a31, ha31⟩ : ∃ a, u4.heap.size = a := ⟨_, rfl⟩
          rw [ha31] at sx2
          go_wp2_with fail
          try rw [ha31]
          first | (refine hK.out _ _ ?_ (fun hHeld => ?_)) | (go_wp2_with fail; refine hK.out _ _ ?_ (fun hHeld => ?_))
          · (try dsimp only); exact sx2.hr.cells
          clear hK K
          try simp only [Act.put, List.setIfInBounds_toArray, List.set_cons_zero, List.set_cons_succ]
          generalize World.alloc u4 (.cells #[] 62) = u5 at *
          clear sx
          have sx := Lib.hid sx2
          clear sx2
          refine rg_next (i := 33) (l := #[true, true, true, true, true, true, true, true, true, true, true, true, true, true, true, true, true, true, true, true, true, true, true, true, true, true, true, true, true, true, true, true, true, true, false, false, false]) (fuel := 3) (by kernel_rfl) rfl (by kernel_rfl) (by kernel_rfl) (fun K hK => ?_)
          obtain ⟨vA, vc, u6, run, q1, sx2⟩ := sx.out.s33 (ty := 50) HN.out
          refine wp_append_anyB (.tmp 31) (.tmp 35) 50 rfl rfl rfl run ?_
          refine hK.out _ _ ?_ (fun hHeld => ?_)
          · (try dsimp only); exact sx2.hr.cells
          clear hK K
          try simp only [Act.put, List.setIfInBounds_toArray, List.set_cons_zero, List.set_cons_succ]
          clear run
          have HV := Lib.hid q1
          clear q1
          clear sx
          have sx := Lib.hid sx2
          clear sx2
          refine rgt 34 (some 37) (v := ?_) rfl ?_ ?_
          rotate_left 1
          · (intro wS hSw; (try dsimp only at hSw); go_simp; try with_reducible rfl)
          try simp only [Act.put, List.setIfInBounds_toArray, List.set_cons_zero, List.set_cons_succ]
          have DN := Lib.hid (sx.out.done HV.out CM1.out CM2.out)
          refine rg_next (i := 35) (l := #[true, true, true, true, true, true, true, true, true, true, true, true, true, true, true, true, true, true, true, true, true, true, true, true, true, true, true, true, true, true, true, true, true, true, true, true, false]) (fuel := 1) (by kernel_rfl) rfl (by kernel_rfl) (by kernel_rfl) (fun K hK => ?_)
          go_simp
          skip
          first | (refine hK.out _ _ ?_ (fun hHeld => ?_)) | (go_wp2_with fail; refine hK.out _ _ ?_ (fun hHeld => ?_))
          · (try dsimp only); exact rbcopy_cells DN.out
          clear hK K
          refine rgt 36 (some 2) (v := ?_) rfl ?_ ?_
          rotate_left 1
          · (intro wS hSw; (try dsimp only at hSw); go_simp; try with_reducible rfl)
          try simp only [Act.put, List.setIfInBounds_toArray, List.set_cons_zero, List.set_cons_succ]
          refine wpAnyH_done (by kernel_rfl) ?_ _
          go_wp2_with fail
          go_ret
          exact DN.out
        refine rg_step (i := 28) (l := #[true, true, true, true, true, true, true, true, true, true, true, true, true, true, true, true, true, true, true, false, true, true, true, true, true, true, true, true, true, true, true, true, true, false, false, false, false]) rfl (by kernel_rfl) (by kernel_rfl) ?_ ?_
        · intro K hK
          go_simp
          have sx2 := sx.out.s28
          obtain ⟨a31, ha31⟩ : ∃ a, u3.heap.size = a := ⟨_, rfl⟩
          rw [ha31] at sx2
          go_wp2_with fail
          try rw [ha31]
          first | (refine hK.out _ _ ?_ (fun hHeld => ?_)) | (go_wp2_with fail; refine hK.out _ _ ?_ (fun hHeld => ?_))
          · (try dsimp only); exact sx2.hr.cells
          clear hK K
          try simp only [Act.put, List.setIfInBounds_toArray, List.set_cons_zero, List.set_cons_succ]
          generalize World.alloc u3 (.cells #[] 62) = u4 at *
          clear sx
          have sx := Lib.hid sx2
          clear sx2
          refine rg_next (i := 19) (l := #[true, true, true, true, true, true, true, true, true, true, true, true, true, true, true, true, true, true, true, true, true, true, true, true, true, true, true, true, true, true, true, true, true, false, false, false, false]) (fuel := 4) (by kernel_rfl) rfl (by kernel_rfl) (by kernel_rfl) (fun K hK => ?_)
          go_simp
          go_at_call 58
          refine (copy_any sx.out.hr.ck).mono ?_
          rintro e u5 ⟨rfl, q1, q2⟩
          have sx2 := sx.out.s19 q1 q2
          obtain ⟨c2, hc2⟩ : ∃ c, u4.heap.size = c := ⟨_, rfl⟩
          rw [hc2] at sx2
          rw [hc2]
          clear q1 q2
          first | (refine hK.out _ _ ?_ (fun hHeld => ?_)) | (go_wp2_with fail; refine hK.out _ _ ?_ (fun hHeld => ?_))
          · (try dsimp only); exact sx2.hr.cells
          clear hK K
          try simp only [Act.put, List.setIfInBounds_toArray, List.set_cons_zero, List.set_cons_succ]
          clear sx
          have sx := Lib.hid sx2
          clear sx2
          refine rg_next (i := 33) (l := #[true, true, true, true, true, true, true, true, true, true, true, true, true, true, true, true, true, true, true, true, true, true, true, true, true, true, true, true, true, true, true, true, true, true, false, false, false]) (fuel := 3) (by kernel_rfl) rfl (by kernel_rfl) (by kernel_rfl) (fun K hK => ?_)
          obtain ⟨vA, vc, u6, run, q1, sx2⟩ := sx.out.s33 (ty := 50) HN.out
          refine wp_append_anyB (.tmp 31) (.tmp 35) 50 rfl rfl rfl run ?_
          refine hK.out _ _ ?_ (fun hHeld => ?_)
          · (try dsimp only); exact sx2.hr.cells
          clear hK K
          try simp only [Act.put, List.setIfInBounds_toArray, List.set_cons_zero, List.set_cons_succ]
          clear run
          have HV := Lib.hid q1
          clear q1
          clear sx
          have sx := Lib.hid sx2
          clear sx2
          refine rgt 34 (some 37) (v := ?_) rfl ?_ ?_
          rotate_left 1
          · (intro wS hSw; (try dsimp only at hSw); go_simp; try with_reducible rfl)
          try simp only [Act.put, List.setIfInBounds_toArray, List.set_cons_zero, List.set_cons_succ]
          have DN := Lib.hid (sx.out.done HV.out CM1.out CM2.out)
          refine rg_next (i := 35) (l := #[true, true, true, true, true, true, true, true, true, true, true, true, true, true, true, true, true, true, true, true, true, true, true, true, true, true, true, true, true, true, true, true, true, true, true, true, false]) (fuel := 1) (by kernel_rfl) rfl (by kernel_rfl) (by kernel_rfl) (fun K hK => ?_)
          go_simp
          skip
          first | (refine hK.out _ _ ?_ (fun hHeld => ?_)) | (go_wp2_with fail; refine hK.out _ _ ?_ (fun hHeld => ?_))
          · (try dsimp only); exact rbcopy_cells DN.out
          clear hK K
          refine rgt 36 (some 2) (v := ?_) rfl ?_ ?_
          rotate_left 1
          · (intro wS hSw; (try dsimp only at hSw); go_simp; try with_reducible rfl)
          try simp only [Act.put, List.setIfInBounds_toArray, List.set_cons_zero, List.set_cons_succ]
          refine wpAnyH_done (by kernel_rfl) ?_ _
          go_wp2_with fail
          go_ret
          exact DN.out
        exact AllReadyH.nil
      refine rg_step (i := 28) (l := #[true, true, true, true, true, true, true, true, true, true, true, true, true, true, false, true, true, true, true, false, true, true, true, true, true, true, true, true, true, true, true, true, true, false, false, false, false]) rfl (by kernel_rfl) (by kernel_rfl) ?_ ?_
      · intro K hK
        go_simp
        have sx2 := sx.out.s28
        obtain ⟨a31, ha31⟩ : ∃ a, u2.heap.size = a := ⟨_, rfl⟩
        rw [ha31] at sx2
        go_wp2_with fail
        try rw [ha31]
        first | (refine hK.out _ _ ?_ (fun hHeld => ?_)) | (go_wp2_with fail; refine hK.out _ _ ?_ (fun hHeld => ?_))
        · (try dsimp only); exact sx2.hr.cells
        clear hK K
        try simp only [Act.put, List.setIfInBounds_toArray, List.set_cons_zero, List.set_cons_succ]
        generalize World.alloc u2 (.cells #[] 62) = u3 at *
        clear sx
        have sx := Lib.hid sx2
        clear sx2
        refine rg_next (i := 14) (l := #[true, true, true, true, true, true, true, true, true, true, true, true, true, true, true, true, true, true, true, false, true, true, true, true, true, true, true, true, true, true, true, true, true, false, false, false, false]) (fuel := 5) (by kernel_rfl) rfl (by kernel_rfl) (by kernel_rfl) (fun K hK => ?_)
        go_simp
        go_at_call 57
        refine (rhcopy_any sx.out.hr.pg).mono ?_
        rintro e u4 ⟨r2, J2, rfl, q1, q2, q3, q4⟩
        have sx2 := sx.out.s14 q1 q2 q4
        clear q1 q2 q3 q4
        first | (refine hK.out _ _ ?_ (fun hHeld => ?_)) | (go_wp2_with fail; refine hK.out _ _ ?_ (fun hHeld => ?_))
        · (try dsimp only); exact sx2.hr.cells
        clear hK K
        try simp only [Act.put, List.setIfInBounds_toArray, List.set_cons_zero, List.set_cons_succ]
        clear sx
        have sx := Lib.hid sx2
        clear sx2
        refine rg_next (i := 19) (l := #[true, true, true, true, true, true, true, true, true, true, true, true, true, true, true, true, true, true, true, true, true, true, true, true, true, true, true, true, true, true, true, true, true, false, false, false, false]) (fuel := 4) (by kernel_rfl) rfl (by kernel_rfl) (by kernel_rfl) (fun K hK => ?_)
        go_simp
        go_at_call 58
        refine (copy_any sx.out.hr.ck).mono ?_
        rintro e u5 ⟨rfl, q1, q2⟩
        have sx2 := sx.out.s19 q1 q2
        obtain ⟨c2, hc2⟩ : ∃ c, u4.heap.size = c := ⟨_, rfl⟩
        rw [hc2] at sx2
        rw [hc2]
        clear q1 q2
        first | (refine hK.out _ _ ?_ (fun hHeld => ?_)) | (go_wp2_with fail; refine hK.out _ _ ?_ (fun hHeld => ?_))
        · (try dsimp only); exact sx2.hr.cells
        clear hK K
        try simp only [Act.put, List.setIfInBounds_toArray, List.set_cons_zero, List.set_cons_succ]
        clear sx
        have sx := Lib.hid sx2
        clear sx2
        refine rg_next (i := 33) (l := #[true, true, true, true, true, true, true, true, true, true, true, true, true, true, true, true, true, true, true, true, true, true, true, true, true, true, true, true, true, true, true, true, true, true, false, false, false]) (fuel := 3) (by kernel_rfl) rfl (by kernel_rfl) (by kernel_rfl) (fun K hK => ?_)
        obtain ⟨vA, vc, u6, run, q1, sx2⟩ := sx.out.s33 (ty := 50) HN.out
        refine wp_append_anyB (.tmp 31) (.tmp 35) 50 rfl rfl rfl run ?_
        refine hK.out _ _ ?_ (fun hHeld => ?_)
        · (try dsimp only); exact sx2.hr.cells
        clear hK K
        try simp only [Act.put, List.setIfInBounds_toArray, List.set_cons_zero, List.set_cons_succ]
        clear run
        have HV := Lib.hid q1
        clear q1
        clear sx
        have sx := Lib.hid sx2
        clear sx2
        refine rgt 34 (some 37) (v := ?_) rfl ?_ ?_
        rotate_left 1
        · (intro wS hSw; (try dsimp only at hSw); go_simp; try with_reducible rfl)
        try simp only [Act.put, List.setIfInBounds_toArray, List.set_cons_zero, List.set_cons_succ]
        have DN := Lib.hid (sx.out.done HV.out CM1.out CM2.out)
        refine rg_next (i := 35) (l := #[true, true, true, true, true, true, true, true, true, true, true, true, true, true, true, true, true, true, true, true, true, true, true, true, true, true, true, true, true, true, true, true, true, true, true, true, false]) (fuel := 1) (by kernel_rfl) rfl (by kernel_rfl) (by kernel_rfl) (fun K hK => ?_)
        go_simp
        skip
        first | (refine hK.out _ _ ?_ (fun hHeld => ?_)) | (go_wp2_with fail; refine hK.out _ _ ?_ (fun hHeld => ?_))
        · (try dsimp only); exact rbcopy_cells DN.out
        clear hK K
        refine rgt 36 (some 2) (v := ?_) rfl ?_ ?_
        rotate_left 1
        · (intro wS hSw; (try dsimp only at hSw); go_simp; try with_reducible rfl)
        try simp only [Act.put, List.setIfInBounds_toArray, List.set_cons_zero, List.set_cons_succ]
        refine wpAnyH_done (by kernel_rfl) ?_ _
        go_wp2_with fail
        go_ret
        exact DN.out
      exact AllReadyH.nil
    refine rg_step (i := 28) (l := #[true, true, true, true, true, true, true, true, true, false, true, true, true, true, false, true, true, true, true, false, true, true, true, true, true, true, true, true, true, true, true, true, true, false, false, false, false]) rfl (by kernel_rfl) (by kernel_rfl) ?_ ?_
    · intro K hK
      go_simp
      have sx2 := sx.out.s28
      obtain ⟨a31, ha31⟩ : ∃ a, u1.heap.size = a := ⟨_, rfl⟩
      rw [ha31] at sx2
      go_wp2_with fail
      try rw [ha31]
      first | (refine hK.out _ _ ?_ (fun hHeld => ?_)) | (go_wp2_with fail; refine hK.out _ _ ?_ (fun hHeld => ?_))
      · (try dsimp only); exact sx2.hr.cells
      clear hK K
      try simp only [Act.put, List.setIfInBounds_toArray, List.set_cons_zero, List.set_cons_succ]
      generalize World.alloc u1 (.cells #[] 62) = u2 at *
      clear sx
      have sx := Lib.hid sx2
      clear sx2
      refine rg_next (i := 9) (l := #[true, true, true, true, true, true, true, true, true, true, true, true, true, true, false, true, true, true, true, false, true, true, true, true, true, true, true, true, true, true, true, true, true, false, false, false, false]) (fuel := 6) (by kernel_rfl) rfl (by kernel_rfl) (by kernel_rfl) (fun K hK => ?_)
      obtain ⟨m2, mc2, u3, run, cm1, cm2, sx2⟩ := sx.out.s9 (ty := 22) (mc0 := Q.mc) HF.out
      refine wp_append_anyB (.tmp 7) (.tmp 11) 22 rfl rfl rfl run ?_
      refine hK.out _ _ ?_ (fun hHeld => ?_)
      · (try dsimp only); exact sx2.hr.cells
      clear hK K
      try simp only [Act.put, List.setIfInBounds_toArray, List.set_cons_zero, List.set_cons_succ]
      clear run
      have CM1 := Lib.hid cm1
      have CM2 := Lib.hid cm2
      clear cm1 cm2
      clear sx
      have sx := Lib.hid sx2
      clear sx2
      refine rg_next (i := 14) (l := #[true, true, true, true, true, true, true, true, true, true, true, true, true, true, true, true, true, true, true, false, true, true, true, true, true, true, true, true, true, true, true, true, true, false, false, false, false]) (fuel := 5) (by kernel_rfl) rfl (by kernel_rfl) (by kernel_rfl) (fun K hK => ?_)
      go_simp
      go_at_call 57
      refine (rhcopy_any sx.out.hr.pg).mono ?_
      rintro e u4 ⟨r2, J2, rfl, q1, q2, q3, q4⟩
      have sx2 := sx.out.s14 q1 q2 q4
      clear q1 q2 q3 q4
      first | (refine hK.out _ _ ?_ (fun hHeld => ?_)) | (go_wp2_with fail; refine hK.out _ _ ?_ (fun hHeld => ?_))
      · (try dsimp only); exact sx2.hr.cells
      clear hK K
      try simp only [Act.put, List.setIfInBounds_toArray, List.set_cons_zero, List.set_cons_succ]
      clear sx
      have sx := Lib.hid sx2
      clear sx2
      refine rg_next (i := 19) (l := #[true, true, true, true, true, true, true, true, true, true, true, true, true, true, true, true, true, true, true, true, true, true, true, true, true, true, true, true, true, true, true, true, true, false, false, false, false]) (fuel := 4) (by kernel_rfl) rfl (by kernel_rfl) (by kernel_rfl) (fun K hK => ?_)
      go_simp
      go_at_call 58
      refine (copy_any sx.out.hr.ck).mono ?_
      rintro e u5 ⟨rfl, q1, q2⟩
      have sx2 := sx.out.s19 q1 q2
      obtain ⟨c2, hc2⟩ : ∃ c, u4.heap.size = c := ⟨_, rfl⟩
      rw [hc2] at sx2
      rw [hc2]
      clear q1 q2
      first | (refine hK.out _ _ ?_ (fun hHeld => ?_)) | (go_wp2_with fail; refine hK.out _ _ ?_ (fun hHeld => ?_))
      · (try dsimp only); exact sx2.hr.cells
      clear hK K
      try simp only [Act.put, List.setIfInBounds_toArray, List.set_cons_zero, List.set_cons_succ]
      clear sx
      have sx := Lib.hid sx2
      clear sx2
      refine rg_next (i := 33) (l := #[true, true, true, true, true, true, true, true, true, true, true, true, true, true, true, true, true, true, true, true, true, true, true, true, true, true, true, true, true, true, true, true, true, true, false, false, false]) (fuel := 3) (by kernel_rfl) rfl (by kernel_rfl) (by kernel_rfl) (fun K hK => ?_)
      obtain ⟨vA, vc, u6, run, q1, sx2⟩ := sx.out.s33 (ty := 50) HN.out
      refine wp_append_anyB (.tmp 31) (.tmp 35) 50 rfl rfl rfl run ?_
      refine hK.out _ _ ?_ (fun hHeld => ?_)
      · (try dsimp only); exact sx2.hr.cells
      clear hK K
      try simp only [Act.put, List.setIfInBounds_toArray, List.set_cons_zero, List.set_cons_succ]
      clear run
      have HV := Lib.hid q1
      clear q1
      clear sx
      have sx := Lib.hid sx2
      clear sx2
      refine rgt 34 (some 37) (v := ?_) rfl ?_ ?_
      rotate_left 1
      · (intro wS hSw; (try dsimp only at hSw); go_simp; try with_reducible rfl)
      try simp only [Act.put, List.setIfInBounds_toArray, List.set_cons_zero, List.set_cons_succ]
      have DN := Lib.hid (sx.out.done HV.out CM1.out CM2.out)
      refine rg_next (i := 35) (l := #[true, true, true, true, true, true, true, true, true, true, true, true, true, true, true, true, true, true, true, true, true, true, true, true, true, true, true, true, true, true, true, true, true, true, true, true, false]) (fuel := 1) (by kernel_rfl) rfl (by kernel_rfl) (by kernel_rfl) (fun K hK => ?_)
      go_simp
      skip
      first | (refine hK.out _ _ ?_ (fun hHeld => ?_)) | (go_wp2_with fail; refine hK.out _ _ ?_ (fun hHeld => ?_))
      · (try dsimp only); exact rbcopy_cells DN.out
      clear hK K
      refine rgt 36 (some 2) (v := ?_) rfl ?_ ?_
      rotate_left 1
      · (intro wS hSw; (try dsimp only at hSw); go_simp; try with_reducible rfl)
      try simp only [Act.put, List.setIfInBounds_toArray, List.set_cons_zero, List.set_cons_succ]
      refine wpAnyH_done (by kernel_rfl) ?_ _
      go_wp2_with fail
      go_ret
      exact DN.out
    exact AllReadyH.nil
  refine rg_step (i := 28) (l := #[true, true, true, true, false, true, true, true, true, false, true, true, true, true, false, true, true, true, true, false, true, true, true, true, true, true, true, true, true, true, true, true, true, false, false, false, false]) rfl (by kernel_rfl) (by kernel_rfl) ?_ ?_
  · intro K hK
    go_simp
    have sx2 := sx.out.s28
    obtain ⟨a31, ha31⟩ : ∃ a, u0.heap.size = a := ⟨_, rfl⟩
    rw [ha31] at sx2
    go_wp2_with fail
    try rw [ha31]
    first | (refine hK.out _ _ ?_ (fun hHeld => ?_)) | (go_wp2_with fail; refine hK.out _ _ ?_ (fun hHeld => ?_))
    · (try dsimp only); exact sx2.hr.cells
    clear hK K
    try simp only [Act.put, List.setIfInBounds_toArray, List.set_cons_zero, List.set_cons_succ]
    generalize World.alloc u0 (.cells #[] 62) = u1 at *
    clear sx
    have sx := Lib.hid sx2
    clear sx2
    refine rg_next (i := 4) (l := #[true, true, true, true, true, true, true, true, true, false, true, true, true, true, false, true, true, true, true, false, true, true, true, true, true, true, true, true, true, true, true, true, true, false, false, false, false]) (fuel := 7) (by kernel_rfl) rfl (by kernel_rfl) (by kernel_rfl) (fun K hK => ?_)
    go_simp
    have sx2 := sx.out.s4
    obtain ⟨a7, ha7⟩ : ∃ a, u1.heap.size = a := ⟨_, rfl⟩
    rw [ha7] at sx2
    go_wp2_with fail
    try rw [ha7]
    first | (refine hK.out _ _ ?_ (fun hHeld => ?_)) | (go_wp2_with fail; refine hK.out _ _ ?_ (fun hHeld => ?_))
    · (try dsimp only); exact sx2.hr.cells
    clear hK K
    try simp only [Act.put, List.setIfInBounds_toArray, List.set_cons_zero, List.set_cons_succ]
    generalize World.alloc u1 (.cells #[] 5) = u2 at *
    clear sx
    have sx := Lib.hid sx2
    clear sx2
    refine rg_next (i := 9) (l := #[true, true, true, true, true, true, true, true, true, true, true, true, true, true, false, true, true, true, true, false, true, true, true, true, true, true, true, true, true, true, true, true, true, false, false, false, false]) (fuel := 6) (by kernel_rfl) rfl (by kernel_rfl) (by kernel_rfl) (fun K hK => ?_)
    obtain ⟨m2, mc2, u3, run, cm1, cm2, sx2⟩ := sx.out.s9 (ty := 22) (mc0 := Q.mc) HF.out
    refine wp_append_anyB (.tmp 7) (.tmp 11) 22 rfl rfl rfl run ?_
    refine hK.out _ _ ?_ (fun hHeld => ?_)
    · (try dsimp only); exact sx2.hr.cells
    clear hK K
    try simp only [Act.put, List.setIfInBounds_toArray, List.set_cons_zero, List.set_cons_succ]
    clear run
    have CM1 := Lib.hid cm1
    have CM2 := Lib.hid cm2
    clear cm1 cm2
    clear sx
    have sx := Lib.hid sx2
    clear sx2
    refine rg_next (i := 14) (l := #[true, true, true, true, true, true, true, true, true, true, true, true, true, true, true, true, true, true, true, false, true, true, true, true, true, true, true, true, true, true, true, true, true, false, false, false, false]) (fuel := 5) (by kernel_rfl) rfl (by kernel_rfl) (by kernel_rfl) (fun K hK => ?_)
    go_simp
    go_at_call 57
    refine (rhcopy_any sx.out.hr.pg).mono ?_
    rintro e u4 ⟨r2, J2, rfl, q1, q2, q3, q4⟩
    have sx2 := sx.out.s14 q1 q2 q4
    clear q1 q2 q3 q4
    first | (refine hK.out _ _ ?_ (fun hHeld => ?_)) | (go_wp2_with fail; refine hK.out _ _ ?_ (fun hHeld => ?_))
    · (try dsimp only); exact sx2.hr.cells
    clear hK K
    try simp only [Act.put, List.setIfInBounds_toArray, List.set_cons_zero, List.set_cons_succ]
    clear sx
    have sx := Lib.hid sx2
    clear sx2
    refine rg_next (i := 19) (l := #[true, true, true, true, true, true, true, true, true, true, true, true, true, true, true, true, true, true, true, true, true, true, true, true, true, true, true, true, true, true, true, true, true, false, false, false, false]) (fuel := 4) (by kernel_rfl) rfl (by kernel_rfl) (by kernel_rfl) (fun K hK => ?_)
    go_simp
    go_at_call 58
    refine (copy_any sx.out.hr.ck).mono ?_
    rintro e u5 ⟨rfl, q1, q2⟩
    have sx2 := sx.out.s19 q1 q2
    obtain ⟨c2, hc2⟩ : ∃ c, u4.heap.size = c := ⟨_, rfl⟩
    rw [hc2] at sx2
    rw [hc2]
    clear q1 q2
    first | (refine hK.out _ _ ?_ (fun hHeld => ?_)) | (go_wp2_with fail; refine hK.out _ _ ?_ (fun hHeld => ?_))
    · (try dsimp only); exact sx2.hr.cells
    clear hK K
    try simp only [Act.put, List.setIfInBounds_toArray, List.set_cons_zero, List.set_cons_succ]
    clear sx
    have sx := Lib.hid sx2
    clear sx2
    refine rg_next (i := 33) (l := #[true, true, true, true, true, true, true, true, true, true, true, true, true, true, true, true, true, true, true, true, true, true, true, true, true, true, true, true, true, true, true, true, true, true, false, false, false]) (fuel := 3) (by kernel_rfl) rfl (by kernel_rfl) (by kernel_rfl) (fun K hK => ?_)
    obtain ⟨vA, vc, u6, run, q1, sx2⟩ := sx.out.s33 (ty := 50) HN.out
    refine wp_append_anyB (.tmp 31) (.tmp 35) 50 rfl rfl rfl run ?_
    refine hK.out _ _ ?_ (fun hHeld => ?_)
    · (try dsimp only); exact sx2.hr.cells
    clear hK K
    try simp only [Act.put, List.setIfInBounds_toArray, List.set_cons_zero, List.set_cons_succ]
    clear run
    have HV := Lib.hid q1
    clear q1
    clear sx
    have sx := Lib.hid sx2
    clear sx2
    refine rgt 34 (some 37) (v := ?_) rfl ?_ ?_
    rotate_left 1
    · (intro wS hSw; (try dsimp only at hSw); go_simp; try with_reducible rfl)
    try simp only [Act.put, List.setIfInBounds_toArray, List.set_cons_zero, List.set_cons_succ]
    have DN := Lib.hid (sx.out.done HV.out CM1.out CM2.out)
    refine rg_next (i := 35) (l := #[true, true, true, true, true, true, true, true, true, true, true, true, true, true, true, true, true, true, true, true, true, true, true, true, true, true, true, true, true, true, true, true, true, true, true, true, false]) (fuel := 1) (by kernel_rfl) rfl (by kernel_rfl) (by kernel_rfl) (fun K hK => ?_)
    go_simp
    skip
    first | (refine hK.out _ _ ?_ (fun hHeld => ?_)) | (go_wp2_with fail; refine hK.out _ _ ?_ (fun hHeld => ?_))
    · (try dsimp only); exact rbcopy_cells DN.out
    clear hK K
    refine rgt 36 (some 2) (v := ?_) rfl ?_ ?_
    rotate_left 1
    · (intro wS hSw; (try dsimp only at hSw); go_simp; try with_reducible rfl)
    try simp only [Act.put, List.setIfInBounds_toArray, List.set_cons_zero, List.set_cons_succ]
    refine wpAnyH_done (by kernel_rfl) ?_ _
    go_wp2_with fail
    go_ret
    exact DN.out
  exact AllReadyH.nil
end Go.Proofs.YtleofglnlfpoeaaGreat
namespace Go.Proofs.YtleofglnlfpoeaaGreat
open Go.RowKit
set_option linter.unusedVariables false
set_option linter.unusedSimpArgs false
set_option maxRecDepth 100000
theorem RBU.fin {W w w0 w1 w2 : World} {g : Nat} {d : Hd} {Q : Rbp} {s : Bs} {nx : Bool} {f0 : Nat} {v : Value} (k0 : Kp [] w w0) (k : Kp (rbL g Q) w0 w1) (h : RBU W w1 g d Q s nx) (k1 : Kp [f0] w1 w2) (hf : f0 ∉ rbL g Q) (hw : w.heap.size ≤ f0) (hW : W.heap.size ≤ f0) : RbR v W g d Q s nx w (.returned v) w2 :=
  RbR.mk0 (h.kp k1 (fun y hy hy2 => hf (by rw [← List.mem_singleton.1 hy2]; exact hy)) (fun y hy => by rw [List.mem_singleton.1 hy]; exact hW)) (((k0.mono (M := rbL g Q) (by simp)).trans k (fun z hz => .inl hz)).trans k1 (fun z hz => .inr (by rw [List.mem_singleton.1 hz]; exact hw)))
set_option maxHeartbeats 8000000 in
theorem rbfill_bad {W w : World} {g : Nat} {d : Hd} {Q : Rbp} {s : Bs} {nx : Bool} {A : Option Addr} {m c j : Nat} {ps : Nat → Pc} (h : RBU W w g d Q s nx) (R : PRow W A m ps) (hm : m ≤ 1000)
    (hj : j < m) (hg : ∀ i, i < j → good 8192 (ps i)) (hb : ¬ good 8192 (ps j)) :
    Calls Tryz.prog 10 #[.pointer (some ⟨g, 0, none⟩), .slice A m c] w (RbR (.agg #[.int .i64 1, .int .i64 j]) W g d Q s nx w) := by
  have HBAD := Lib.hid hb
  clear hb
  have R1 := Lib.hid R
  have H0 := Lib.hid (RBU.kp0 h ((Kp.refl [] w).alloc (.cells #[.int .i64 0, .int .i64 0] 34)))
  have HF0 := Lib.hid (Blk.new w 34 #[.int .i64 0, .int .i64 0])
  have HK0 := Lib.hid ((Kp.refl [] w).alloc (.cells #[.int .i64 0, .int .i64 0] 34))
  have hfl : w.heap.size ∉ rbL g Q := fun hy => Nat.lt_irrefl _ (h.lt _ hy)
  have hWs := h.old.size
  have HG := Lib.hid hg
  clear h R hg
  go_enter Tryz.func10, Tryz.ntmps10
  go_wp2_with fail
  generalize w.alloc _ = w0 at *
  obtain ⟨f0, hf0⟩ : ∃ f, w.heap.size = f := ⟨_, rfl⟩
  rw [hf0] at HF0 hfl hWs ⊢
  have HSZ := Lib.hid hf0
  clear hf0
  go_loopw [5] (fun i wr => ∃ k : Nat, k ≤ j ∧ i = .int .i64 k ∧ RBU W wr g d Q s nx ∧ Blk wr f0 34 #[.int .i64 0, .int .i64 0] ∧ Kp [] w0 wr) (fun i _ => j - (intOf i).toNat)
  case atStart => exact ⟨0, Nat.zero_le _, rfl, H0.out, HF0.out, Kp.refl _ _⟩
  case round =>
    obtain ⟨k, hk, rfl, hb, hf, hkk⟩ := hrel
    have HB := Lib.hid hb
    have HF := Lib.hid hf
    have HK := Lib.hid hkk
    clear hb hf hkk H0 HF0
    by_cases hlt : k < j
    · obtain ⟨ad, rfl, hl, h0, h1, hp0, hp1, hp2, hp3⟩ := PRow.keep R1.out HB.out.old k (by omega)
      have hnx := cell_next h1
      obtain ⟨t, ht⟩ : ∃ t, (ps k).at_ = t := ⟨_, rfl⟩
      obtain ⟨pn, hpn⟩ : ∃ n, (ps k).n = n := ⟨_, rfl⟩
      obtain ⟨pA, hpA⟩ : ∃ a, (ps k).A = a := ⟨_, rfl⟩
      obtain ⟨pc, hpc⟩ : ∃ c, (ps k).c = c := ⟨_, rfl⟩
      rw [ht] at h0 hp0
      rw [hpn, hpA, hpc] at hnx
      rw [hpn, hpc] at hp1
      rw [hpc] at hp2
      unfold maxLen at hp2
      obtain ⟨tb0, tb1⟩ := bounds_i64 hp0
      obtain ⟨g0, g1⟩ := HG.out k hlt
      rw [ht] at g0 g1
      rw [hpn] at g1
      have HT := Lib.hid ht
      have HPN := Lib.hid hpn
      have d1 : decide (t < 0) = false := decide_eq_false (by omega)
      have d2 : decide (8192 < t) = false := decide_eq_false (by omega)
      have d3 : decide (8192 - t < (pn : Int)) = false := decide_eq_false (by omega)
      clear h1 hp0 hp3 ht hpn hpA hpc
      go_wp2_with fail
      go_quiet (fail)
      go_wp2_with fail
      go_roundw
      case rel => exact ⟨k + 1, by omega, by go_num, HB.out.kp0 ((Kp.refl [] _).drewN _), HF.out.drewN _, HK.out.drewN _⟩
      case measure => simp [intOf]; omega
    · obtain rfl : k = j := by omega
      obtain ⟨ad, rfl, hl, h0, h1, hp0, hp1, hp2, hp3⟩ := PRow.keep R1.out HB.out.old k hj
      have hnx := cell_next h1
      obtain ⟨t, ht⟩ : ∃ t, (ps k).at_ = t := ⟨_, rfl⟩
      obtain ⟨pn, hpn⟩ : ∃ n, (ps k).n = n := ⟨_, rfl⟩
      obtain ⟨pA, hpA⟩ : ∃ a, (ps k).A = a := ⟨_, rfl⟩
      obtain ⟨pc, hpc⟩ : ∃ c, (ps k).c = c := ⟨_, rfl⟩
      rw [ht] at h0 hp0
      rw [hpn, hpA, hpc] at hnx
      rw [hpn, hpc] at hp1
      rw [hpc] at hp2
      unfold maxLen at hp2
      obtain ⟨tb0, tb1⟩ := bounds_i64 hp0
      have hbad := HBAD.out
      unfold good at hbad
      rw [ht, hpn] at hbad
      have c0 : wr.cell? ⟨f0, 0, none⟩ = some (.int .i64 0) := HF.out.cell 0
      have c1 : wr.cell? ⟨f0, 1, none⟩ = some (.int .i64 0) := HF.out.cell 1
      have r0 : wr.frozen? ⟨f0, 0, none⟩ = false := HF.out.frozen 0
      have r1 : wr.frozen? ⟨f0, 1, none⟩ = false := HF.out.frozen 1
      clear h1 hp0 hp3 ht hpn hpA hpc
      have h3 : t < 0 ∨ (0 ≤ t ∧ 8192 < t) ∨ (0 ≤ t ∧ t ≤ 8192 ∧ 8192 - t < (pn : Int)) := by omega
      clear hbad
      obtain ⟨b1, hb1⟩ : ∃ b, decide (t < 0) = b := ⟨_, rfl⟩
      obtain ⟨b2, hb2⟩ : ∃ b, decide (8192 < t) = b := ⟨_, rfl⟩
      obtain ⟨b3, hb3⟩ : ∃ b, decide (8192 - t < (pn : Int)) = b := ⟨_, rfl⟩
      have hbb : (b1 = true) ∨ (b1 = false ∧ b2 = true) ∨ (b1 = false ∧ b2 = false ∧ b3 = true) := by
        rw [← hb1, ← hb2, ← hb3]
        simp only [decide_eq_true_eq, decide_eq_false_iff_not]
        omega
      rcases hbb with rfl | ⟨rfl, rfl⟩ | ⟨rfl, rfl, rfl⟩
      all_goals
        try have t0 : 0 ≤ t := by have := of_decide_eq_false hb1; omega
        try have t1 : t ≤ 8192 := by have := of_decide_eq_false hb2; omega
        go_wp2_with fail
        go_quiet (fail)
        go_wp2_with fail
        refine bodyPost_ret (v := .agg #[.int .i64 1, .int .i64 k]) (results_cell (a := ⟨f0, 0, none⟩) Tryz.results10 (by rfl) ((((HF.out.drewN _).set_ 0 (.int .i64 1)).set_ 1 (.int .i64 k)).run_load (P := Tryz.prog) Tryz.underlying34 rfl (by kernel_rfl))) rfl ?_
        exact RBU.fin HK0.out ((HK.out.mono (M := rbL g Q) (by simp)).drewN _) (HB.out.kp0 ((Kp.refl [] _).drewN _)) (((Kp.refl [f0] _).setCell (p := ⟨f0, 0, none⟩) (.inl (List.mem_singleton.2 rfl)) _).setCell (p := ⟨f0, 1, none⟩) (.inl (List.mem_singleton.2 rfl)) _) hfl (by rw [HSZ.out]; exact Nat.le_refl _) hWs
set_option maxHeartbeats 16000000 in
theorem rbfill_good {W w : World} {g : Nat} {d : Hd} {Q : Rbp} {s : Bs} {nx : Bool} {A : Option Addr} {m c : Nat} {ps : Nat → Pc} (h : RBU W w g d Q s nx) (R : PRow W A m ps) (hm : m ≤ 1000)
    (hg : ∀ i, i < m → good 8192 (ps i)) :
    Calls Tryz.prog 10 #[.pointer (some ⟨g, 0, none⟩), .slice A m c] w (RbR (.agg #[.int .i64 0, .int .i64 0]) W g d Q { s with f := flt s.f ps m } nx w) := by
  have R1 := Lib.hid R
  have H0 := Lib.hid (RBU.kp0 h ((Kp.refl [] w).alloc (.cells #[.int .i64 0, .int .i64 0] 34)))
  have HF0 := Lib.hid (Blk.new w 34 #[.int .i64 0, .int .i64 0])
  have HK0 := Lib.hid ((Kp.refl [] w).alloc (.cells #[.int .i64 0, .int .i64 0] 34))
  have hfl : w.heap.size ∉ rbL g Q := fun hy => Nat.lt_irrefl _ (h.lt _ hy)
  have hWs := h.old.size
  have HG := Lib.hid hg
  clear h R hg
  go_enter Tryz.func10, Tryz.ntmps10
  go_wp2_with fail
  generalize w.alloc _ = w0 at *
  obtain ⟨f0, hf0⟩ : ∃ f, w.heap.size = f := ⟨_, rfl⟩
  rw [hf0] at HF0 hfl hWs ⊢
  have HSZ := Lib.hid hf0
  clear hf0
  go_loopw [5] (fun i wr => ∃ k : Nat, k ≤ m ∧ i = .int .i64 k ∧ RBU W wr g d Q s nx ∧ Blk wr f0 34 #[.int .i64 0, .int .i64 0] ∧ Kp [] w0 wr) (fun i _ => m - (intOf i).toNat)
  case atStart => exact ⟨0, Nat.zero_le _, rfl, H0.out, HF0.out, Kp.refl _ _⟩
  case round =>
    obtain ⟨k, hk, rfl, hb, hf, hkk⟩ := hrel
    have HB := Lib.hid hb
    have HF := Lib.hid hf
    have HK := Lib.hid hkk
    clear hb hf hkk H0 HF0
    by_cases hlt : k < m
    · obtain ⟨ad, rfl, hl, h0, h1, hp0, hp1, hp2, hp3⟩ := PRow.keep R1.out HB.out.old k hlt
      have hnx := cell_next h1
      obtain ⟨t, ht⟩ : ∃ t, (ps k).at_ = t := ⟨_, rfl⟩
      obtain ⟨pn, hpn⟩ : ∃ n, (ps k).n = n := ⟨_, rfl⟩
      obtain ⟨pA, hpA⟩ : ∃ a, (ps k).A = a := ⟨_, rfl⟩
      obtain ⟨pc, hpc⟩ : ∃ c, (ps k).c = c := ⟨_, rfl⟩
      rw [ht] at h0 hp0
      rw [hpn, hpA, hpc] at hnx
      rw [hpn, hpc] at hp1
      rw [hpc] at hp2
      unfold maxLen at hp2
      obtain ⟨tb0, tb1⟩ := bounds_i64 hp0
      obtain ⟨g0, g1⟩ := HG.out k hlt
      rw [ht] at g0 g1
      rw [hpn] at g1
      have HT := Lib.hid ht
      have HPN := Lib.hid hpn
      have d1 : decide (t < 0) = false := decide_eq_false (by omega)
      have d2 : decide (8192 < t) = false := decide_eq_false (by omega)
      have d3 : decide (8192 - t < (pn : Int)) = false := decide_eq_false (by omega)
      clear h1 hp0 hp3 ht hpn hpA hpc
      go_wp2_with fail
      go_quiet (fail)
      go_wp2_with fail
      go_roundw
      case rel => exact ⟨k + 1, by omega, by go_num, HB.out.kp0 ((Kp.refl [] _).drewN _), HF.out.drewN _, HK.out.drewN _⟩
      case measure => simp [intOf]; omega
    · obtain rfl : k = m := by omega
      clear hlt hk
      have HKm := Lib.hid (HK.out.mono (M := [Q.m]) (by simp))
      go_wp2_with fail
      clear HK
      generalize wr = wa at *
      go_loopw [6] (fun i wr => ∃ q : Nat, q ≤ k ∧ i = .int .i64 q ∧ RBU W wr g d Q { s with f := flt s.f ps q } nx ∧ Blk wr f0 34 #[.int .i64 0, .int .i64 0] ∧ Kp [Q.m] w0 wr) (fun i _ => k - (intOf i).toNat)
      case atStart => exact ⟨0, Nat.zero_le _, rfl, HB.out, HF.out, HKm.out⟩
      case round =>
        obtain ⟨q, hq, rfl, hb, hf, hkk⟩ := hrel
        clear HB HF HKm
        have HB := Lib.hid hb
        have HF := Lib.hid hf
        have HK := Lib.hid hkk
        clear hb hf hkk
        by_cases hlt : q < k
        · have hql := hlt
          obtain ⟨ad, rfl, hl, h0, h1, hp0, hp1, hp2, hp3⟩ := PRow.keep R1.out HB.out.old q hlt
          have hnx := cell_next h1
          obtain ⟨g0, g1⟩ := HG.out q hlt
          obtain ⟨t, ht⟩ : ∃ t, (ps q).at_ = t := ⟨_, rfl⟩
          obtain ⟨pn, hpn⟩ : ∃ n, (ps q).n = n := ⟨_, rfl⟩
          obtain ⟨pA, hpA⟩ : ∃ a, (ps q).A = a := ⟨_, rfl⟩
          obtain ⟨pc, hpc⟩ : ∃ c, (ps q).c = c := ⟨_, rfl⟩
          rw [ht] at h0 g0 g1
          rw [hpn, hpA, hpc] at hnx
          rw [hpn] at g1
          obtain ⟨T, rfl⟩ := Int.eq_ofNat_of_zero_le g0
          have HT := Lib.hid ht
          have HPN := Lib.hid hpn
          have HPA := Lib.hid hpA
          have HPC := Lib.hid hpc
          clear h0 h1 hnx hp0 hp1 hp2 hp3 ht hpn hpA hpc hl
          go_wp2_with fail
          generalize wr = wb at *
          go_loopw [7] (fun i wr => ∃ j : Nat, j ≤ pn ∧ i = .int .i64 j ∧ RBU W wr g d Q { s with f := laidTo (flt s.f ps q) (ps q) j } nx ∧ Blk wr f0 34 #[.int .i64 0, .int .i64 0] ∧ Kp [Q.m] w0 wr) (fun i _ => pn - (intOf i).toNat)
          case atStart => exact ⟨0, Nat.zero_le _, rfl, by rw [laidTo_zero]; exact HB.out, HF.out, HK.out⟩
          case round =>
            obtain ⟨j, hj, rfl, hb, hf, hkk⟩ := hrel
            clear HB HF HK
            have HB := Lib.hid hb
            have HF := Lib.hid hf
            have HK := Lib.hid hkk
            clear hb hf hkk
            obtain ⟨ad2, ha2, hl, h0, h1, hp0, hp1, hp2, hp3⟩ := PRow.keep R1.out HB.out.old q hql
            cases ha2
            have hnx := cell_next h1
            rw [HT.out] at h0
            rw [HPN.out, HPA.out, HPC.out] at hnx
            rw [HPA.out, HPN.out] at hp3
            have c1 : wr.cell? ⟨g, 1, none⟩ = some (.slice (some ⟨Q.m, 0, none⟩) 8192 Q.mc) := HB.out.cells.2.1
            by_cases hjl : j < pn
            · obtain ⟨bd, rfl, hbl, hcb, hwf⟩ := hp3 j hjl
              obtain ⟨z0, z1⟩ := bounds_u8 hwf
              obtain ⟨z, hz⟩ : ∃ z, (ps q).z j = z := ⟨_, rfl⟩
              rw [hz] at hcb z0 z1
              have HZ := Lib.hid hz
              obtain ⟨C, hC, hA⟩ := HB.out.ram
              have hTj : T + j < 8192 := by omega
              have hcm : wr.cell? ⟨Q.m, T + j, none⟩ = some (.int .u8 (laidTo (flt s.f ps q) (ps q) j (T + j))) := by rw [hC.cell]; simpa using hA (T + j) hTj
              have hfm : wr.frozen? ⟨Q.m, T + j, none⟩ = false := hC.frozen _
              have e1 : IntKind.i64.wrap ((T : Int) + (j : Int)) = ((T + j : Nat) : Int) := by rw [IntWalk.i64_in _ (by omega)]; omega
              have e2 : (T : Int) + (j : Int) = ((T + j : Nat) : Int) := by omega
              obtain ⟨E, hE⟩ : ∃ E, T + j = E := ⟨_, rfl⟩
              rw [hE] at hTj hcm hfm e1 e2
              have j0 : (j : Int) < pn := by omega
              have E0 : (E : Int) < 8192 := by omega
              have hM := Lib.hid hC
              have hMA := Lib.hid hA
              have HE := Lib.hid hE
              clear h1 hp0 hp1 hp2 hp3 hz hwf hC hA hE
              go_wp2_with fail
              go_region
              all_goals
                go_wp2_with fail
                have kS : Kp [Q.m] wr (wr.setCell ⟨Q.m, E, none⟩ (.int .u8 z)).drew := ((Kp.refl [Q.m] wr).setCell (p := ⟨Q.m, E, none⟩) (.inl (List.mem_singleton.2 rfl)) _).drew
                have hset : Blk (wr.setCell ⟨Q.m, E, none⟩ (.int .u8 z)).drew Q.m 5 (C.set E (.int .u8 z)).toArray := by
                  have := (hM.out.set_ E (.int .u8 z)).drew_
                  rwa [List.setIfInBounds_toArray] at this
                have hnew : BAt (C.set E (.int .u8 z)) (laidTo (flt s.f ps q) (ps q) (j + 1)) := fun i hi => by
                  rw [← laidTo_fw _ _ _ (by rw [HT.out]; omega) (by rw [HT.out]; omega), HT.out, HZ.out]
                  unfold fw
                  have e3 : (((T : Int) + (j : Int)) % 8192).toNat = E := by omega
                  rw [e3]
                  have hCi := hMA.out i hi
                  by_cases hiE : i = E
                  · subst hiE
                    rw [if_pos rfl, List.getElem?_set_self (List.getElem?_eq_some_iff.1 hCi).1]
                  · rw [if_neg hiE, List.getElem?_set_ne (fun h => hiE h.symm)]
                    exact hCi
                exact ⟨⟨j + 1, by omega, by go_num, HB.out.mem kS hset hnew, HF.out.kp kS (fun hy => hfl (mem_rbL.2 (.inr (.inl (List.mem_singleton.1 hy))))), HK.out.trans kS (fun z hz => .inl hz)⟩, by simp [intOf]; omega⟩
            · obtain rfl : j = pn := by omega
              clear h1 hp0 hp3
              go_wp2_with fail
              have HBn : Hid (RBU W wr g d Q { s with f := flt s.f ps (q + 1) } nx) := Lib.hid (by
                have := HB.out
                rw [← HPN.out] at this
                exact this)
              exact ⟨⟨q + 1, by omega, by go_num, HBn.out, HF.out, HK.out⟩, by simp [intOf]; omega⟩
        · obtain rfl : q = k := by omega
          have c0 : wr.cell? ⟨f0, 0, none⟩ = some (.int .i64 0) := HF.out.cell 0
          have c1 : wr.cell? ⟨f0, 1, none⟩ = some (.int .i64 0) := HF.out.cell 1
          have r0 : wr.frozen? ⟨f0, 0, none⟩ = false := HF.out.frozen 0
          have r1 : wr.frozen? ⟨f0, 1, none⟩ = false := HF.out.frozen 1
          go_wp2_with fail
          refine bodyPost_ret (v := .agg #[.int .i64 0, .int .i64 0]) (results_cell (a := ⟨f0, 0, none⟩) Tryz.results10 (by rfl) (((HF.out.set_ 0 (.int .i64 0)).set_ 1 (.int .i64 0)).run_load (P := Tryz.prog) Tryz.underlying34 rfl (by kernel_rfl))) rfl ?_
          exact RBU.fin HK0.out (HK.out.mono (M := rbL g Q) (fun z hz => mem_rbL.2 (.inr (.inl (List.mem_singleton.1 hz))))) HB.out (((Kp.refl [f0] _).setCell (p := ⟨f0, 0, none⟩) (.inl (List.mem_singleton.2 rfl)) _).setCell (p := ⟨f0, 1, none⟩) (.inl (List.mem_singleton.2 rfl)) _) hfl (by rw [HSZ.out]; exact Nat.le_refl _) hWs
end Go.Proofs.YtleofglnlfpoeaaGreat
namespace Go.Proofs.YtleofglnlfpoeaaGreat
open Go.RowKit
set_option linter.unusedVariables false
theorem fkCells4 {w : World} {A : Option Addr} {n : Nat} {qs : Nat → Nat → Value} (Q : FRow w 4 A n qs) (k : Nat) (hk : k < n) : ∃ ad : Addr, A = some ad ∧ ad.block < w.heap.size ∧ w.cell? (ad.add (k * 4)) = some (qs k 0) ∧
    w.cell? ⟨(ad.add (k * 4)).block, (ad.add (k * 4)).off + 1, none⟩ = some (qs k 1) ∧ w.cell? ⟨(ad.add (k * 4)).block, (ad.add (k * 4)).off + 2, none⟩ = some (qs k 2) ∧ w.cell? ⟨(ad.add (k * 4)).block, (ad.add (k * 4)).off + 3, none⟩ = some (qs k 3) := by
  obtain ⟨ad, e, hl, hc⟩ := Q k hk
  refine ⟨ad, e, hl, hc 0 (by decide), ?_, ?_, ?_⟩
  · have h := hc 1 (by decide)
    rw [← add_of_add] at h; exact h
  · have h := hc 2 (by decide)
    rw [← add_of_add] at h; exact h
  · have h := hc 3 (by decide)
    rw [← add_of_add] at h; exact h
end Go.Proofs.YtleofglnlfpoeaaGreat
