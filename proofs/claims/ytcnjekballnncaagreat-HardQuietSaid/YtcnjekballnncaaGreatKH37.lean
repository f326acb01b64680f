/-
  Texts of these proofs, one behind the other: Rh3, Rh5.
-/
import Derived.Test.YtcnjekballnncaaGreatKH36
import Derived.Test.YtcnjekballnncaaGreatKH30
import Derived.Test.YtcnjekballnncaaGreatKH32
namespace Go.Proofs.YtcnjekballnncaaGreat
open Go.RowKit
set_option linter.unusedVariables false
set_option linter.unusedSimpArgs false
set_option maxRecDepth 100000
section
variable {w : World} {r : Nat} {d : Hd} {J : Rr} {Z : Rz} {x : Hp}
theorem rhup_v (h : RHp w r d J Z x) (hs : x.s ≤ d.n) (hn : d.n ≤ 1000) (R : ERow w Z.A d.n d.es) (l : Int) {u : Bool} (e : upTo d.es x.s l = u) :
    Calls Tryz.prog 88 #[.pointer (some ⟨J.l, 0, none⟩), .int .u8 l] w fun e w' => e = .returned (.bool u) ∧ w = w' := e ▸ rup_any h.l R hs hn l
theorem rqchoose_v {g : Nat} {s : Iq} (h : RQ w g s) {u0 u1 u2 u3 m : Bool} {x : Int} (e : chI s.d s.due u0 u1 u2 u3 m = x) :
    Calls Tryz.prog 92 #[.pointer (some ⟨g, 0, none⟩), .agg #[.bool u0, .bool u1, .bool u2, .bool u3], .bool m] w fun e w' => e = .returned (.int .u8 x) ∧ Below w.heap.size w w' := e ▸ rqchoose_any h u0 u1 u2 u3 m
set_option maxHeartbeats 4000000 in
theorem rhchoose_any (h : RHp w r d J Z x) (hok : x.ok d) (hG : Good d.n d.es) (RE : ERow w Z.A d.n d.es) (m : Bool) :
    Calls Tryz.prog 36 #[.pointer (some ⟨r, 0, none⟩), .bool m] w fun e w' => e = .returned (.int .u8 (x.ch d m)) ∧ Below w.heap.size w w' := by
  have hs : x.s ≤ d.n := hok.2.1
  have hn : d.n ≤ 1000 := hG.1
  have H := Lib.hid (h.kp0 (Kp.refl _ _).drew)
  have HR : Hid (ERow w.drew Z.A d.n d.es) := Lib.hid (FRow.kp RE (L := []) (Kp.refl _ _).drew (by simp))
  obtain ⟨c0, c1, c2, c3, c4, c5, c6, c7⟩ := h.cells
  have l2 : w.cell? ⟨J.l, 2, none⟩ = some (.bool x.ro) := h.l.cell 2
  obtain ⟨u0, h0⟩ : ∃ u, upTo d.es x.s 0 = u := ⟨_, rfl⟩
  obtain ⟨u2, h2⟩ : ∃ u, upTo d.es x.s 2 = u := ⟨_, rfl⟩
  obtain ⟨u3, h3⟩ : ∃ u, upTo d.es x.s 3 = u := ⟨_, rfl⟩
  obtain ⟨v, hv⟩ : ∃ v, x.ch d m = v := ⟨_, rfl⟩
  have hv2 : chI x.q.d x.q.due u0 x.ro u2 u3 m = v := by rw [← hv, ← h0, ← h2, ← h3]; rfl
  rw [hv]
  have H0 := Lib.hid h0
  have H2 := Lib.hid h2
  have H3 := Lib.hid h3
  have HV := Lib.hid hv2
  clear h h0 h2 h3 hv hv2 RE hok hG c0 c1 c3 c4 c5 c7
  go_enter Tryz.func36, Tryz.ntmps36
  go_wp2_with fail
  refine rg_begin (S := fun w' => w'.cell? ⟨r, 2, none⟩ = some (.pointer (some ⟨J.q, 0, none⟩)) ∧ w'.cell? ⟨r, 6, none⟩ = some (.pointer (some ⟨J.l, 0, none⟩)) ∧ w'.cell? ⟨J.l, 2, none⟩ = some (.bool x.ro)) 30 #[false, false, false, false, false, false, false, false, false, false, false, false, false, false, false, false, false, false, false, false, false, false, false, false, false, false, false, false, false, false] (by kernel_rfl) (by kernel_rfl) (by kernel_rfl) ?_ (fun hHeld => ?_)
  · exact ⟨c2, c6, l2⟩
  refine rg_take (i := 0) (d := some 5) (l := #[true, false, false, false, false, false, false, false, false, false, false, false, false, false, false, false, false, false, false, false, false, false, false, false, false, false, false, false, false, false]) (fuel := 29) (v := ?_) rfl (by kernel_rfl) (by kernel_rfl) (by kernel_rfl) (by kernel_rfl) (by kernel_rfl) (fun _ _ _ h => h) (by kernel_rfl) ?_ (by assumption) ?_
  rotate_left 1
  · (intro wS hSw; (try dsimp only at hSw); go_simp; try with_reducible rfl)
  try simp only [Act.put, List.setIfInBounds_toArray, List.set_cons_zero, List.set_cons_succ]
  refine rg_take (i := 1) (d := some 6) (l := #[true, true, false, false, false, false, false, false, false, false, false, false, false, false, false, false, false, false, false, false, false, false, false, false, false, false, false, false, false, false]) (fuel := 28) (v := ?_) rfl (by kernel_rfl) (by kernel_rfl) (by kernel_rfl) (by kernel_rfl) (by kernel_rfl) (fun _ _ _ h => h) (by kernel_rfl) ?_ (by assumption) ?_
  rotate_left 1
  · (intro wS hSw; (try dsimp only at hSw); go_simp; try with_reducible rfl)
  try simp only [Act.put, List.setIfInBounds_toArray, List.set_cons_zero, List.set_cons_succ]
  refine rg_take (i := 2) (d := some 7) (l := #[true, true, true, false, false, false, false, false, false, false, false, false, false, false, false, false, false, false, false, false, false, false, false, false, false, false, false, false, false, false]) (fuel := 27) (v := ?_) rfl (by kernel_rfl) (by kernel_rfl) (by kernel_rfl) (by kernel_rfl) (by kernel_rfl) (fun _ _ _ h => h) (by kernel_rfl) ?_ (by assumption) ?_
  rotate_left 1
  · (intro wS hSw; (try dsimp only at hSw); go_simp; try with_reducible rfl)
  try simp only [Act.put, List.setIfInBounds_toArray, List.set_cons_zero, List.set_cons_succ]
  refine rg_take (i := 3) (d := some 8) (l := #[true, true, true, true, false, false, false, false, false, false, false, false, false, false, false, false, false, false, false, false, false, false, false, false, false, false, false, false, false, false]) (fuel := 26) (v := ?_) rfl (by kernel_rfl) (by kernel_rfl) (by kernel_rfl) (by kernel_rfl) (by kernel_rfl) (fun _ _ _ h => h) (by kernel_rfl) ?_ (by assumption) ?_
  rotate_left 1
  · (intro wS hSw; (try dsimp only at hSw); go_simp; try with_reducible rfl)
  try simp only [Act.put, List.setIfInBounds_toArray, List.set_cons_zero, List.set_cons_succ]
  refine rg_take (i := 4) (d := some 9) (l := #[true, true, true, true, true, false, false, false, false, false, false, false, false, false, false, false, false, false, false, false, false, false, false, false, false, false, false, false, false, false]) (fuel := 25) (v := ?_) rfl (by kernel_rfl) (by kernel_rfl) (by kernel_rfl) (by kernel_rfl) (by kernel_rfl) (fun _ _ _ h => h) (by kernel_rfl) ?_ (by assumption) ?_
  rotate_left 1
  · (intro wS hSw; (try dsimp only at hSw); go_simp; try with_reducible rfl)
  try simp only [Act.put, List.setIfInBounds_toArray, List.set_cons_zero, List.set_cons_succ]
  refine rg_take (i := 5) (d := some 10) (l := #[true, true, true, true, true, true, false, false, false, false, false, false, false, false, false, false, false, false, false, false, false, false, false, false, false, false, false, false, false, false]) (fuel := 24) (v := ?_) rfl (by kernel_rfl) (by kernel_rfl) (by kernel_rfl) (by kernel_rfl) (by kernel_rfl) (fun _ _ _ h => h) (by kernel_rfl) ?_ (by assumption) ?_
  rotate_left 1
  · (intro wS hSw; (try dsimp only at hSw); go_simp; try with_reducible rfl)
  try simp only [Act.put, List.setIfInBounds_toArray, List.set_cons_zero, List.set_cons_succ]
  refine rg_take (i := 6) (d := some 11) (l := #[true, true, true, true, true, true, true, false, false, false, false, false, false, false, false, false, false, false, false, false, false, false, false, false, false, false, false, false, false, false]) (fuel := 23) (v := ?_) rfl (by kernel_rfl) (by kernel_rfl) (by kernel_rfl) (by kernel_rfl) (by kernel_rfl) (fun _ _ _ h => h) (by kernel_rfl) ?_ (by assumption) ?_
  rotate_left 1
  · (intro wS hSw; (try dsimp only at hSw); go_simp; try with_reducible rfl)
  try simp only [Act.put, List.setIfInBounds_toArray, List.set_cons_zero, List.set_cons_succ]
  refine rg_take (i := 7) (d := some 12) (l := #[true, true, true, true, true, true, true, true, false, false, false, false, false, false, false, false, false, false, false, false, false, false, false, false, false, false, false, false, false, false]) (fuel := 22) (v := ?_) rfl (by kernel_rfl) (by kernel_rfl) (by kernel_rfl) (by kernel_rfl) (by kernel_rfl) (fun _ _ _ h => h) (by kernel_rfl) ?_ (by assumption) ?_
  rotate_left 1
  · (intro wS hSw; (try dsimp only at hSw); go_simp; try with_reducible rfl)
  try simp only [Act.put, List.setIfInBounds_toArray, List.set_cons_zero, List.set_cons_succ]
  refine rg_take (i := 9) (d := some 14) (l := #[true, true, true, true, true, true, true, true, false, true, false, false, false, false, false, false, false, false, false, false, false, false, false, false, false, false, false, false, false, false]) (fuel := 21) (v := ?_) rfl (by kernel_rfl) (by kernel_rfl) (by kernel_rfl) (by kernel_rfl) (by kernel_rfl) (fun _ _ _ h => h) (by kernel_rfl) ?_ (by assumption) ?_
  rotate_left 1
  · (intro wS hSw; (try dsimp only at hSw); go_simp; try with_reducible rfl)
  try simp only [Act.put, List.setIfInBounds_toArray, List.set_cons_zero, List.set_cons_succ]
  refine rg_take (i := 10) (d := some 15) (l := #[true, true, true, true, true, true, true, true, false, true, true, false, false, false, false, false, false, false, false, false, false, false, false, false, false, false, false, false, false, false]) (fuel := 20) (v := ?_) rfl (by kernel_rfl) (by kernel_rfl) (by kernel_rfl) (by kernel_rfl) (by kernel_rfl) (fun _ _ _ h => h) (by kernel_rfl) ?_ (by assumption) ?_
  rotate_left 1
  · (intro wS hSw; (try dsimp only at hSw); go_simp; try with_reducible rfl)
  try simp only [Act.put, List.setIfInBounds_toArray, List.set_cons_zero, List.set_cons_succ]
  refine rg_take (i := 11) (d := some 16) (l := #[true, true, true, true, true, true, true, true, false, true, true, true, false, false, false, false, false, false, false, false, false, false, false, false, false, false, false, false, false, false]) (fuel := 19) (v := ?_) rfl (by kernel_rfl) (by kernel_rfl) (by kernel_rfl) (by kernel_rfl) (by kernel_rfl) (fun _ _ _ h => h) (by kernel_rfl) ?_ (by assumption) ?_
  rotate_left 1
  · (intro wS hSw; (try dsimp only at hSw); go_simp; try with_reducible rfl)
  try simp only [Act.put, List.setIfInBounds_toArray, List.set_cons_zero, List.set_cons_succ]
  refine rg_take (i := 12) (d := some 17) (l := #[true, true, true, true, true, true, true, true, false, true, true, true, true, false, false, false, false, false, false, false, false, false, false, false, false, false, false, false, false, false]) (fuel := 18) (v := ?_) rfl (by kernel_rfl) (by kernel_rfl) (by kernel_rfl) (by kernel_rfl) (by kernel_rfl) (fun _ _ _ h => h) (by kernel_rfl) ?_ (by assumption) ?_
  rotate_left 1
  · (intro wS hSw; (try dsimp only at hSw); go_simp; try with_reducible rfl)
  try simp only [Act.put, List.setIfInBounds_toArray, List.set_cons_zero, List.set_cons_succ]
  refine rg_take (i := 13) (d := some 18) (l := #[true, true, true, true, true, true, true, true, false, true, true, true, true, true, false, false, false, false, false, false, false, false, false, false, false, false, false, false, false, false]) (fuel := 17) (v := ?_) rfl (by kernel_rfl) (by kernel_rfl) (by kernel_rfl) (by kernel_rfl) (by kernel_rfl) (fun _ _ _ h => h) (by kernel_rfl) ?_ (by assumption) ?_
  rotate_left 1
  · (intro wS hSw; (try dsimp only at hSw); go_simp; try with_reducible rfl)
  try simp only [Act.put, List.setIfInBounds_toArray, List.set_cons_zero, List.set_cons_succ]
  refine rg_take (i := 14) (d := some 19) (l := #[true, true, true, true, true, true, true, true, false, true, true, true, true, true, true, false, false, false, false, false, false, false, false, false, false, false, false, false, false, false]) (fuel := 16) (v := ?_) rfl (by kernel_rfl) (by kernel_rfl) (by kernel_rfl) (by kernel_rfl) (by kernel_rfl) (fun _ _ _ h => h) (by kernel_rfl) ?_ (by assumption) ?_
  rotate_left 1
  · (intro wS hSw; (try dsimp only at hSw); go_simp; try with_reducible rfl)
  try simp only [Act.put, List.setIfInBounds_toArray, List.set_cons_zero, List.set_cons_succ]
  refine rg_take (i := 15) (d := some 20) (l := #[true, true, true, true, true, true, true, true, false, true, true, true, true, true, true, true, false, false, false, false, false, false, false, false, false, false, false, false, false, false]) (fuel := 15) (v := ?_) rfl (by kernel_rfl) (by kernel_rfl) (by kernel_rfl) (by kernel_rfl) (by kernel_rfl) (fun _ _ _ h => h) (by kernel_rfl) ?_ (by assumption) ?_
  rotate_left 1
  · (intro wS hSw; (try dsimp only at hSw); go_simp; try with_reducible rfl)
  try simp only [Act.put, List.setIfInBounds_toArray, List.set_cons_zero, List.set_cons_succ]
  refine rg_take (i := 16) (d := some 21) (l := #[true, true, true, true, true, true, true, true, false, true, true, true, true, true, true, true, true, false, false, false, false, false, false, false, false, false, false, false, false, false]) (fuel := 14) (v := ?_) rfl (by kernel_rfl) (by kernel_rfl) (by kernel_rfl) (by kernel_rfl) (by kernel_rfl) (fun _ _ _ h => h) (by kernel_rfl) ?_ (by assumption) ?_
  rotate_left 1
  · (intro wS hSw; (try dsimp only at hSw); go_simp; try with_reducible rfl)
  try simp only [Act.put, List.setIfInBounds_toArray, List.set_cons_zero, List.set_cons_succ]
  refine rg_take (i := 17) (d := some 22) (l := #[true, true, true, true, true, true, true, true, false, true, true, true, true, true, true, true, true, true, false, false, false, false, false, false, false, false, false, false, false, false]) (fuel := 13) (v := ?_) rfl (by kernel_rfl) (by kernel_rfl) (by kernel_rfl) (by kernel_rfl) (by kernel_rfl) (fun _ _ _ h => h) (by kernel_rfl) ?_ (by assumption) ?_
  rotate_left 1
  · (intro wS hSw; (try dsimp only at hSw); go_simp; try with_reducible rfl)
  try simp only [Act.put, List.setIfInBounds_toArray, List.set_cons_zero, List.set_cons_succ]
  refine rg_take (i := 18) (d := some 23) (l := #[true, true, true, true, true, true, true, true, false, true, true, true, true, true, true, true, true, true, true, false, false, false, false, false, false, false, false, false, false, false]) (fuel := 12) (v := ?_) rfl (by kernel_rfl) (by kernel_rfl) (by kernel_rfl) (by kernel_rfl) (by kernel_rfl) (fun _ _ _ h => h) (by kernel_rfl) ?_ (by assumption) ?_
  rotate_left 1
  · (intro wS hSw; (try dsimp only at hSw); go_simp; try with_reducible rfl)
  try simp only [Act.put, List.setIfInBounds_toArray, List.set_cons_zero, List.set_cons_succ]
  refine rg_take (i := 19) (d := some 24) (l := #[true, true, true, true, true, true, true, true, false, true, true, true, true, true, true, true, true, true, true, true, false, false, false, false, false, false, false, false, false, false]) (fuel := 11) (v := ?_) rfl (by kernel_rfl) (by kernel_rfl) (by kernel_rfl) (by kernel_rfl) (by kernel_rfl) (fun _ _ _ h => h) (by kernel_rfl) ?_ (by assumption) ?_
  rotate_left 1
  · (intro wS hSw; (try dsimp only at hSw); go_simp; try with_reducible rfl)
  try simp only [Act.put, List.setIfInBounds_toArray, List.set_cons_zero, List.set_cons_succ]
  refine rg_take (i := 21) (d := some 26) (l := #[true, true, true, true, true, true, true, true, false, true, true, true, true, true, true, true, true, true, true, true, false, true, false, false, false, false, false, false, false, false]) (fuel := 10) (v := ?_) rfl (by kernel_rfl) (by kernel_rfl) (by kernel_rfl) (by kernel_rfl) (by kernel_rfl) (fun _ _ _ h => h) (by kernel_rfl) ?_ (by assumption) ?_
  rotate_left 1
  · (intro wS hSw; (try dsimp only at hSw); go_simp; try with_reducible rfl)
  try simp only [Act.put, List.setIfInBounds_toArray, List.set_cons_zero, List.set_cons_succ]
  refine rg_take (i := 22) (d := some 27) (l := #[true, true, true, true, true, true, true, true, false, true, true, true, true, true, true, true, true, true, true, true, false, true, true, false, false, false, false, false, false, false]) (fuel := 9) (v := ?_) rfl (by kernel_rfl) (by kernel_rfl) (by kernel_rfl) (by kernel_rfl) (by kernel_rfl) (fun _ _ _ h => h) (by kernel_rfl) ?_ (by assumption) ?_
  rotate_left 1
  · (intro wS hSw; (try dsimp only at hSw); go_simp; try with_reducible rfl)
  try simp only [Act.put, List.setIfInBounds_toArray, List.set_cons_zero, List.set_cons_succ]
  refine rg_take (i := 23) (d := some 28) (l := #[true, true, true, true, true, true, true, true, false, true, true, true, true, true, true, true, true, true, true, true, false, true, true, true, false, false, false, false, false, false]) (fuel := 8) (v := ?_) rfl (by kernel_rfl) (by kernel_rfl) (by kernel_rfl) (by kernel_rfl) (by kernel_rfl) (fun _ _ _ h => h) (by kernel_rfl) ?_ (by assumption) ?_
  rotate_left 1
  · (intro wS hSw; (try dsimp only at hSw); go_simp; try with_reducible rfl)
  try simp only [Act.put, List.setIfInBounds_toArray, List.set_cons_zero, List.set_cons_succ]
  refine rg_take (i := 24) (d := some 29) (l := #[true, true, true, true, true, true, true, true, false, true, true, true, true, true, true, true, true, true, true, true, false, true, true, true, true, false, false, false, false, false]) (fuel := 7) (v := ?_) rfl (by kernel_rfl) (by kernel_rfl) (by kernel_rfl) (by kernel_rfl) (by kernel_rfl) (fun _ _ _ h => h) (by kernel_rfl) ?_ (by assumption) ?_
  rotate_left 1
  · (intro wS hSw; (try dsimp only at hSw); go_simp; try with_reducible rfl)
  try simp only [Act.put, List.setIfInBounds_toArray, List.set_cons_zero, List.set_cons_succ]
  refine rg_take (i := 27) (d := some 32) (l := #[true, true, true, true, true, true, true, true, false, true, true, true, true, true, true, true, true, true, true, true, false, true, true, true, true, false, false, true, false, false]) (fuel := 6) (v := ?_) rfl (by kernel_rfl) (by kernel_rfl) (by kernel_rfl) (by kernel_rfl) (by kernel_rfl) (fun _ _ _ h => h) (by kernel_rfl) ?_ (by assumption) ?_
  rotate_left 1
  · (intro wS hSw; (try dsimp only at hSw); go_simp; try with_reducible rfl)
  try simp only [Act.put, List.setIfInBounds_toArray, List.set_cons_zero, List.set_cons_succ]
  refine rg_next (i := 8) (l := #[true, true, true, true, true, true, true, true, true, true, true, true, true, true, true, true, true, true, true, true, false, true, true, true, true, false, false, true, false, false]) (fuel := 5) (by kernel_rfl) rfl (by kernel_rfl) (by kernel_rfl) (fun K hK => ?_)
  go_simp
  (go_at_call 88)
  refine (rhup_v H.out hs hn HR.out 0 H0.out).mono ?_
  rintro e w' ⟨rfl, rfl⟩
  first | (refine hK.out _ _ ?_ (fun hHeld => ?_)) | (go_wp2_with fail; refine hK.out _ _ ?_ (fun hHeld => ?_))
  · (try dsimp only); exact ⟨c2, c6, l2⟩
  clear hK K
  try simp only [Act.put, List.setIfInBounds_toArray, List.set_cons_zero, List.set_cons_succ]
  refine rg_next (i := 20) (l := #[true, true, true, true, true, true, true, true, true, true, true, true, true, true, true, true, true, true, true, true, true, true, true, true, true, false, false, true, false, false]) (fuel := 4) (by kernel_rfl) rfl (by kernel_rfl) (by kernel_rfl) (fun K hK => ?_)
  go_simp
  (go_at_call 88)
  refine (rhup_v H.out hs hn HR.out 2 H2.out).mono ?_
  rintro e w' ⟨rfl, rfl⟩
  first | (refine hK.out _ _ ?_ (fun hHeld => ?_)) | (go_wp2_with fail; refine hK.out _ _ ?_ (fun hHeld => ?_))
  · (try dsimp only); exact ⟨c2, c6, l2⟩
  clear hK K
  try simp only [Act.put, List.setIfInBounds_toArray, List.set_cons_zero, List.set_cons_succ]
  refine rg_next (i := 25) (l := #[true, true, true, true, true, true, true, true, true, true, true, true, true, true, true, true, true, true, true, true, true, true, true, true, true, true, false, true, false, false]) (fuel := 3) (by kernel_rfl) rfl (by kernel_rfl) (by kernel_rfl) (fun K hK => ?_)
  go_simp
  (go_at_call 88)
  refine (rhup_v H.out hs hn HR.out 3 H3.out).mono ?_
  rintro e w' ⟨rfl, rfl⟩
  first | (refine hK.out _ _ ?_ (fun hHeld => ?_)) | (go_wp2_with fail; refine hK.out _ _ ?_ (fun hHeld => ?_))
  · (try dsimp only); exact ⟨c2, c6, l2⟩
  clear hK K
  try simp only [Act.put, List.setIfInBounds_toArray, List.set_cons_zero, List.set_cons_succ]
  refine rg_take (i := 26) (d := some 31) (l := #[true, true, true, true, true, true, true, true, true, true, true, true, true, true, true, true, true, true, true, true, true, true, true, true, true, true, true, true, false, false]) (fuel := 2) (v := ?_) rfl (by kernel_rfl) (by kernel_rfl) (by kernel_rfl) (by kernel_rfl) (by kernel_rfl) (fun _ _ _ h => h) (by kernel_rfl) ?_ (by assumption) ?_
  rotate_left 1
  · (intro wS hSw; (try dsimp only at hSw); go_simp; try with_reducible rfl)
  try simp only [Act.put, List.setIfInBounds_toArray, List.set_cons_zero, List.set_cons_succ]
  refine rg_next (i := 28) (l := #[true, true, true, true, true, true, true, true, true, true, true, true, true, true, true, true, true, true, true, true, true, true, true, true, true, true, true, true, true, false]) (fuel := 1) (by kernel_rfl) rfl (by kernel_rfl) (by kernel_rfl) (fun K hK => ?_)
  go_simp
  (go_at_call 92)
  refine (rqchoose_v H.out.q HV.out).mono ?_
  rintro e w1 ⟨rfl, b1⟩
  have B1 : Hid (Below w.heap.size w w1) := Lib.hid ((Below.refl _ w).drew.trans b1)
  have H1 := Lib.hid (H.out.keep b1)
  have x2 := H1.out.cells.2.2.1
  have x6 := H1.out.cells.2.2.2.2.2.2.1
  have y2 : w1.cell? ⟨J.l, 2, none⟩ = some (.bool x.ro) := H1.out.l.cell 2
  clear b1
  first | (refine hK.out _ _ ?_ (fun hHeld => ?_)) | (go_wp2_with fail; refine hK.out _ _ ?_ (fun hHeld => ?_))
  · (try dsimp only); exact ⟨x2, x6, y2⟩
  clear hK K
  try simp only [Act.put, List.setIfInBounds_toArray, List.set_cons_zero, List.set_cons_succ]
  refine rg_take (i := 29) (d := some 4) (l := #[true, true, true, true, true, true, true, true, true, true, true, true, true, true, true, true, true, true, true, true, true, true, true, true, true, true, true, true, true, true]) (fuel := 0) (v := ?_) rfl (by kernel_rfl) (by kernel_rfl) (by kernel_rfl) (by kernel_rfl) (by kernel_rfl) (fun _ _ _ h => h) (by kernel_rfl) ?_ (by assumption) ?_
  rotate_left 1
  · (intro wS hSw; (try dsimp only at hSw); go_simp; try with_reducible rfl)
  try simp only [Act.put, List.setIfInBounds_toArray, List.set_cons_zero, List.set_cons_succ]
  refine wpAnyH_done (by kernel_rfl) ?_ _
  go_wp2_with fail
  go_ret
  exact ⟨rfl, B1.out⟩
set_option maxHeartbeats 4000000 in
theorem rhentered_any (h : RHp w r d J Z x) (k : Int) (k0 : 0 ≤ k) (k1 : k ≤ 255) :
    Calls Tryz.prog 35 #[.pointer (some ⟨r, 0, none⟩), .int .u8 k] w (RhR (.tuple #[]) r d J Z (x.en k) (J.all r) w) := by
  obtain ⟨c0, c1, c2, c3, c4, c5, c6, c7⟩ := h.cells
  have H := Lib.hid h
  clear h
  by_cases h2 : k = 2
  · subst h2
    have e : x.en 2 = { x with ro := false } := by unfold Hp.en; rw [if_pos rfl]
    rw [e]
    have l2 : w.cell? ⟨J.l, 2, none⟩ = some (.bool x.ro) := H.out.l.cell 2
    have f2 := H.out.l.frozen 2
    clear e
    go_enter Tryz.func35, Tryz.ntmps35
    go_wp2
    first | go_end0 | refine bodyPost_ret (results_none rfl _ _ _) rfl ?_
    have kp : Kp [J.l] w (w.setCell ⟨J.l, 2, none⟩ (.bool false)) := (Kp.refl _ _).setCell (.inl (by simp)) _
    exact ⟨rfl, H.out.vl (s := x.s) (ro := false) (H.out.l.set_ 2 _) kp, kp.mono (by simp [Rr.all])⟩
  · have n2 : (k == 2) = false := by simpa using h2
    by_cases h1 : k = 1
    · subst h1
      have e : x.en 1 = { x with tm := ⟨x.tm.gone, x.tm.c, x.tm.r, false⟩, q := ⟨0, false⟩ } := by
        unfold Hp.en; rw [if_neg (by decide), if_pos rfl]; rfl
      rw [e]
      clear e h2 n2
      have t2 : w.cell? ⟨J.t, 2, none⟩ = some (.bool x.tm.on) := H.out.tm.1.cell 2
      have f2 := H.out.tm.1.frozen 2
      have kt : Kp [J.t] w (w.setCell ⟨J.t, 2, none⟩ (.bool false)) := (Kp.refl _ _).setCell (.inl (by simp)) _
      have H1 : Hid (RHp (w.setCell ⟨J.t, 2, none⟩ (.bool false)) r d J Z { x with tm := ⟨x.tm.gone, x.tm.c, x.tm.r, false⟩ }) := Lib.hid (H.out.vtm (s := ⟨x.tm.gone, x.tm.c, x.tm.r, false⟩) ⟨H.out.tm.1.set_ 2 _, H.out.tm.2⟩ kt)
      have a2 := H1.out.cells.2.2.1
      have q0 : (w.setCell ⟨J.t, 2, none⟩ (.bool false)).cell? ⟨J.q, 0, none⟩ = some (.int .u8 x.q.d) := H1.out.q.1.cell 0
      have g0 := H1.out.q.1.frozen 0
      have kq : Kp [J.q] (w.setCell ⟨J.t, 2, none⟩ (.bool false)) ((w.setCell ⟨J.t, 2, none⟩ (.bool false)).setCell ⟨J.q, 0, none⟩ (.int .u8 0)) := (Kp.refl _ _).setCell (.inl (by simp)) _
      have H2 : Hid (RHp ((w.setCell ⟨J.t, 2, none⟩ (.bool false)).setCell ⟨J.q, 0, none⟩ (.int .u8 0)) r d J Z { x with tm := ⟨x.tm.gone, x.tm.c, x.tm.r, false⟩, q := ⟨0, x.q.due⟩ }) := Lib.hid (H1.out.vq (s := ⟨0, x.q.due⟩) ⟨H1.out.q.1.set_ 0 _, Nat.zero_le _⟩ kq)
      have b2 := H2.out.cells.2.2.1
      have q1 : ((w.setCell ⟨J.t, 2, none⟩ (.bool false)).setCell ⟨J.q, 0, none⟩ (.int .u8 0)).cell? ⟨J.q, 1, none⟩ = some (.bool x.q.due) := H2.out.q.1.cell 1
      have g1 := H2.out.q.1.frozen 1
      go_enter Tryz.func35, Tryz.ntmps35
      go_wp2
      first | go_end0 | refine bodyPost_ret (results_none rfl _ _ _) rfl ?_
      have kr : Kp [J.q] ((w.setCell ⟨J.t, 2, none⟩ (.bool false)).setCell ⟨J.q, 0, none⟩ (.int .u8 0)) (((w.setCell ⟨J.t, 2, none⟩ (.bool false)).setCell ⟨J.q, 0, none⟩ (.int .u8 0)).setCell ⟨J.q, 1, none⟩ (.bool false)) := (Kp.refl _ _).setCell (.inl (by simp)) _
      refine ⟨rfl, H2.out.vq (s := ⟨0, false⟩) ⟨H2.out.q.1.set_ 1 _, by decide⟩ kr, ?_⟩
      exact ((kt.mono (M := J.all r) (by simp [Rr.all])).trans (kq.mono (M := J.all r) (by simp [Rr.all])) (fun z hz => .inl hz)).trans (kr.mono (M := J.all r) (by simp [Rr.all])) (fun z hz => .inl hz)
    · have n1 : (k == 1) = false := by simpa using h1
      have e : x.en k = x := by unfold Hp.en; rw [if_neg h2, if_neg h1]
      rw [e]
      clear e
      go_enter Tryz.func35, Tryz.ntmps35
      go_wp2
      first | go_end0 | refine bodyPost_ret (results_none rfl _ _ _) rfl ?_
      exact ⟨rfl, H.out, Kp.refl _ _⟩
end
end Go.Proofs.YtcnjekballnncaaGreat
namespace Go.Proofs.YtcnjekballnncaaGreat
open Go.RowKit
set_option linter.unusedVariables false
set_option linter.unusedSimpArgs false
set_option maxRecDepth 100000
theorem rat_v {o a : Int} {w : World} (o0 : 0 ≤ o) (o1 : o ≤ 65535) (e : plA o = a) : Calls Tryz.prog 82 #[.int .u16 o] w fun e w' => e = .returned (.int .u32 a) ∧ w = w' := by
  rw [← e]
  unfold plA
  clear e
  go_enter Tryz.func82, Tryz.ntmps82
  go_wp2
  go_ret
  exact ⟨by simp, rfl⟩
theorem rwhere_v {a k : Int} {w : World} (a0 : 0 ≤ a) (a1 : a ≤ 4294967295) (e : whereI a = k) : Calls Tryz.prog 18 #[.int .u32 a] w fun e w' => e = .returned (.int .u8 k) ∧ Below w.heap.size w w' := e ▸ rwhere_any a w a0 a1
theorem rreg_v {a k : Int} {w : World} (a0 : 0 ≤ a) (a1 : a ≤ 4294967295) (e : regI a = k) : Calls Tryz.prog 86 #[.int .u32 a] w fun e w' => e = .returned (.int .i64 k) ∧ Below w.heap.size w w' := e ▸ rreg_any a w a0 a1
section
variable {w : World} {r : Nat} {d : Hd} {J : Rr} {Z : Rz} {x : Hp}
set_option maxHeartbeats 4000000 in
theorem rhwrite5 (h : RHp w r d J Z x) (off : Int) (o0 : 0 ≤ off) (o1 : off ≤ 65535) (u : Int) (u0 : 0 ≤ u) (u1 : u ≤ 255) (hk : whereI (plA off) = 5) :
    Calls Tryz.prog 34 #[.pointer (some ⟨r, 0, none⟩), .int .u16 off, .int .u8 u] w (RhR (.tuple #[]) r d J Z { x with buf := u } (J.all r) w) := by
    obtain ⟨a0, a1⟩ := plA_bd off o0
    have H := Lib.hid h
    have HK := Lib.hid hk
    clear h hk
    go_enter Tryz.func34, Tryz.ntmps34
    go_wp2_with fail
    refine (rat_v o0 o1 rfl).mono ?_
    rintro e w' ⟨rfl, rfl⟩
    go_wp2_with fail
    refine (rwhere_v a0 a1 HK.out).mono ?_
    rintro e w1 ⟨rfl, b1⟩
    have H1 := Lib.hid (H.out.keep b1)
    have K1 : Hid (Kp [] w w1) := Lib.hid (Kp.of_below b1)
    clear b1 H
    have z0 := H1.out.cells.1
    have g0 := H1.out.pg.frozen 0
    obtain ⟨r1, r2⟩ := H1.out.vbuf u
    have H2 := Lib.hid r1
    have K2 : Hid (Kp (J.all r) w (w1.setCell ⟨r, 0, none⟩ (.int .u8 u))) := Lib.hid ((K1.out.mono (by simp)).trans (r2.mono (M := J.all r) (by simp [Rr.all])) (fun z hz => .inl hz))
    obtain ⟨e0, e1, e2, e3, e4, e5, e6, e7⟩ := H2.out.cells
    clear r1 r2
    go_wp2_with fail
    first | go_end0 | refine bodyPost_ret (results_none rfl _ _ _) rfl ?_
    exact ⟨rfl, H2.out, K2.out⟩
set_option maxHeartbeats 4000000 in
theorem rhwrite6 (h : RHp w r d J Z x) (off : Int) (o0 : 0 ≤ off) (o1 : off ≤ 65535) (u : Int) (u0 : 0 ≤ u) (u1 : u ≤ 255) (hk : whereI (plA off) = 6) :
    Calls Tryz.prog 34 #[.pointer (some ⟨r, 0, none⟩), .int .u16 off, .int .u8 u] w (RhR (.tuple #[]) r d J Z { x with tm := x.tm.wr (regI (plA off)) u, buf := u } (J.all r) w) := by
    obtain ⟨a0, a1⟩ := plA_bd off o0
    have H := Lib.hid h
    have HK := Lib.hid hk
    clear h hk
    go_enter Tryz.func34, Tryz.ntmps34
    go_wp2_with fail
    refine (rat_v o0 o1 rfl).mono ?_
    rintro e w' ⟨rfl, rfl⟩
    go_wp2_with fail
    refine (rwhere_v a0 a1 HK.out).mono ?_
    rintro e w1 ⟨rfl, b1⟩
    have H1 := Lib.hid (H.out.keep b1)
    have K1 : Hid (Kp [] w w1) := Lib.hid (Kp.of_below b1)
    clear b1 H
    have z0 := H1.out.cells.1
    have g0 := H1.out.pg.frozen 0
    obtain ⟨r1, r2⟩ := H1.out.vbuf u
    have H2 := Lib.hid r1
    have K2 : Hid (Kp (J.all r) w (w1.setCell ⟨r, 0, none⟩ (.int .u8 u))) := Lib.hid ((K1.out.mono (by simp)).trans (r2.mono (M := J.all r) (by simp [Rr.all])) (fun z hz => .inl hz))
    obtain ⟨e0, e1, e2, e3, e4, e5, e6, e7⟩ := H2.out.cells
    clear r1 r2
    go_wp2_with fail
    clear z0 g0
    generalize World.setCell _ _ _ = w2 at *
    refine rg_begin (S := fun w' => w'.cell? ⟨r, 1, none⟩ = some (.pointer (some ⟨J.t, 0, none⟩))) 8 #[false, false, false, false, false, false, false, false] (by kernel_rfl) (by kernel_rfl) (by kernel_rfl) ?_ (fun hHeld => ?_)
    · exact e1
    refine rg_take (i := 0) (d := some 32) (l := #[true, false, false, false, false, false, false, false]) (fuel := 7) (v := ?_) rfl (by kernel_rfl) (by kernel_rfl) (by kernel_rfl) (by kernel_rfl) (by kernel_rfl) (fun _ _ _ h => h) (by kernel_rfl) ?_ (by assumption) ?_
    rotate_left 1
    · (intro wS hSw; (try dsimp only at hSw); go_simp; try with_reducible rfl)
    try simp only [Act.put, List.setIfInBounds_toArray, List.set_cons_zero, List.set_cons_succ]
    refine rg_take (i := 1) (d := some 33) (l := #[true, true, false, false, false, false, false, false]) (fuel := 6) (v := ?_) rfl (by kernel_rfl) (by kernel_rfl) (by kernel_rfl) (by kernel_rfl) (by kernel_rfl) (fun _ _ _ h => h) (by kernel_rfl) ?_ (by assumption) ?_
    rotate_left 1
    · (intro wS hSw; (try dsimp only at hSw); go_simp; try with_reducible rfl)
    try simp only [Act.put, List.setIfInBounds_toArray, List.set_cons_zero, List.set_cons_succ]
    refine rg_take (i := 2) (d := some 34) (l := #[true, true, true, false, false, false, false, false]) (fuel := 5) (v := ?_) rfl (by kernel_rfl) (by kernel_rfl) (by kernel_rfl) (by kernel_rfl) (by kernel_rfl) (fun _ _ _ h => h) (by kernel_rfl) ?_ (by assumption) ?_
    rotate_left 1
    · (intro wS hSw; (try dsimp only at hSw); go_simp; try with_reducible rfl)
    try simp only [Act.put, List.setIfInBounds_toArray, List.set_cons_zero, List.set_cons_succ]
    refine rg_take (i := 3) (d := some 35) (l := #[true, true, true, true, false, false, false, false]) (fuel := 4) (v := ?_) rfl (by kernel_rfl) (by kernel_rfl) (by kernel_rfl) (by kernel_rfl) (by kernel_rfl) (fun _ _ _ h => h) (by kernel_rfl) ?_ (by assumption) ?_
    rotate_left 1
    · (intro wS hSw; (try dsimp only at hSw); go_simp; try with_reducible rfl)
    try simp only [Act.put, List.setIfInBounds_toArray, List.set_cons_zero, List.set_cons_succ]
    refine rg_take (i := 4) (d := some 36) (l := #[true, true, true, true, true, false, false, false]) (fuel := 3) (v := ?_) rfl (by kernel_rfl) (by kernel_rfl) (by kernel_rfl) (by kernel_rfl) (by kernel_rfl) (fun _ _ _ h => h) (by kernel_rfl) ?_ (by assumption) ?_
    rotate_left 1
    · (intro wS hSw; (try dsimp only at hSw); go_simp; try with_reducible rfl)
    try simp only [Act.put, List.setIfInBounds_toArray, List.set_cons_zero, List.set_cons_succ]
    refine rg_take (i := 6) (d := some 38) (l := #[true, true, true, true, true, false, true, false]) (fuel := 2) (v := ?_) rfl (by kernel_rfl) (by kernel_rfl) (by kernel_rfl) (by kernel_rfl) (by kernel_rfl) (fun _ _ _ h => h) (by kernel_rfl) ?_ (by assumption) ?_
    rotate_left 1
    · (intro wS hSw; (try dsimp only at hSw); go_simp; try with_reducible rfl)
    try simp only [Act.put, List.setIfInBounds_toArray, List.set_cons_zero, List.set_cons_succ]
    refine rg_next (i := 5) (l := #[true, true, true, true, true, true, true, false]) (fuel := 1) (by kernel_rfl) rfl (by kernel_rfl) (by kernel_rfl) (fun K hK => ?_)
    go_simp
    (go_at_call 86)
    refine (rreg_v a0 a1 rfl).mono ?_
    rintro e w3 ⟨rfl, b3⟩
    have H3 := Lib.hid ((H2.out.kp0 (Kp.refl _ _).drew).keep b3)
    have K3 : Hid (Kp (J.all r) w w3) := Lib.hid (K2.out.drew.trans (Kp.of_below (L := []) b3) (by simp))
    clear b3 H2 K2 e0 e1 e2 e3 e4 e5 e6 e7
    obtain ⟨e0, e1, e2, e3, e4, e5, e6, e7⟩ := H3.out.cells
    first | (refine hK.out _ _ ?_ (fun hHeld => ?_)) | (go_wp2_with fail; refine hK.out _ _ ?_ (fun hHeld => ?_))
    · (try dsimp only); exact e1
    clear hK K
    try simp only [Act.put, List.setIfInBounds_toArray, List.set_cons_zero, List.set_cons_succ]
    refine rg_next (i := 7) (l := #[true, true, true, true, true, true, true, true]) (fuel := 0) (by kernel_rfl) rfl (by kernel_rfl) (by kernel_rfl) (fun K hK => ?_)
    go_simp
    (go_at_call 89)
    refine (rtwrite_any H3.out.tm (regI (plA off)) u u0 u1).mono ?_
    rintro e w4 ⟨rfl, y1, y2⟩
    have H4 := Lib.hid (H3.out.vtm y1 y2)
    have K4 : Hid (Kp (J.all r) w w4) := Lib.hid (K3.out.trans (y2.mono (M := J.all r) (by simp [Rr.all])) (fun z hz => .inl hz))
    clear y1 y2 e0 e1 e2 e3 e4 e5 e6 e7
    obtain ⟨e0, e1, e2, e3, e4, e5, e6, e7⟩ := H4.out.cells
    first | (refine hK.out _ _ ?_ (fun hHeld => ?_)) | (go_wp2_with fail; refine hK.out _ _ ?_ (fun hHeld => ?_))
    · (try dsimp only); exact e1
    clear hK K
    try simp only [Act.put, List.setIfInBounds_toArray, List.set_cons_zero, List.set_cons_succ]
    refine wpAnyH_done (by kernel_rfl) ?_ _
    go_wp2_with fail
    first | go_end0 | refine bodyPost_ret (results_none rfl _ _ _) rfl ?_
    exact ⟨rfl, H4.out, K4.out⟩
set_option maxHeartbeats 4000000 in
theorem rhwrite7 (h : RHp w r d J Z x) (off : Int) (o0 : 0 ≤ off) (o1 : off ≤ 65535) (u : Int) (u0 : 0 ≤ u) (u1 : u ≤ 255) (hk : whereI (plA off) = 7) :
    Calls Tryz.prog 34 #[.pointer (some ⟨r, 0, none⟩), .int .u16 off, .int .u8 u] w (RhR (.tuple #[]) r d J Z { x with pt := x.pt.wr u, buf := u } (J.all r) w) := by
    obtain ⟨a0, a1⟩ := plA_bd off o0
    have H := Lib.hid h
    have HK := Lib.hid hk
    clear h hk
    go_enter Tryz.func34, Tryz.ntmps34
    go_wp2_with fail
    refine (rat_v o0 o1 rfl).mono ?_
    rintro e w' ⟨rfl, rfl⟩
    go_wp2_with fail
    refine (rwhere_v a0 a1 HK.out).mono ?_
    rintro e w1 ⟨rfl, b1⟩
    have H1 := Lib.hid (H.out.keep b1)
    have K1 : Hid (Kp [] w w1) := Lib.hid (Kp.of_below b1)
    clear b1 H
    have z0 := H1.out.cells.1
    have g0 := H1.out.pg.frozen 0
    obtain ⟨r1, r2⟩ := H1.out.vbuf u
    have H2 := Lib.hid r1
    have K2 : Hid (Kp (J.all r) w (w1.setCell ⟨r, 0, none⟩ (.int .u8 u))) := Lib.hid ((K1.out.mono (by simp)).trans (r2.mono (M := J.all r) (by simp [Rr.all])) (fun z hz => .inl hz))
    obtain ⟨e0, e1, e2, e3, e4, e5, e6, e7⟩ := H2.out.cells
    clear r1 r2
    go_wp2_with fail
    clear z0 g0
    generalize World.setCell _ _ _ = w2 at *
    refine (rpwrite_any H2.out.pt u u0 u1).mono ?_
    rintro e w4 ⟨rfl, y1, y2⟩
    have H4 := Lib.hid (H2.out.vpt y1 y2)
    have K4 : Hid (Kp (J.all r) w w4) := Lib.hid (K2.out.trans (y2.mono (M := J.all r) (by simp [Rr.all])) (fun z hz => .inl hz))
    clear y1 y2 e0 e1 e2 e3 e4 e5 e6 e7
    go_wp2_with fail
    first | go_end0 | refine bodyPost_ret (results_none rfl _ _ _) rfl ?_
    exact ⟨rfl, H4.out, K4.out⟩
set_option maxHeartbeats 4000000 in
theorem rhwrite8 (h : RHp w r d J Z x) (off : Int) (o0 : 0 ≤ off) (o1 : off ≤ 65535) (u : Int) (u0 : 0 ≤ u) (u1 : u ≤ 255) (hk : whereI (plA off) = 8) :
    Calls Tryz.prog 34 #[.pointer (some ⟨r, 0, none⟩), .int .u16 off, .int .u8 u] w (RhR (.tuple #[]) r d J Z { x with q := x.q.wr (regI (plA off)) u, buf := u } (J.all r) w) := by
    obtain ⟨a0, a1⟩ := plA_bd off o0
    have H := Lib.hid h
    have HK := Lib.hid hk
    clear h hk
    go_enter Tryz.func34, Tryz.ntmps34
    go_wp2_with fail
    refine (rat_v o0 o1 rfl).mono ?_
    rintro e w' ⟨rfl, rfl⟩
    go_wp2_with fail
    refine (rwhere_v a0 a1 HK.out).mono ?_
    rintro e w1 ⟨rfl, b1⟩
    have H1 := Lib.hid (H.out.keep b1)
    have K1 : Hid (Kp [] w w1) := Lib.hid (Kp.of_below b1)
    clear b1 H
    have z0 := H1.out.cells.1
    have g0 := H1.out.pg.frozen 0
    obtain ⟨r1, r2⟩ := H1.out.vbuf u
    have H2 := Lib.hid r1
    have K2 : Hid (Kp (J.all r) w (w1.setCell ⟨r, 0, none⟩ (.int .u8 u))) := Lib.hid ((K1.out.mono (by simp)).trans (r2.mono (M := J.all r) (by simp [Rr.all])) (fun z hz => .inl hz))
    obtain ⟨e0, e1, e2, e3, e4, e5, e6, e7⟩ := H2.out.cells
    clear r1 r2
    go_wp2_with fail
    clear z0 g0
    generalize World.setCell _ _ _ = w2 at *
    refine rg_begin (S := fun w' => w'.cell? ⟨r, 2, none⟩ = some (.pointer (some ⟨J.q, 0, none⟩))) 8 #[false, false, false, false, false, false, false, false] (by kernel_rfl) (by kernel_rfl) (by kernel_rfl) ?_ (fun hHeld => ?_)
    · exact e2
    refine rg_take (i := 0) (d := some 50) (l := #[true, false, false, false, false, false, false, false]) (fuel := 7) (v := ?_) rfl (by kernel_rfl) (by kernel_rfl) (by kernel_rfl) (by kernel_rfl) (by kernel_rfl) (fun _ _ _ h => h) (by kernel_rfl) ?_ (by assumption) ?_
    rotate_left 1
    · (intro wS hSw; (try dsimp only at hSw); go_simp; try with_reducible rfl)
    try simp only [Act.put, List.setIfInBounds_toArray, List.set_cons_zero, List.set_cons_succ]
    refine rg_take (i := 1) (d := some 51) (l := #[true, true, false, false, false, false, false, false]) (fuel := 6) (v := ?_) rfl (by kernel_rfl) (by kernel_rfl) (by kernel_rfl) (by kernel_rfl) (by kernel_rfl) (fun _ _ _ h => h) (by kernel_rfl) ?_ (by assumption) ?_
    rotate_left 1
    · (intro wS hSw; (try dsimp only at hSw); go_simp; try with_reducible rfl)
    try simp only [Act.put, List.setIfInBounds_toArray, List.set_cons_zero, List.set_cons_succ]
    refine rg_take (i := 2) (d := some 52) (l := #[true, true, true, false, false, false, false, false]) (fuel := 5) (v := ?_) rfl (by kernel_rfl) (by kernel_rfl) (by kernel_rfl) (by kernel_rfl) (by kernel_rfl) (fun _ _ _ h => h) (by kernel_rfl) ?_ (by assumption) ?_
    rotate_left 1
    · (intro wS hSw; (try dsimp only at hSw); go_simp; try with_reducible rfl)
    try simp only [Act.put, List.setIfInBounds_toArray, List.set_cons_zero, List.set_cons_succ]
    refine rg_take (i := 3) (d := some 53) (l := #[true, true, true, true, false, false, false, false]) (fuel := 4) (v := ?_) rfl (by kernel_rfl) (by kernel_rfl) (by kernel_rfl) (by kernel_rfl) (by kernel_rfl) (fun _ _ _ h => h) (by kernel_rfl) ?_ (by assumption) ?_
    rotate_left 1
    · (intro wS hSw; (try dsimp only at hSw); go_simp; try with_reducible rfl)
    try simp only [Act.put, List.setIfInBounds_toArray, List.set_cons_zero, List.set_cons_succ]
    refine rg_take (i := 4) (d := some 54) (l := #[true, true, true, true, true, false, false, false]) (fuel := 3) (v := ?_) rfl (by kernel_rfl) (by kernel_rfl) (by kernel_rfl) (by kernel_rfl) (by kernel_rfl) (fun _ _ _ h => h) (by kernel_rfl) ?_ (by assumption) ?_
    rotate_left 1
    · (intro wS hSw; (try dsimp only at hSw); go_simp; try with_reducible rfl)
    try simp only [Act.put, List.setIfInBounds_toArray, List.set_cons_zero, List.set_cons_succ]
    refine rg_take (i := 6) (d := some 56) (l := #[true, true, true, true, true, false, true, false]) (fuel := 2) (v := ?_) rfl (by kernel_rfl) (by kernel_rfl) (by kernel_rfl) (by kernel_rfl) (by kernel_rfl) (fun _ _ _ h => h) (by kernel_rfl) ?_ (by assumption) ?_
    rotate_left 1
    · (intro wS hSw; (try dsimp only at hSw); go_simp; try with_reducible rfl)
    try simp only [Act.put, List.setIfInBounds_toArray, List.set_cons_zero, List.set_cons_succ]
    refine rg_next (i := 5) (l := #[true, true, true, true, true, true, true, false]) (fuel := 1) (by kernel_rfl) rfl (by kernel_rfl) (by kernel_rfl) (fun K hK => ?_)
    go_simp
    (go_at_call 86)
    refine (rreg_v a0 a1 rfl).mono ?_
    rintro e w3 ⟨rfl, b3⟩
    have H3 := Lib.hid ((H2.out.kp0 (Kp.refl _ _).drew).keep b3)
    have K3 : Hid (Kp (J.all r) w w3) := Lib.hid (K2.out.drew.trans (Kp.of_below (L := []) b3) (by simp))
    clear b3 H2 K2 e0 e1 e2 e3 e4 e5 e6 e7
    obtain ⟨e0, e1, e2, e3, e4, e5, e6, e7⟩ := H3.out.cells
    first | (refine hK.out _ _ ?_ (fun hHeld => ?_)) | (go_wp2_with fail; refine hK.out _ _ ?_ (fun hHeld => ?_))
    · (try dsimp only); exact e2
    clear hK K
    try simp only [Act.put, List.setIfInBounds_toArray, List.set_cons_zero, List.set_cons_succ]
    refine rg_next (i := 7) (l := #[true, true, true, true, true, true, true, true]) (fuel := 0) (by kernel_rfl) rfl (by kernel_rfl) (by kernel_rfl) (fun K hK => ?_)
    go_simp
    (go_at_call 91)
    refine (rqwrite_any H3.out.q (regI (plA off)) u u0 u1).mono ?_
    rintro e w4 ⟨rfl, y1, y2⟩
    have H4 := Lib.hid (H3.out.vq y1 y2)
    have K4 : Hid (Kp (J.all r) w w4) := Lib.hid (K3.out.trans (y2.mono (M := J.all r) (by simp [Rr.all])) (fun z hz => .inl hz))
    clear y1 y2 e0 e1 e2 e3 e4 e5 e6 e7
    obtain ⟨e0, e1, e2, e3, e4, e5, e6, e7⟩ := H4.out.cells
    first | (refine hK.out _ _ ?_ (fun hHeld => ?_)) | (go_wp2_with fail; refine hK.out _ _ ?_ (fun hHeld => ?_))
    · (try dsimp only); exact e2
    clear hK K
    try simp only [Act.put, List.setIfInBounds_toArray, List.set_cons_zero, List.set_cons_succ]
    refine wpAnyH_done (by kernel_rfl) ?_ _
    go_wp2_with fail
    first | go_end0 | refine bodyPost_ret (results_none rfl _ _ _) rfl ?_
    exact ⟨rfl, H4.out, K4.out⟩
set_option maxHeartbeats 4000000 in
theorem rhwrite0 (h : RHp w r d J Z x) (off k : Int) (o0 : 0 ≤ off) (o1 : off ≤ 65535) (u : Int) (hk : whereI (plA off) = k) (hn : k < 5 ∨ 8 < k) :
    Calls Tryz.prog 34 #[.pointer (some ⟨r, 0, none⟩), .int .u16 off, .int .u8 u] w (RhR (.tuple #[]) r d J Z x (J.all r) w) := by
    obtain ⟨a0, a1⟩ := plA_bd off o0
    have n5 : (k == 5) = false := by simp; omega
    have n6 : (k == 6) = false := by simp; omega
    have n7 : (k == 7) = false := by simp; omega
    have n8 : (k == 8) = false := by simp; omega
    have H := Lib.hid h
    have HK := Lib.hid hk
    clear h hk hn
    go_enter Tryz.func34, Tryz.ntmps34
    go_wp2_with fail
    refine (rat_v o0 o1 rfl).mono ?_
    rintro e w' ⟨rfl, rfl⟩
    go_wp2_with fail
    refine (rwhere_v a0 a1 HK.out).mono ?_
    rintro e w1 ⟨rfl, b1⟩
    have H1 := Lib.hid (H.out.keep b1)
    have K1 : Hid (Kp [] w w1) := Lib.hid (Kp.of_below b1)
    clear b1 H
    go_wp2_with fail
    first | go_end0 | refine bodyPost_ret (results_none rfl _ _ _) rfl ?_
    exact ⟨rfl, H1.out, K1.out.mono (by simp)⟩
theorem rhwrite_any (h : RHp w r d J Z x) (off u : Int) (o0 : 0 ≤ off) (o1 : off ≤ 65535) (u0 : 0 ≤ u) (u1 : u ≤ 255) :
    Calls Tryz.prog 34 #[.pointer (some ⟨r, 0, none⟩), .int .u16 off, .int .u8 u] w (RhR (.tuple #[]) r d J Z (x.wr (whereI (plA off)) (regI (plA off)) u) (J.all r) w) := by
  obtain ⟨k, hk⟩ : ∃ k, whereI (plA off) = k := ⟨_, rfl⟩
  by_cases h5 : k = 5
  · subst h5; rw [hk]; exact rhwrite5 h off o0 o1 u u0 u1 hk
  by_cases h6 : k = 6
  · subst h6; rw [hk]; exact rhwrite6 h off o0 o1 u u0 u1 hk
  by_cases h7 : k = 7
  · subst h7; rw [hk]; exact rhwrite7 h off o0 o1 u u0 u1 hk
  by_cases h8 : k = 8
  · subst h8; rw [hk]; exact rhwrite8 h off o0 o1 u u0 u1 hk
  have e2 : x.wr k (regI (plA off)) u = x := by unfold Hp.wr; rw [if_neg h5, if_neg h6, if_neg h7, if_neg h8]
  rw [hk, e2]
  exact rhwrite0 h off k o0 o1 u hk (by omega)
end
end Go.Proofs.YtcnjekballnncaaGreat
