/-
  Texts of these proofs, one behind the other: G22, Irq3.
-/
import Derived.Test.YtcnjekballnncaaGreatKH08
import Derived.Test.YtcnjekballnncaaGreatKH12
import Derived.Test.YtcnjekballnncaaGreatKH06
import Derived.RangeFuncNested
import Derived.RangeFuncBound
import Derived.RangeFuncCalls
import Derived.RangeFuncLeaves
import Derived.RangeFuncFrom
import Derived.Shelf.Abstract
import Derived.Shelf.RegionOpen
import Derived.OwnWalkIn
import Derived.TacticsInMore
import Derived.LoopNIn
import Derived.LoopIn
namespace Go.Proofs.YtcnjekballnncaaGreat
open Go
section
variable {P : Program} {ops : Array Oper} {Q : Exit → Act → World → Prop} {md : Region.Mode} {S : World → Prop}
/-- What is owed where an operation that is ready is carried out next. -/
def RgStep (P : Program) (md : Region.Mode) (ops : Array Oper) (Q : Exit → Act → World → Prop) (S : World → Prop) (fuel : Nat) (l : Array Bool) (a : Act) (w : World) (oi : Oper) : Prop :=
  ∀ K' : Act → World → Prop, Shut (∀ a w, S w → (S w → wpAnyH P md ops Q S fuel l a w) → K' a w) → Oper.wp P oi a w K' Q
theorem rg_step {i : Nat} {oi : Oper} {fuel : Nat} {listed l : Array Bool} {a : Act} {w : World} {rs : List Nat} (hi : ops.toList[i]? = some oi) (hl : listed.setIfInBounds i true = l)
    (hw : Region.wanted oi (yielded ops a.tmps) = true) (h : RgStep P md ops Q S fuel l a w oi) (hs : AllReadyH P md ops Q S fuel listed a w rs) : AllReadyH P md ops Q S fuel listed a w (i :: rs) := by
  subst hl
  refine AllReadyH.cons (rg_at hi) (fun K hK => ?_) hs
  rw [if_pos hw]
  exact h K hK
theorem rg_of {rs : List Nat} {fuel : Nat} {listed : Array Bool} {a : Act} {w : World} (hr : Region.ready md ops listed = rs) (hne : rs.isEmpty = false)
    (h : AllReadyH P md ops Q S fuel listed a w rs) : wpAnyH P md ops Q S (fuel + 1) listed a w := wpAnyH_ready hr (by rintro rfl; cases hne) h
/-- More is held from here on. -/
theorem rg_more {S' : World → Prop} (h : ∀ w, S' w → S w) : ∀ (fuel : Nat) (listed : Array Bool) (a : Act) (w : World), wpAnyH P md ops Q S' fuel listed a w → wpAnyH P md ops Q S fuel listed a w
  | 0, _, _, _, H => H
  | fuel + 1, _, _, _, H => ⟨H.1, fun i hi => wpOp_mono (fun a' w' h' => ⟨h _ h'.1, rg_more h fuel _ a' w' h'.2⟩) (H.2 i hi)⟩
end
end Go.Proofs.YtcnjekballnncaaGreat
namespace Go.Proofs.YtcnjekballnncaaGreat
open Go.RowKit Go.Shelf
set_option linter.unusedVariables false
set_option linter.unusedSimpArgs false
set_option maxRecDepth 100000
attribute [local go_sem] Oper.semAt_some
/-- Who asks, kind by kind. -/
def askF (a b t c d : Bool) (i : Nat) : Bool := if i = 1 then a else if i = 2 then b else if i = 3 then t else if i = 4 then c else if i = 5 then d else false
/-- The kinds up to one that ask, in their order. -/
def askL (f : Nat → Bool) : Nat → List (Fin 6)
  | 0 => []
  | k + 1 => if h : k < 6 then (if f k then askL f k ++ [⟨k, h⟩] else askL f k) else askL f k
theorem askL_pre (f : Nat → Bool) (k m : Nat) (h : k ≤ m) : askL f k <+: askL f m := by
  induction m with
  | zero =>
    obtain rfl : k = 0 := by omega
    exact List.prefix_rfl
  | succ m ih =>
    by_cases e : k = m + 1
    · subst e; exact List.prefix_rfl
    · have := ih (by omega)
      simp only [askL]
      split
      · split
        · exact this.trans (List.prefix_append _ _)
        · exact this
      · exact this
theorem askL_len (f : Nat → Bool) (k : Nat) : (askL f k).length ≤ k := by
  induction k with
  | zero => simp [askL]
  | succ k ih =>
    simp only [askL]
    split
    · split
      · simp; omega
      · omega
    · omega
/-- What a range over those who ask is handed. -/
def askV (bn : Nat) : Value := .func (.func 115) #[] #[.pointer (some ⟨bn, 0, none⟩)]
def AskR (f : Nat → Bool) (w : World) (e : Ending) (w' : World) : Prop :=
  ∃ bn, e = .returned (askV bn) ∧ Blk w' bn 153 (tArr 6 f) ∧ w.heap.size ≤ bn ∧ Below w.heap.size w w'
section
variable {w W : World} {p : Option Addr} {d t : Bool}
set_option maxHeartbeats 2000000 in
theorem asking_of (hd : ∀ w : World, Below W.heap.size W w → Calls Tryz.prog 53 #[.pointer p] w fun e w' => e = .returned (.bool t) ∧ w = w') (hw : Below W.heap.size W w) (u0 u1 u2 u3 : Bool) :
    Calls Tryz.prog 96 #[.pointer p, .agg #[.bool u0, .bool u1, .bool u2, .bool u3]] w (AskR (askF u0 u1 t u2 u3) w) := by
  go_enter Tryz.func96, Tryz.ntmps96
  go_wp2_with fail
  have hb1 := Blk.new w 74 #[.bool u0, .bool u1, .bool u2, .bool u3]
  have hB1 : Below w.heap.size w (w.alloc (.cells #[.bool u0, .bool u1, .bool u2, .bool u3] 74)) := (Below.refl _ _).alloc (Nat.le_refl _) _
  have hW1 := hw.alloc hw.size (.cells #[.bool u0, .bool u1, .bool u2, .bool u3] 74)
  have sz : w.heap.size < (w.alloc (.cells #[.bool u0, .bool u1, .bool u2, .bool u3] 74)).heap.size := by simp
  have HW := Lib.hid hW1
  have HB := Lib.hid hB1
  have HN := Lib.hid hb1
  clear hb1 hB1 hW1 hw
  generalize World.alloc _ _ = w1 at *
  obtain ⟨g, hg⟩ : ∃ g, w.heap.size = g := ⟨_, rfl⟩
  rw [hg] at HN sz
  simp only [hg]
  have HG := Lib.hid hg
  clear hg
  have SB : ∀ w' : World, Blk w' g 74 #[.bool u0, .bool u1, .bool u2, .bool u3] → w'.cell? ⟨g, 0, none⟩ = some (.bool u0) ∧ w'.cell? ⟨g, 1, none⟩ = some (.bool u1) ∧ w'.cell? ⟨g, 2, none⟩ = some (.bool u2) ∧ w'.cell? ⟨g, 3, none⟩ = some (.bool u3) := fun w' h => ⟨h.cell 0, h.cell 1, h.cell 2, h.cell 3⟩
  have HSB := Lib.hid SB
  clear SB
  have FIN : AskR (askF u0 u1 t u2 u3) w (.returned (askV w1.heap.size)) (w1.alloc (.cells #[.bool false, .bool u0, .bool u1, .bool t, .bool u2, .bool u3] 153)).drew :=
    ⟨_, rfl, Blk.new w1 153 _, HB.out.size, (HB.out.alloc HB.out.size _).drew⟩
  have HF := Lib.hid FIN
  clear FIN
  refine rg_begin (S := fun w' => w'.cell? ⟨g, 0, none⟩ = some (.bool u0) ∧ w'.cell? ⟨g, 1, none⟩ = some (.bool u1) ∧ w'.cell? ⟨g, 2, none⟩ = some (.bool u2) ∧ w'.cell? ⟨g, 3, none⟩ = some (.bool u3)) 13 #[false, false, false, false, false, false, false, false, false, false, false, false, false] (by kernel_rfl) (by kernel_rfl) (by kernel_rfl) ?_ (fun hHeld => ?_)
  · exact ⟨HN.out.drew_.cell 0, HN.out.drew_.cell 1, HN.out.drew_.cell 2, HN.out.drew_.cell 3⟩
  refine rg_take (i := 0) (d := some 6) (l := #[true, false, false, false, false, false, false, false, false, false, false, false, false]) (fuel := 12) (v := ?_) rfl (by kernel_rfl) (by kernel_rfl) (by kernel_rfl) (by kernel_rfl) (by kernel_rfl) (fun _ _ _ h => h) (by kernel_rfl) ?_ (by assumption) ?_
  rotate_left 1
  · (intro wS hSw; (try dsimp only at hSw); go_simp; try with_reducible rfl)
  try simp only [Act.put, List.setIfInBounds_toArray, List.set_cons_zero, List.set_cons_succ]
  refine rg_take (i := 1) (d := some 7) (l := #[true, true, false, false, false, false, false, false, false, false, false, false, false]) (fuel := 11) (v := ?_) rfl (by kernel_rfl) (by kernel_rfl) (by kernel_rfl) (by kernel_rfl) (by kernel_rfl) (fun _ _ _ h => h) (by kernel_rfl) ?_ (by assumption) ?_
  rotate_left 1
  · (intro wS hSw; (try dsimp only at hSw); go_simp; try with_reducible rfl)
  try simp only [Act.put, List.setIfInBounds_toArray, List.set_cons_zero, List.set_cons_succ]
  refine rg_take (i := 2) (d := some 8) (l := #[true, true, true, false, false, false, false, false, false, false, false, false, false]) (fuel := 10) (v := ?_) rfl (by kernel_rfl) (by kernel_rfl) (by kernel_rfl) (by kernel_rfl) (by kernel_rfl) (fun _ _ _ h => h) (by kernel_rfl) ?_ (by assumption) ?_
  rotate_left 1
  · (intro wS hSw; (try dsimp only at hSw); go_simp; try with_reducible rfl)
  try simp only [Act.put, List.setIfInBounds_toArray, List.set_cons_zero, List.set_cons_succ]
  refine rg_take (i := 3) (d := some 9) (l := #[true, true, true, true, false, false, false, false, false, false, false, false, false]) (fuel := 9) (v := ?_) rfl (by kernel_rfl) (by kernel_rfl) (by kernel_rfl) (by kernel_rfl) (by kernel_rfl) (fun _ _ _ h => h) (by kernel_rfl) ?_ (by assumption) ?_
  rotate_left 1
  · (intro wS hSw; (try dsimp only at hSw); go_simp; try with_reducible rfl)
  try simp only [Act.put, List.setIfInBounds_toArray, List.set_cons_zero, List.set_cons_succ]
  refine rg_take (i := 4) (d := some 10) (l := #[true, true, true, true, true, false, false, false, false, false, false, false, false]) (fuel := 8) (v := ?_) rfl (by kernel_rfl) (by kernel_rfl) (by kernel_rfl) (by kernel_rfl) (by kernel_rfl) (fun _ _ _ h => h) (by kernel_rfl) ?_ (by assumption) ?_
  rotate_left 1
  · (intro wS hSw; (try dsimp only at hSw); go_simp; try with_reducible rfl)
  try simp only [Act.put, List.setIfInBounds_toArray, List.set_cons_zero, List.set_cons_succ]
  refine rg_take (i := 6) (d := some 12) (l := #[true, true, true, true, true, false, true, false, false, false, false, false, false]) (fuel := 7) (v := ?_) rfl (by kernel_rfl) (by kernel_rfl) (by kernel_rfl) (by kernel_rfl) (by kernel_rfl) (fun _ _ _ h => h) (by kernel_rfl) ?_ (by assumption) ?_
  rotate_left 1
  · (intro wS hSw; (try dsimp only at hSw); go_simp; try with_reducible rfl)
  try simp only [Act.put, List.setIfInBounds_toArray, List.set_cons_zero, List.set_cons_succ]
  refine rg_take (i := 7) (d := some 13) (l := #[true, true, true, true, true, false, true, true, false, false, false, false, false]) (fuel := 6) (v := ?_) rfl (by kernel_rfl) (by kernel_rfl) (by kernel_rfl) (by kernel_rfl) (by kernel_rfl) (fun _ _ _ h => h) (by kernel_rfl) ?_ (by assumption) ?_
  rotate_left 1
  · (intro wS hSw; (try dsimp only at hSw); go_simp; try with_reducible rfl)
  try simp only [Act.put, List.setIfInBounds_toArray, List.set_cons_zero, List.set_cons_succ]
  refine rg_take (i := 8) (d := some 14) (l := #[true, true, true, true, true, false, true, true, true, false, false, false, false]) (fuel := 5) (v := ?_) rfl (by kernel_rfl) (by kernel_rfl) (by kernel_rfl) (by kernel_rfl) (by kernel_rfl) (fun _ _ _ h => h) (by kernel_rfl) ?_ (by assumption) ?_
  rotate_left 1
  · (intro wS hSw; (try dsimp only at hSw); go_simp; try with_reducible rfl)
  try simp only [Act.put, List.setIfInBounds_toArray, List.set_cons_zero, List.set_cons_succ]
  refine rg_take (i := 9) (d := some 15) (l := #[true, true, true, true, true, false, true, true, true, true, false, false, false]) (fuel := 4) (v := ?_) rfl (by kernel_rfl) (by kernel_rfl) (by kernel_rfl) (by kernel_rfl) (by kernel_rfl) (fun _ _ _ h => h) (by kernel_rfl) ?_ (by assumption) ?_
  rotate_left 1
  · (intro wS hSw; (try dsimp only at hSw); go_simp; try with_reducible rfl)
  try simp only [Act.put, List.setIfInBounds_toArray, List.set_cons_zero, List.set_cons_succ]
  refine rg_of (rs := [5, 11]) (fuel := 3) (by kernel_rfl) rfl ?_
  refine rg_step (i := 5) (l := #[true, true, true, true, true, true, true, true, true, true, false, false, false]) rfl (by kernel_rfl) (by kernel_rfl) ?_ ?_
  · intro K hK
    go_simp
    go_at_call 53
    refine (hd _ HW.out.drew).mono ?_
    rintro e w' ⟨rfl, rfl⟩
    first | (refine hK.out _ _ ?_ (fun hHeld => ?_)) | (go_wp2_with fail; refine hK.out _ _ ?_ (fun hHeld => ?_))
    · (try dsimp only); exact ⟨HN.out.drew_.cell 0, HN.out.drew_.cell 1, HN.out.drew_.cell 2, HN.out.drew_.cell 3⟩
    clear hK K
    try simp only [Act.put, List.setIfInBounds_toArray, List.set_cons_zero, List.set_cons_succ]
    refine rg_take (i := 10) (d := some 16) (l := #[true, true, true, true, true, true, true, true, true, true, true, false, false]) (fuel := 2) (v := ?_) rfl (by kernel_rfl) (by kernel_rfl) (by kernel_rfl) (by kernel_rfl) (by kernel_rfl) (fun _ _ _ h => h) (by kernel_rfl) ?_ (by assumption) ?_
    rotate_left 1
    · (intro wS hSw; (try dsimp only at hSw); go_simp; try with_reducible rfl)
    try simp only [Act.put, List.setIfInBounds_toArray, List.set_cons_zero, List.set_cons_succ]
    refine rg_next (i := 11) (l := #[true, true, true, true, true, true, true, true, true, true, true, true, false]) (fuel := 1) (by kernel_rfl) rfl (by kernel_rfl) (by kernel_rfl) (fun K hK => ?_)
    go_simp
    skip
    first | (refine hK.out _ _ ?_ (fun hHeld => ?_)) | (go_wp2_with fail; refine hK.out _ _ ?_ (fun hHeld => ?_))
    · (try dsimp only); exact HSB.out _ (HN.out.alloc _)
    clear hK K
    try simp only [Act.put, List.setIfInBounds_toArray, List.set_cons_zero, List.set_cons_succ]
    refine rg_next (i := 12) (l := #[true, true, true, true, true, true, true, true, true, true, true, true, true]) (fuel := 0) (by kernel_rfl) rfl (by kernel_rfl) (by kernel_rfl) (fun K hK => ?_)
    go_simp
    skip
    first | (refine hK.out _ _ ?_ (fun hHeld => ?_)) | (go_wp2_with fail; refine hK.out _ _ ?_ (fun hHeld => ?_))
    · (try dsimp only); exact HSB.out _ (HN.out.alloc _)
    clear hK K
    try simp only [Act.put, List.setIfInBounds_toArray, List.set_cons_zero, List.set_cons_succ]
    refine wpAnyH_done (by kernel_rfl) ?_ _
    clear hHeld HN HW HB
    go_wp2_with fail
    go_ret
    exact HF.out
  refine rg_step (i := 11) (l := #[true, true, true, true, true, false, true, true, true, true, false, true, false]) rfl (by kernel_rfl) (by kernel_rfl) ?_ ?_
  · intro K hK
    go_simp
    skip
    first | (refine hK.out _ _ ?_ (fun hHeld => ?_)) | (go_wp2_with fail; refine hK.out _ _ ?_ (fun hHeld => ?_))
    · (try dsimp only); exact HSB.out _ (HN.out.alloc _)
    clear hK K
    try simp only [Act.put, List.setIfInBounds_toArray, List.set_cons_zero, List.set_cons_succ]
    refine rg_next (i := 5) (l := #[true, true, true, true, true, true, true, true, true, true, false, true, false]) (fuel := 2) (by kernel_rfl) rfl (by kernel_rfl) (by kernel_rfl) (fun K hK => ?_)
    go_simp
    go_at_call 53
    refine (hd _ ((HW.out.alloc HW.out.size _).drew)).mono ?_
    rintro e w' ⟨rfl, rfl⟩
    first | (refine hK.out _ _ ?_ (fun hHeld => ?_)) | (go_wp2_with fail; refine hK.out _ _ ?_ (fun hHeld => ?_))
    · (try dsimp only); exact HSB.out _ (HN.out.alloc _)
    clear hK K
    try simp only [Act.put, List.setIfInBounds_toArray, List.set_cons_zero, List.set_cons_succ]
    refine rg_take (i := 10) (d := some 16) (l := #[true, true, true, true, true, true, true, true, true, true, true, true, false]) (fuel := 1) (v := ?_) rfl (by kernel_rfl) (by kernel_rfl) (by kernel_rfl) (by kernel_rfl) (by kernel_rfl) (fun _ _ _ h => h) (by kernel_rfl) ?_ (by assumption) ?_
    rotate_left 1
    · (intro wS hSw; (try dsimp only at hSw); go_simp; try with_reducible rfl)
    try simp only [Act.put, List.setIfInBounds_toArray, List.set_cons_zero, List.set_cons_succ]
    refine rg_next (i := 12) (l := #[true, true, true, true, true, true, true, true, true, true, true, true, true]) (fuel := 0) (by kernel_rfl) rfl (by kernel_rfl) (by kernel_rfl) (fun K hK => ?_)
    go_simp
    skip
    first | (refine hK.out _ _ ?_ (fun hHeld => ?_)) | (go_wp2_with fail; refine hK.out _ _ ?_ (fun hHeld => ?_))
    · (try dsimp only); exact HSB.out _ (HN.out.alloc _)
    clear hK K
    try simp only [Act.put, List.setIfInBounds_toArray, List.set_cons_zero, List.set_cons_succ]
    refine wpAnyH_done (by kernel_rfl) ?_ _
    clear hHeld HN HW HB
    go_wp2_with fail
    go_ret
    exact HF.out
  exact AllReadyH.nil
end
end Go.Proofs.YtcnjekballnncaaGreat
