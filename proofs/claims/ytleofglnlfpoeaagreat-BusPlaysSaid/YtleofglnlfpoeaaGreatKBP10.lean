/-
  Texts of these proofs, one behind the other: G22, Irq3, Irq4.
-/
import Derived.Test.YtleofglnlfpoeaaGreatKBP07
import Derived.Test.YtleofglnlfpoeaaGreatKBP09
import Derived.Test.YtleofglnlfpoeaaGreatKBP06
import Derived.Test.YtleofglnlfpoeaaGreatKBP01
import Derived.RangeFuncNested
import Derived.RangeFuncBound
import Derived.RangeFuncCalls
import Derived.RangeFuncLeaves
import Derived.RangeFuncFrom
import Derived.Shelf.Abstract
import Derived.Shelf.RegionOpen
import Derived.OwnWalkIn
import Derived.TacticsInMore
import Derived.LoopNIn
import Derived.LoopIn
namespace Go.Proofs.YtleofglnlfpoeaaGreat
open Go
section
variable {P : Program} {ops : Array Oper} {Q : Exit → Act → World → Prop} {md : Region.Mode} {S : World → Prop}
/-- What is owed where an operation that is ready is carried out next. -/
def RgStep (P : Program) (md : Region.Mode) (ops : Array Oper) (Q : Exit → Act → World → Prop) (S : World → Prop) (fuel : Nat) (l : Array Bool) (a : Act) (w : World) (oi : Oper) : Prop :=
  ∀ K' : Act → World → Prop, Shut (∀ a w, S w → (S w → wpAnyH P md ops Q S fuel l a w) → K' a w) → Oper.wp P oi a w K' Q
theorem rg_step {i : Nat} {oi : Oper} {fuel : Nat} {listed l : Array Bool} {a : Act} {w : World} {rs : List Nat} (hi : ops.toList[i]? = some oi) (hl : listed.setIfInBounds i true = l)
    (hw : Region.wanted oi (yielded ops a.tmps) = true) (h : RgStep P md ops Q S fuel l a w oi) (hs : AllReadyH P md ops Q S fuel listed a w rs) : AllReadyH P md ops Q S fuel listed a w (i :: rs) := by
  subst hl
  refine AllReadyH.cons (rg_at hi) (fun K hK => ?_) hs
  rw [if_pos hw]
  exact h K hK
theorem rg_of {rs : List Nat} {fuel : Nat} {listed : Array Bool} {a : Act} {w : World} (hr : Region.ready md ops listed = rs) (hne : rs.isEmpty = false)
    (h : AllReadyH P md ops Q S fuel listed a w rs) : wpAnyH P md ops Q S (fuel + 1) listed a w := wpAnyH_ready hr (by rintro rfl; cases hne) h
/-- More is held from here on. -/
theorem rg_more {S' : World → Prop} (h : ∀ w, S' w → S w) : ∀ (fuel : Nat) (listed : Array Bool) (a : Act) (w : World), wpAnyH P md ops Q S' fuel listed a w → wpAnyH P md ops Q S fuel listed a w
  | 0, _, _, _, H => H
  | fuel + 1, _, _, _, H => ⟨H.1, fun i hi => wpOp_mono (fun a' w' h' => ⟨h _ h'.1, rg_more h fuel _ a' w' h'.2⟩) (H.2 i hi)⟩
end
end Go.Proofs.YtleofglnlfpoeaaGreat
namespace Go.Proofs.YtleofglnlfpoeaaGreat
open Go.RowKit Go.Shelf
set_option linter.unusedVariables false
set_option linter.unusedSimpArgs false
set_option maxRecDepth 100000
attribute [local go_sem] Oper.semAt_some
/-- Who asks, kind by kind. -/
def askF (a b t c d : Bool) (i : Nat) : Bool := if i = 1 then a else if i = 2 then b else if i = 3 then t else if i = 4 then c else if i = 5 then d else false
/-- The kinds up to one that ask, in their order. -/
def askL (f : Nat → Bool) : Nat → List (Fin 6)
  | 0 => []
  | k + 1 => if h : k < 6 then (if f k then askL f k ++ [⟨k, h⟩] else askL f k) else askL f k
theorem askL_pre (f : Nat → Bool) (k m : Nat) (h : k ≤ m) : askL f k <+: askL f m := by
  induction m with
  | zero =>
    obtain rfl : k = 0 := by omega
    exact List.prefix_rfl
  | succ m ih =>
    by_cases e : k = m + 1
    · subst e; exact List.prefix_rfl
    · have := ih (by omega)
      simp only [askL]
      split
      · split
        · exact this.trans (List.prefix_append _ _)
        · exact this
      · exact this
theorem askL_len (f : Nat → Bool) (k : Nat) : (askL f k).length ≤ k := by
  induction k with
  | zero => simp [askL]
  | succ k ih =>
    simp only [askL]
    split
    · split
      · simp; omega
      · omega
    · omega
/-- What a range over those who ask is handed. -/
def askV (bn : Nat) : Value := .func (.func 182) #[] #[.pointer (some ⟨bn, 0, none⟩)]
def AskR (f : Nat → Bool) (w : World) (e : Ending) (w' : World) : Prop :=
  ∃ bn, e = .returned (askV bn) ∧ Blk w' bn 224 (tArr 6 f) ∧ w.heap.size ≤ bn ∧ Below w.heap.size w w'
section
variable {w W : World} {p : Option Addr} {d t : Bool}
set_option maxHeartbeats 2000000 in
theorem asking_of (hd : ∀ w : World, Below W.heap.size W w → Calls Tryz.prog 129 #[.pointer p] w fun e w' => e = .returned (.bool t) ∧ w = w') (hw : Below W.heap.size W w) (u0 u1 u2 u3 : Bool) :
    Calls Tryz.prog 165 #[.pointer p, .agg #[.bool u0, .bool u1, .bool u2, .bool u3]] w (AskR (askF u0 u1 t u2 u3) w) := by
  go_enter Tryz.func165, Tryz.ntmps165
  go_wp2_with fail
  have hb1 := Blk.new w 78 #[.bool u0, .bool u1, .bool u2, .bool u3]
  have hB1 : Below w.heap.size w (w.alloc (.cells #[.bool u0, .bool u1, .bool u2, .bool u3] 78)) := (Below.refl _ _).alloc (Nat.le_refl _) _
  have hW1 := hw.alloc hw.size (.cells #[.bool u0, .bool u1, .bool u2, .bool u3] 78)
  have sz : w.heap.size < (w.alloc (.cells #[.bool u0, .bool u1, .bool u2, .bool u3] 78)).heap.size := by simp
  have HW := Lib.hid hW1
  have HB := Lib.hid hB1
  have HN := Lib.hid hb1
  clear hb1 hB1 hW1 hw
  generalize World.alloc _ _ = w1 at *
  obtain ⟨g, hg⟩ : ∃ g, w.heap.size = g := ⟨_, rfl⟩
  rw [hg] at HN sz
  simp only [hg]
  have HG := Lib.hid hg
  clear hg
  have SB : ∀ w' : World, Blk w' g 78 #[.bool u0, .bool u1, .bool u2, .bool u3] → w'.cell? ⟨g, 0, none⟩ = some (.bool u0) ∧ w'.cell? ⟨g, 1, none⟩ = some (.bool u1) ∧ w'.cell? ⟨g, 2, none⟩ = some (.bool u2) ∧ w'.cell? ⟨g, 3, none⟩ = some (.bool u3) := fun w' h => ⟨h.cell 0, h.cell 1, h.cell 2, h.cell 3⟩
  have HSB := Lib.hid SB
  clear SB
  have FIN : AskR (askF u0 u1 t u2 u3) w (.returned (askV w1.heap.size)) (w1.alloc (.cells #[.bool false, .bool u0, .bool u1, .bool t, .bool u2, .bool u3] 224)).drew :=
    ⟨_, rfl, Blk.new w1 224 _, HB.out.size, (HB.out.alloc HB.out.size _).drew⟩
  have HF := Lib.hid FIN
  clear FIN
  refine rg_begin (S := fun w' => w'.cell? ⟨g, 0, none⟩ = some (.bool u0) ∧ w'.cell? ⟨g, 1, none⟩ = some (.bool u1) ∧ w'.cell? ⟨g, 2, none⟩ = some (.bool u2) ∧ w'.cell? ⟨g, 3, none⟩ = some (.bool u3)) 13 #[false, false, false, false, false, false, false, false, false, false, false, false, false] (by kernel_rfl) (by kernel_rfl) (by kernel_rfl) ?_ (fun hHeld => ?_)
  · exact ⟨HN.out.drew_.cell 0, HN.out.drew_.cell 1, HN.out.drew_.cell 2, HN.out.drew_.cell 3⟩
  refine rgt 0 (some 6) (v := ?_) rfl ?_ ?_
  rotate_left 1
  · (intro wS hSw; (try dsimp only at hSw); go_simp; try with_reducible rfl)
  refine rgt 1 (some 7) (v := ?_) rfl ?_ ?_
  rotate_left 1
  · (intro wS hSw; (try dsimp only at hSw); go_simp; try with_reducible rfl)
  refine rgt 2 (some 8) (v := ?_) rfl ?_ ?_
  rotate_left 1
  · (intro wS hSw; (try dsimp only at hSw); go_simp; try with_reducible rfl)
  refine rgt 3 (some 9) (v := ?_) rfl ?_ ?_
  rotate_left 1
  · (intro wS hSw; (try dsimp only at hSw); go_simp; try with_reducible rfl)
  refine rgt 4 (some 10) (v := ?_) rfl ?_ ?_
  rotate_left 1
  · (intro wS hSw; (try dsimp only at hSw); go_simp; try with_reducible rfl)
  refine rgt 6 (some 12) (v := ?_) rfl ?_ ?_
  rotate_left 1
  · (intro wS hSw; (try dsimp only at hSw); go_simp; try with_reducible rfl)
  refine rgt 7 (some 13) (v := ?_) rfl ?_ ?_
  rotate_left 1
  · (intro wS hSw; (try dsimp only at hSw); go_simp; try with_reducible rfl)
  refine rgt 8 (some 14) (v := ?_) rfl ?_ ?_
  rotate_left 1
  · (intro wS hSw; (try dsimp only at hSw); go_simp; try with_reducible rfl)
  refine rgt 9 (some 15) (v := ?_) rfl ?_ ?_
  rotate_left 1
  · (intro wS hSw; (try dsimp only at hSw); go_simp; try with_reducible rfl)
  try simp only [Act.put, List.setIfInBounds_toArray, List.set_cons_zero, List.set_cons_succ]
  refine rg_of (rs := [5, 11]) (fuel := 3) (by kernel_rfl) rfl ?_
  refine rg_step (i := 5) (l := #[true, true, true, true, true, true, true, true, true, true, false, false, false]) rfl (by kernel_rfl) (by kernel_rfl) ?_ ?_
  · intro K hK
    go_simp
    go_at_call 129
    refine (hd _ HW.out.drew).mono ?_
    rintro e w' ⟨rfl, rfl⟩
    first | (refine hK.out _ _ ?_ (fun hHeld => ?_)) | (go_wp2_with fail; refine hK.out _ _ ?_ (fun hHeld => ?_))
    · (try dsimp only); exact ⟨HN.out.drew_.cell 0, HN.out.drew_.cell 1, HN.out.drew_.cell 2, HN.out.drew_.cell 3⟩
    clear hK K
    refine rgt 10 (some 16) (v := ?_) rfl ?_ ?_
    rotate_left 1
    · (intro wS hSw; (try dsimp only at hSw); go_simp; try with_reducible rfl)
    try simp only [Act.put, List.setIfInBounds_toArray, List.set_cons_zero, List.set_cons_succ]
    refine rg_next (i := 11) (l := #[true, true, true, true, true, true, true, true, true, true, true, true, false]) (fuel := 1) (by kernel_rfl) rfl (by kernel_rfl) (by kernel_rfl) (fun K hK => ?_)
    go_simp
    skip
    first | (refine hK.out _ _ ?_ (fun hHeld => ?_)) | (go_wp2_with fail; refine hK.out _ _ ?_ (fun hHeld => ?_))
    · (try dsimp only); exact HSB.out _ (HN.out.alloc _)
    clear hK K
    try simp only [Act.put, List.setIfInBounds_toArray, List.set_cons_zero, List.set_cons_succ]
    refine rg_next (i := 12) (l := #[true, true, true, true, true, true, true, true, true, true, true, true, true]) (fuel := 0) (by kernel_rfl) rfl (by kernel_rfl) (by kernel_rfl) (fun K hK => ?_)
    go_simp
    skip
    first | (refine hK.out _ _ ?_ (fun hHeld => ?_)) | (go_wp2_with fail; refine hK.out _ _ ?_ (fun hHeld => ?_))
    · (try dsimp only); exact HSB.out _ (HN.out.alloc _)
    clear hK K
    try simp only [Act.put, List.setIfInBounds_toArray, List.set_cons_zero, List.set_cons_succ]
    refine wpAnyH_done (by kernel_rfl) ?_ _
    clear hHeld HN HW HB
    go_wp2_with fail
    go_ret
    exact HF.out
  refine rg_step (i := 11) (l := #[true, true, true, true, true, false, true, true, true, true, false, true, false]) rfl (by kernel_rfl) (by kernel_rfl) ?_ ?_
  · intro K hK
    go_simp
    skip
    first | (refine hK.out _ _ ?_ (fun hHeld => ?_)) | (go_wp2_with fail; refine hK.out _ _ ?_ (fun hHeld => ?_))
    · (try dsimp only); exact HSB.out _ (HN.out.alloc _)
    clear hK K
    try simp only [Act.put, List.setIfInBounds_toArray, List.set_cons_zero, List.set_cons_succ]
    refine rg_next (i := 5) (l := #[true, true, true, true, true, true, true, true, true, true, false, true, false]) (fuel := 2) (by kernel_rfl) rfl (by kernel_rfl) (by kernel_rfl) (fun K hK => ?_)
    go_simp
    go_at_call 129
    refine (hd _ ((HW.out.alloc HW.out.size _).drew)).mono ?_
    rintro e w' ⟨rfl, rfl⟩
    first | (refine hK.out _ _ ?_ (fun hHeld => ?_)) | (go_wp2_with fail; refine hK.out _ _ ?_ (fun hHeld => ?_))
    · (try dsimp only); exact HSB.out _ (HN.out.alloc _)
    clear hK K
    refine rgt 10 (some 16) (v := ?_) rfl ?_ ?_
    rotate_left 1
    · (intro wS hSw; (try dsimp only at hSw); go_simp; try with_reducible rfl)
    try simp only [Act.put, List.setIfInBounds_toArray, List.set_cons_zero, List.set_cons_succ]
    refine rg_next (i := 12) (l := #[true, true, true, true, true, true, true, true, true, true, true, true, true]) (fuel := 0) (by kernel_rfl) rfl (by kernel_rfl) (by kernel_rfl) (fun K hK => ?_)
    go_simp
    skip
    first | (refine hK.out _ _ ?_ (fun hHeld => ?_)) | (go_wp2_with fail; refine hK.out _ _ ?_ (fun hHeld => ?_))
    · (try dsimp only); exact HSB.out _ (HN.out.alloc _)
    clear hK K
    try simp only [Act.put, List.setIfInBounds_toArray, List.set_cons_zero, List.set_cons_succ]
    refine wpAnyH_done (by kernel_rfl) ?_ _
    clear hHeld HN HW HB
    go_wp2_with fail
    go_ret
    exact HF.out
  exact AllReadyH.nil
end
end Go.Proofs.YtleofglnlfpoeaaGreat
namespace Go.Proofs.YtleofglnlfpoeaaGreat
open Go.RowKit Go.Shelf
set_option linter.unusedVariables false
set_option linter.unusedSimpArgs false
set_option maxRecDepth 100000
attribute [local go_sem] Oper.semAt_some
set_option maxHeartbeats 2000000 in
theorem ask_stops (n : Nat) (hn : 1 ≤ n) (bn : Nat) (f : Nat → Bool) (w : World) (hb : Blk w bn 224 (tArr 6 f)) :
    SeqStopsK Fence.wide n Tryz.prog 182 #[.pointer (some ⟨bn, 0, none⟩)] (fun x : Fin 6 => #[.int .u8 (x.val : Int)]) (fun _ _ => True) (fun xs => xs = askL f 6) (fun pre => pre <+: askL f 6) 6 w := fun l J Jx W hW hJ hJx hY h0 => by
  have hb2 := hb.below hW hb.lt
  have c0 : W.cell? ⟨bn, 0, none⟩ = some (.bool (f 0)) := hb2.cell 0
  have c1 : W.cell? ⟨bn, 1, none⟩ = some (.bool (f 1)) := hb2.cell 1
  have c2 : W.cell? ⟨bn, 2, none⟩ = some (.bool (f 2)) := hb2.cell 2
  have c3 : W.cell? ⟨bn, 3, none⟩ = some (.bool (f 3)) := hb2.cell 3
  have c4 : W.cell? ⟨bn, 4, none⟩ = some (.bool (f 4)) := hb2.cell 4
  have c5 : W.cell? ⟨bn, 5, none⟩ = some (.bool (f 5)) := hb2.cell 5
  have hix : ∀ (k : Nat) (W' : World), k < 6 → (Instr.index 224 (.agg #[.bool (f 0), .bool (f 1), .bool (f 2), .bool (f 3), .bool (f 4), .bool (f 5)]) (.int .i64 (k : Int))).run Tryz.prog W' = .ok (.bool (f k)) W' := fun k W' hk => by
    refine run_index_agg Tryz.underlying224 (by kernel_rfl) (by omega) (by omega) ?_ _
    have := tArr_at 6 f k hk
    rw [Int.toNat_natCast]
    exact this
  have HIX := Lib.hid hix
  clear hb hb2 hix hW
  refine callsIn_of_wp Tryz.func182 rfl trivial ?_ rfl
  simp only [Tryz.ntmps182, List.size_toArray, List.length_cons, List.length_nil, Nat.reduceAdd, Nat.reduceSub, Array.replicate_succ, Array.replicate_zero, List.push_toArray, List.append_toArray, List.nil_append, List.cons_append]
  gi_wp2
  clear c0 c1 c2 c3 c4 c5
  generalize (Value.agg #[.bool (f 0), .bool (f 1), .bool (f 2), .bool (f 3), .bool (f 4), .bool (f 5)]) = AV at *
  gi_loopw [6] (fun i wr => ∃ k : Nat, k ≤ 6 ∧ i = .int .i64 k ∧ J (askL f k) wr) (fun i wr => 6 - (intOf i).toNat)
  case atStart =>
    exact ⟨0, by omega, rfl, h0⟩
  case round =>
    obtain ⟨k, hk, rfl, hJs⟩ := hrel
    by_cases hlt : k < 6
    · have hi := HIX.out k wr hlt
      obtain ⟨fn, tmps, assign, body, hy, hR⟩ := hY (askL f k) ⟨k, hlt⟩ wr hJs (Nat.lt_of_le_of_lt (askL_len f k) hlt)
      dsimp only at hy
      have i0 : (k : Int) < 6 := by omega
      have i1 : (0 : Int) ≤ (k : Int) := by omega
      obtain ⟨x, hx⟩ : ∃ x, f k = x := ⟨_, rfl⟩
      rw [hx] at hi
      have e : askL f (k + 1) = if x = true then askL f k ++ [⟨k, hlt⟩] else askL f k := by
        simp only [askL]; rw [dif_pos hlt, hx]
      have HX := Lib.hid e
      clear hx e
      cases x with
      | false =>
        gi_wp2
        refine ⟨fun _ h => (by cases h), ?_⟩
        gi_wp2
        go_roundw
        case rel => exact ⟨k + 1, by omega, by go_num, by rw [HX.out]; exact hJs⟩
        case measure => simp [intOf]; omega
      | true =>
        gi_wp2
        refine hR.mono ?_
        rintro e W3 (⟨rfl, hJ3, _⟩ | ⟨rfl, hJx3⟩)
        · gi_wp2
          go_roundw
          case rel => exact ⟨k + 1, by omega, by go_num, by rw [HX.out]; exact hJ3⟩
          case measure => simp [intOf]; omega
        · gi_wp2
          refine bodyPost_ret (results_none rfl _ _ _) rfl ?_
          refine ⟨⟨_, rfl⟩, .inr ⟨_, ?_, hJx3⟩⟩
          have := askL_pre f (k + 1) 6 (by omega)
          rw [HX.out, if_pos (by simp)] at this
          exact this
    · obtain rfl : k = 6 := by omega
      have i0 : ¬ ((6 : Nat) : Int) < 6 := by omega
      gi_wp2
      go_end0
      first | exact ⟨⟨_, rfl⟩, .inl ⟨_, rfl, hJs⟩⟩ | exact ⟨⟨_, rfl⟩, .inl hJs⟩
end Go.Proofs.YtleofglnlfpoeaaGreat
