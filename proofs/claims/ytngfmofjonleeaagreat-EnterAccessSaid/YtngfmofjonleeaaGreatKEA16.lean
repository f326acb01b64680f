/-
  Texts of these proofs, one behind the other: Irq3, Irq4, Irq5, Irq6.
-/
import Derived.Test.YtngfmofjonleeaaGreatKEA06
import Derived.Test.YtngfmofjonleeaaGreatKEA11
import Derived.Test.YtngfmofjonleeaaGreatKEA02
import Derived.Test.YtngfmofjonleeaaGreatKEA03
import Derived.RangeFuncNested
import Derived.RangeFuncBound
import Derived.RangeFuncCalls
import Derived.RangeFuncLeaves
import Derived.RangeFuncFrom
import Derived.Shelf.Abstract
import Derived.Shelf.RegionOpen
import Derived.OwnWalkIn
import Derived.TacticsInMore
import Derived.LoopNIn
import Derived.LoopIn
namespace Go.Proofs.YtngfmofjonleeaaGreat
open Go.RowKit Go.Shelf
set_option linter.unusedVariables false
set_option linter.unusedSimpArgs false
set_option maxRecDepth 100000
attribute [local go_sem] Oper.semAt_some
/-- Who asks, kind by kind. -/
def askF (a b t c d : Bool) (i : Nat) : Bool := if i = 1 then a else if i = 2 then b else if i = 3 then t else if i = 4 then c else if i = 5 then d else false
/-- The kinds up to one that ask, in their order. -/
def askL (f : Nat → Bool) : Nat → List (Fin 6)
  | 0 => []
  | k + 1 => if h : k < 6 then (if f k then askL f k ++ [⟨k, h⟩] else askL f k) else askL f k
theorem askL_pre (f : Nat → Bool) (k m : Nat) (h : k ≤ m) : askL f k <+: askL f m := by
  induction m with
  | zero =>
    obtain rfl : k = 0 := by omega
    exact List.prefix_rfl
  | succ m ih =>
    by_cases e : k = m + 1
    · subst e; exact List.prefix_rfl
    · have := ih (by omega)
      simp only [askL]
      split
      · split
        · exact this.trans (List.prefix_append _ _)
        · exact this
      · exact this
theorem askL_len (f : Nat → Bool) (k : Nat) : (askL f k).length ≤ k := by
  induction k with
  | zero => simp [askL]
  | succ k ih =>
    simp only [askL]
    split
    · split
      · simp; omega
      · omega
    · omega
/-- What a range over those who ask is handed. -/
def askV (bn : Nat) : Value := .func (.func 163) #[] #[.pointer (some ⟨bn, 0, none⟩)]
def AskR (f : Nat → Bool) (w : World) (e : Ending) (w' : World) : Prop :=
  ∃ bn, e = .returned (askV bn) ∧ Blk w' bn 227 (tArr 6 f) ∧ w.heap.size ≤ bn ∧ Below w.heap.size w w'
section
variable {w W : World} {p : Option Addr} {d t : Bool}
set_option maxHeartbeats 2000000 in
theorem asking_of (hd : ∀ w : World, Below W.heap.size W w → Calls Tryz.prog 162 #[.pointer p] w fun e w' => e = .returned (.bool t) ∧ w = w') (hw : Below W.heap.size W w) (u0 u1 u2 u3 : Bool) :
    Calls Tryz.prog 159 #[.pointer p, .agg #[.bool u0, .bool u1, .bool u2, .bool u3]] w (AskR (askF u0 u1 t u2 u3) w) := by
  go_enter Tryz.func159, Tryz.ntmps159
  go_wp2_with fail
  have hb1 := Blk.new w 71 #[.bool u0, .bool u1, .bool u2, .bool u3]
  have hB1 : Below w.heap.size w (w.alloc (.cells #[.bool u0, .bool u1, .bool u2, .bool u3] 71)) := (Below.refl _ _).alloc (Nat.le_refl _) _
  have hW1 := hw.alloc hw.size (.cells #[.bool u0, .bool u1, .bool u2, .bool u3] 71)
  have sz : w.heap.size < (w.alloc (.cells #[.bool u0, .bool u1, .bool u2, .bool u3] 71)).heap.size := by simp
  have HW := Lib.hid hW1
  have HB := Lib.hid hB1
  have HN := Lib.hid hb1
  clear hb1 hB1 hW1 hw
  generalize World.alloc _ _ = w1 at *
  obtain ⟨g, hg⟩ : ∃ g, w.heap.size = g := ⟨_, rfl⟩
  rw [hg] at HN sz
  simp only [hg]
  have HG := Lib.hid hg
  clear hg
  have SB : ∀ w' : World, Blk w' g 71 #[.bool u0, .bool u1, .bool u2, .bool u3] → w'.cell? ⟨g, 0, none⟩ = some (.bool u0) ∧ w'.cell? ⟨g, 1, none⟩ = some (.bool u1) ∧ w'.cell? ⟨g, 2, none⟩ = some (.bool u2) ∧ w'.cell? ⟨g, 3, none⟩ = some (.bool u3) := fun w' h => ⟨h.cell 0, h.cell 1, h.cell 2, h.cell 3⟩
  have HSB := Lib.hid SB
  clear SB
  have FIN : AskR (askF u0 u1 t u2 u3) w (.returned (askV w1.heap.size)) (w1.alloc (.cells #[.bool false, .bool u0, .bool u1, .bool t, .bool u2, .bool u3] 227)).drew :=
    ⟨_, rfl, Blk.new w1 227 _, HB.out.size, (HB.out.alloc HB.out.size _).drew⟩
  have HF := Lib.hid FIN
  clear FIN
  refine rg_begin (S := fun w' => w'.cell? ⟨g, 0, none⟩ = some (.bool u0) ∧ w'.cell? ⟨g, 1, none⟩ = some (.bool u1) ∧ w'.cell? ⟨g, 2, none⟩ = some (.bool u2) ∧ w'.cell? ⟨g, 3, none⟩ = some (.bool u3)) 13 #[false, false, false, false, false, false, false, false, false, false, false, false, false] (by kernel_rfl) (by kernel_rfl) (by kernel_rfl) ?_ (fun hHeld => ?_)
  · exact ⟨HN.out.drew_.cell 0, HN.out.drew_.cell 1, HN.out.drew_.cell 2, HN.out.drew_.cell 3⟩
  refine rg_take (i := 0) (d := some 6) (l := #[true, false, false, false, false, false, false, false, false, false, false, false, false]) (fuel := 12) (v := ?_) rfl (by kernel_rfl) (by kernel_rfl) (by kernel_rfl) (by kernel_rfl) (by kernel_rfl) (fun _ _ _ h => h) (by kernel_rfl) ?_ (by assumption) ?_
  rotate_left 1
  · (intro wS hSw; (try dsimp only at hSw); go_simp; try with_reducible rfl)
  try simp only [Act.put, List.setIfInBounds_toArray, List.set_cons_zero, List.set_cons_succ]
  refine rg_take (i := 1) (d := some 7) (l := #[true, true, false, false, false, false, false, false, false, false, false, false, false]) (fuel := 11) (v := ?_) rfl (by kernel_rfl) (by kernel_rfl) (by kernel_rfl) (by kernel_rfl) (by kernel_rfl) (fun _ _ _ h => h) (by kernel_rfl) ?_ (by assumption) ?_
  rotate_left 1
  · (intro wS hSw; (try dsimp only at hSw); go_simp; try with_reducible rfl)
  try simp only [Act.put, List.setIfInBounds_toArray, List.set_cons_zero, List.set_cons_succ]
  refine rg_take (i := 2) (d := some 8) (l := #[true, true, true, false, false, false, false, false, false, false, false, false, false]) (fuel := 10) (v := ?_) rfl (by kernel_rfl) (by kernel_rfl) (by kernel_rfl) (by kernel_rfl) (by kernel_rfl) (fun _ _ _ h => h) (by kernel_rfl) ?_ (by assumption) ?_
  rotate_left 1
  · (intro wS hSw; (try dsimp only at hSw); go_simp; try with_reducible rfl)
  try simp only [Act.put, List.setIfInBounds_toArray, List.set_cons_zero, List.set_cons_succ]
  refine rg_take (i := 3) (d := some 9) (l := #[true, true, true, true, false, false, false, false, false, false, false, false, false]) (fuel := 9) (v := ?_) rfl (by kernel_rfl) (by kernel_rfl) (by kernel_rfl) (by kernel_rfl) (by kernel_rfl) (fun _ _ _ h => h) (by kernel_rfl) ?_ (by assumption) ?_
  rotate_left 1
  · (intro wS hSw; (try dsimp only at hSw); go_simp; try with_reducible rfl)
  try simp only [Act.put, List.setIfInBounds_toArray, List.set_cons_zero, List.set_cons_succ]
  refine rg_take (i := 4) (d := some 10) (l := #[true, true, true, true, true, false, false, false, false, false, false, false, false]) (fuel := 8) (v := ?_) rfl (by kernel_rfl) (by kernel_rfl) (by kernel_rfl) (by kernel_rfl) (by kernel_rfl) (fun _ _ _ h => h) (by kernel_rfl) ?_ (by assumption) ?_
  rotate_left 1
  · (intro wS hSw; (try dsimp only at hSw); go_simp; try with_reducible rfl)
  try simp only [Act.put, List.setIfInBounds_toArray, List.set_cons_zero, List.set_cons_succ]
  refine rg_take (i := 6) (d := some 12) (l := #[true, true, true, true, true, false, true, false, false, false, false, false, false]) (fuel := 7) (v := ?_) rfl (by kernel_rfl) (by kernel_rfl) (by kernel_rfl) (by kernel_rfl) (by kernel_rfl) (fun _ _ _ h => h) (by kernel_rfl) ?_ (by assumption) ?_
  rotate_left 1
  · (intro wS hSw; (try dsimp only at hSw); go_simp; try with_reducible rfl)
  try simp only [Act.put, List.setIfInBounds_toArray, List.set_cons_zero, List.set_cons_succ]
  refine rg_take (i := 7) (d := some 13) (l := #[true, true, true, true, true, false, true, true, false, false, false, false, false]) (fuel := 6) (v := ?_) rfl (by kernel_rfl) (by kernel_rfl) (by kernel_rfl) (by kernel_rfl) (by kernel_rfl) (fun _ _ _ h => h) (by kernel_rfl) ?_ (by assumption) ?_
  rotate_left 1
  · (intro wS hSw; (try dsimp only at hSw); go_simp; try with_reducible rfl)
  try simp only [Act.put, List.setIfInBounds_toArray, List.set_cons_zero, List.set_cons_succ]
  refine rg_take (i := 8) (d := some 14) (l := #[true, true, true, true, true, false, true, true, true, false, false, false, false]) (fuel := 5) (v := ?_) rfl (by kernel_rfl) (by kernel_rfl) (by kernel_rfl) (by kernel_rfl) (by kernel_rfl) (fun _ _ _ h => h) (by kernel_rfl) ?_ (by assumption) ?_
  rotate_left 1
  · (intro wS hSw; (try dsimp only at hSw); go_simp; try with_reducible rfl)
  try simp only [Act.put, List.setIfInBounds_toArray, List.set_cons_zero, List.set_cons_succ]
  refine rg_take (i := 9) (d := some 15) (l := #[true, true, true, true, true, false, true, true, true, true, false, false, false]) (fuel := 4) (v := ?_) rfl (by kernel_rfl) (by kernel_rfl) (by kernel_rfl) (by kernel_rfl) (by kernel_rfl) (fun _ _ _ h => h) (by kernel_rfl) ?_ (by assumption) ?_
  rotate_left 1
  · (intro wS hSw; (try dsimp only at hSw); go_simp; try with_reducible rfl)
  try simp only [Act.put, List.setIfInBounds_toArray, List.set_cons_zero, List.set_cons_succ]
  refine rg_of (rs := [5, 11]) (fuel := 3) (by kernel_rfl) rfl ?_
  refine rg_step (i := 5) (l := #[true, true, true, true, true, true, true, true, true, true, false, false, false]) rfl (by kernel_rfl) (by kernel_rfl) ?_ ?_
  · intro K hK
    go_simp
    go_at_call 162
    refine (hd _ HW.out.drew).mono ?_
    rintro e w' ⟨rfl, rfl⟩
    first | (refine hK.out _ _ ?_ (fun hHeld => ?_)) | (go_wp2_with fail; refine hK.out _ _ ?_ (fun hHeld => ?_))
    · (try dsimp only); exact ⟨HN.out.drew_.cell 0, HN.out.drew_.cell 1, HN.out.drew_.cell 2, HN.out.drew_.cell 3⟩
    clear hK K
    try simp only [Act.put, List.setIfInBounds_toArray, List.set_cons_zero, List.set_cons_succ]
    refine rg_take (i := 10) (d := some 16) (l := #[true, true, true, true, true, true, true, true, true, true, true, false, false]) (fuel := 2) (v := ?_) rfl (by kernel_rfl) (by kernel_rfl) (by kernel_rfl) (by kernel_rfl) (by kernel_rfl) (fun _ _ _ h => h) (by kernel_rfl) ?_ (by assumption) ?_
    rotate_left 1
    · (intro wS hSw; (try dsimp only at hSw); go_simp; try with_reducible rfl)
    try simp only [Act.put, List.setIfInBounds_toArray, List.set_cons_zero, List.set_cons_succ]
    refine rg_next (i := 11) (l := #[true, true, true, true, true, true, true, true, true, true, true, true, false]) (fuel := 1) (by kernel_rfl) rfl (by kernel_rfl) (by kernel_rfl) (fun K hK => ?_)
    go_simp
    skip
    first | (refine hK.out _ _ ?_ (fun hHeld => ?_)) | (go_wp2_with fail; refine hK.out _ _ ?_ (fun hHeld => ?_))
    · (try dsimp only); exact HSB.out _ (HN.out.alloc _)
    clear hK K
    try simp only [Act.put, List.setIfInBounds_toArray, List.set_cons_zero, List.set_cons_succ]
    refine rg_next (i := 12) (l := #[true, true, true, true, true, true, true, true, true, true, true, true, true]) (fuel := 0) (by kernel_rfl) rfl (by kernel_rfl) (by kernel_rfl) (fun K hK => ?_)
    go_simp
    skip
    first | (refine hK.out _ _ ?_ (fun hHeld => ?_)) | (go_wp2_with fail; refine hK.out _ _ ?_ (fun hHeld => ?_))
    · (try dsimp only); exact HSB.out _ (HN.out.alloc _)
    clear hK K
    try simp only [Act.put, List.setIfInBounds_toArray, List.set_cons_zero, List.set_cons_succ]
    refine wpAnyH_done (by kernel_rfl) ?_ _
    clear hHeld HN HW HB
    go_wp2_with fail
    go_ret
    exact HF.out
  refine rg_step (i := 11) (l := #[true, true, true, true, true, false, true, true, true, true, false, true, false]) rfl (by kernel_rfl) (by kernel_rfl) ?_ ?_
  · intro K hK
    go_simp
    skip
    first | (refine hK.out _ _ ?_ (fun hHeld => ?_)) | (go_wp2_with fail; refine hK.out _ _ ?_ (fun hHeld => ?_))
    · (try dsimp only); exact HSB.out _ (HN.out.alloc _)
    clear hK K
    try simp only [Act.put, List.setIfInBounds_toArray, List.set_cons_zero, List.set_cons_succ]
    refine rg_next (i := 5) (l := #[true, true, true, true, true, true, true, true, true, true, false, true, false]) (fuel := 2) (by kernel_rfl) rfl (by kernel_rfl) (by kernel_rfl) (fun K hK => ?_)
    go_simp
    go_at_call 162
    refine (hd _ ((HW.out.alloc HW.out.size _).drew)).mono ?_
    rintro e w' ⟨rfl, rfl⟩
    first | (refine hK.out _ _ ?_ (fun hHeld => ?_)) | (go_wp2_with fail; refine hK.out _ _ ?_ (fun hHeld => ?_))
    · (try dsimp only); exact HSB.out _ (HN.out.alloc _)
    clear hK K
    try simp only [Act.put, List.setIfInBounds_toArray, List.set_cons_zero, List.set_cons_succ]
    refine rg_take (i := 10) (d := some 16) (l := #[true, true, true, true, true, true, true, true, true, true, true, true, false]) (fuel := 1) (v := ?_) rfl (by kernel_rfl) (by kernel_rfl) (by kernel_rfl) (by kernel_rfl) (by kernel_rfl) (fun _ _ _ h => h) (by kernel_rfl) ?_ (by assumption) ?_
    rotate_left 1
    · (intro wS hSw; (try dsimp only at hSw); go_simp; try with_reducible rfl)
    try simp only [Act.put, List.setIfInBounds_toArray, List.set_cons_zero, List.set_cons_succ]
    refine rg_next (i := 12) (l := #[true, true, true, true, true, true, true, true, true, true, true, true, true]) (fuel := 0) (by kernel_rfl) rfl (by kernel_rfl) (by kernel_rfl) (fun K hK => ?_)
    go_simp
    skip
    first | (refine hK.out _ _ ?_ (fun hHeld => ?_)) | (go_wp2_with fail; refine hK.out _ _ ?_ (fun hHeld => ?_))
    · (try dsimp only); exact HSB.out _ (HN.out.alloc _)
    clear hK K
    try simp only [Act.put, List.setIfInBounds_toArray, List.set_cons_zero, List.set_cons_succ]
    refine wpAnyH_done (by kernel_rfl) ?_ _
    clear hHeld HN HW HB
    go_wp2_with fail
    go_ret
    exact HF.out
  exact AllReadyH.nil
end
end Go.Proofs.YtngfmofjonleeaaGreat
namespace Go.Proofs.YtngfmofjonleeaaGreat
open Go.RowKit Go.Shelf
set_option linter.unusedVariables false
set_option linter.unusedSimpArgs false
set_option maxRecDepth 100000
attribute [local go_sem] Oper.semAt_some
set_option maxHeartbeats 2000000 in
theorem ask_stops (n : Nat) (hn : 1 ≤ n) (bn : Nat) (f : Nat → Bool) (w : World) (hb : Blk w bn 227 (tArr 6 f)) :
    SeqStopsK Fence.wide n Tryz.prog 163 #[.pointer (some ⟨bn, 0, none⟩)] (fun x : Fin 6 => #[.int .u8 (x.val : Int)]) (fun _ _ => True) (fun xs => xs = askL f 6) (fun pre => pre <+: askL f 6) 6 w := fun l J Jx W hW hJ hJx hY h0 => by
  have hb2 := hb.below hW hb.lt
  have c0 : W.cell? ⟨bn, 0, none⟩ = some (.bool (f 0)) := hb2.cell 0
  have c1 : W.cell? ⟨bn, 1, none⟩ = some (.bool (f 1)) := hb2.cell 1
  have c2 : W.cell? ⟨bn, 2, none⟩ = some (.bool (f 2)) := hb2.cell 2
  have c3 : W.cell? ⟨bn, 3, none⟩ = some (.bool (f 3)) := hb2.cell 3
  have c4 : W.cell? ⟨bn, 4, none⟩ = some (.bool (f 4)) := hb2.cell 4
  have c5 : W.cell? ⟨bn, 5, none⟩ = some (.bool (f 5)) := hb2.cell 5
  have hix : ∀ (k : Nat) (W' : World), k < 6 → (Instr.index 227 (.agg #[.bool (f 0), .bool (f 1), .bool (f 2), .bool (f 3), .bool (f 4), .bool (f 5)]) (.int .i64 (k : Int))).run Tryz.prog W' = .ok (.bool (f k)) W' := fun k W' hk => by
    refine run_index_agg Tryz.underlying227 (by kernel_rfl) (by omega) (by omega) ?_ _
    have := tArr_at 6 f k hk
    rw [Int.toNat_natCast]
    exact this
  have HIX := Lib.hid hix
  clear hb hb2 hix hW
  refine callsIn_of_wp Tryz.func163 rfl trivial ?_ rfl
  simp only [Tryz.ntmps163, List.size_toArray, List.length_cons, List.length_nil, Nat.reduceAdd, Nat.reduceSub, Array.replicate_succ, Array.replicate_zero, List.push_toArray, List.append_toArray, List.nil_append, List.cons_append]
  gi_wp2
  clear c0 c1 c2 c3 c4 c5
  generalize (Value.agg #[.bool (f 0), .bool (f 1), .bool (f 2), .bool (f 3), .bool (f 4), .bool (f 5)]) = AV at *
  gi_loopw [6] (fun i wr => ∃ k : Nat, k ≤ 6 ∧ i = .int .i64 k ∧ J (askL f k) wr) (fun i wr => 6 - (intOf i).toNat)
  case atStart =>
    exact ⟨0, by omega, rfl, h0⟩
  case round =>
    obtain ⟨k, hk, rfl, hJs⟩ := hrel
    by_cases hlt : k < 6
    · have hi := HIX.out k wr hlt
      obtain ⟨fn, tmps, assign, body, hy, hR⟩ := hY (askL f k) ⟨k, hlt⟩ wr hJs (Nat.lt_of_le_of_lt (askL_len f k) hlt)
      dsimp only at hy
      have i0 : (k : Int) < 6 := by omega
      have i1 : (0 : Int) ≤ (k : Int) := by omega
      obtain ⟨x, hx⟩ : ∃ x, f k = x := ⟨_, rfl⟩
      rw [hx] at hi
      have e : askL f (k + 1) = if x = true then askL f k ++ [⟨k, hlt⟩] else askL f k := by
        simp only [askL]; rw [dif_pos hlt, hx]
      have HX := Lib.hid e
      clear hx e
      cases x with
      | false =>
        gi_wp2
        refine ⟨fun _ h => (by cases h), ?_⟩
        gi_wp2
        go_roundw
        case rel => exact ⟨k + 1, by omega, by go_num, by rw [HX.out]; exact hJs⟩
        case measure => simp [intOf]; omega
      | true =>
        gi_wp2
        refine hR.mono ?_
        rintro e W3 (⟨rfl, hJ3, _⟩ | ⟨rfl, hJx3⟩)
        · gi_wp2
          go_roundw
          case rel => exact ⟨k + 1, by omega, by go_num, by rw [HX.out]; exact hJ3⟩
          case measure => simp [intOf]; omega
        · gi_wp2
          refine bodyPost_ret (results_none rfl _ _ _) rfl ?_
          refine ⟨⟨_, rfl⟩, .inr ⟨_, ?_, hJx3⟩⟩
          have := askL_pre f (k + 1) 6 (by omega)
          rw [HX.out, if_pos (by simp)] at this
          exact this
    · obtain rfl : k = 6 := by omega
      have i0 : ¬ ((6 : Nat) : Int) < 6 := by omega
      gi_wp2
      go_end0
      first | exact ⟨⟨_, rfl⟩, .inl ⟨_, rfl, hJs⟩⟩ | exact ⟨⟨_, rfl⟩, .inl hJs⟩
end Go.Proofs.YtngfmofjonleeaaGreat
namespace Go.Proofs.YtngfmofjonleeaaGreat
open Go.RowKit Go.Shelf
set_option linter.unusedVariables false
set_option linter.unusedSimpArgs false
set_option maxRecDepth 100000
attribute [local go_sem] Oper.semAt_some
theorem blk_own {W W' : World} {g : Nat} {t : TypeId} {cs : Array Value} {row : Option Nat} (h : Blk W g t cs) (hg : W.grownBy W' row) (hr : ∀ r, row = some r → ∃ o : Obj, W.heap[r]? = some o ∧ o.isCells = false) : Blk W' g t cs :=
  h.grown hg fun e => by
    obtain ⟨o, ho, hc⟩ := hr g e.symm
    have h' : W.heap[g]? = some (Obj.cells cs t (0, 0)) := h
    rw [h'] at ho
    cases ho
    exact absurd hc (by simp [Obj.isCells])
section
variable {w W : World} {p : Option Addr} {d : Int} {t : Bool}
end
end Go.Proofs.YtngfmofjonleeaaGreat
namespace Go.Proofs.YtngfmofjonleeaaGreat
open Go.RowKit Go.Shelf
set_option linter.unusedVariables false
set_option linter.unusedSimpArgs false
set_option maxRecDepth 100000
attribute [local go_sem] Oper.semAt_some
/-- The bits of so many kinds. -/
def stI (l : List (Fin 6)) : Int := l.foldl (fun b x => withI b (kbI x.val) true) 0
theorem stI_snoc (l : List (Fin 6)) (x : Fin 6) : stI (l ++ [x]) = withI (stI l) (kbI x.val) true := by simp [stI]
section
variable {w W : World} {p : Option Addr} {t : Bool}
set_option maxHeartbeats 4000000 in
theorem status_of (ht : ∀ w : World, Below W.heap.size W w → Calls Tryz.prog 162 #[.pointer p] w fun e w' => e = .returned (.bool t) ∧ w = w') (hw : Below W.heap.size W w) (u2 u3 : Bool) :
    Calls Tryz.prog 152 #[.pointer p, .bool u2, .bool u3] w fun e w' => e = .returned (.int .u8 (stI (askL (askF false false t u2 u3) 6))) ∧ Below w.heap.size w w' := by
  refine (callsIn_wide (n := 6)).1 ?_
  refine callsIn_of_wp_marks Tryz.func152 rfl trivial ?_ rfl
  simp only [Tryz.ntmps152, List.size_toArray, List.length_cons, List.length_nil, Nat.reduceAdd, Nat.reduceSub, Array.replicate_succ, Array.replicate_zero, List.push_toArray, List.append_toArray, List.nil_append, List.cons_append]
  gi_wp2
  refine ⟨trivial, callsIn_wide.2 ?_⟩
  have hB4 : Below w.heap.size w (w.alloc (.cells #[.int .u8 0] 5)) := (Below.refl _ w).alloc (Nat.le_refl _) _
  have b0 : Blk (w.alloc (.cells #[.int .u8 0] 5)) w.heap.size 5 #[.int .u8 0] := Blk.new w _ _
  have s4 : (w.alloc (.cells #[.int .u8 0] 5)).heap.size = w.heap.size + 1 := by simp
  generalize World.alloc _ _ = w4 at *
  refine (asking_of ht (hw.trans (hB4.mono hw.size)) false false u2 u3).mono ?_
  rintro e w5 ⟨bn, rfl, hbn, hle, hB5⟩
  have B5 := hB4.trans (hB5.mono hB4.size)
  replace b0 := b0.below hB5 b0.lt
  have s5 := hB5.size
  generalize hf : askF false false t u2 u3 = f at *
  unfold askV
  gi_wp2
  refine wpIn_rangeFunc_ownF rfl (by omega) (gf := 163) (lb := #[.pointer (some ⟨bn, 0, none⟩)]) rfl trivial (enters_of Tryz.func163 (by kernel_rfl) rfl)
    (ask_stops 5 (by omega) bn f w5 hbn) (fun _ _ => trivial) (fun _ _ _ _ _ _ _ _ => trivial) (Below.refl _ _) (fun _ => rfl)
    (fun pre W1 => Blk W1 w.heap.size 5 #[.int .u8 (stI pre)] ∧ Below w.heap.size w W1)
    (fun c pre W1 => False ∧ Below w.heap.size w W1)
    (OwnFrom.and (I := fun pre W1 => Blk W1 w.heap.size 5 #[.int .u8 (stI pre)]) (fun s A B row hs hg hr => blk_own hs hg (fun r e => (hr r e).2)) (ownFrom_below (Nat.le_refl _) (by omega)))
    (fun c => OwnFrom.and (I := fun _ _ => False) (fun _ _ _ _ hs _ _ => hs) (ownFrom_below (Nat.le_refl _) (by omega)))
    ⟨b0, B5⟩
    (fun x => { tmps := #[.pointer p, .bool u2, .bool u3, undef, undef, undef, .int .u8 0, .pointer (some ⟨w.heap.size, 0, none⟩), .int .u8 (x.val : Int), .pointer p, .bool u2, .bool u3, .agg #[.bool false, .bool false, .bool u2, .bool u3], .func (.func 163) #[] #[.pointer (some ⟨bn, 0, none⟩)], .int .u8 (x.val : Int), undef, undef, undef, undef, undef], defers := [] }) ?assign ?body ?done ?stop
  case assign =>
    intro l x W1 K hK
    gi_wp2
    exact hK
  case body =>
    rintro l pre x W1 ⟨h0, hB⟩ _
    have c0 : W1.cell? ⟨w.heap.size, 0, none⟩ = some (.int .u8 (stI pre)) := h0.cell 0
    have f0 := h0.frozen 0
    have hsn := stI_snoc pre x
    generalize hv : stI pre = v at *
    generalize hx : (x.val : Int) = xi at *
    have x0 : 0 ≤ xi := by omega
    have x1 : xi ≤ 255 := by have := x.isLt; omega
    have H0 := Lib.hid h0
    have HS := Lib.hid hsn
    clear h0 hv hsn hx
    have hmx : Tryz.prog.follows .mixedOrders = true := by kernel_rfl
    gi_wp2
    gi_region_with_o (refine ⟨trivial, ?_⟩; first | (gi_at_call 161; refine (CallsIn.inRound l (callsIn_wide.2 (kbit_any _ _ x0 x1))).mono ?_; rintro e w' ⟨rfl, rfl⟩) | (gi_at_call 160; refine (CallsIn.inRound l (callsIn_wide.2 (with_any _ _ _ _))).mono ?_; rintro e w' ⟨rfl, rfl⟩))
    all_goals gi_wp2
    all_goals exact ⟨(KeepsOthers.setCell _ _ _).trans (KeepsOthers.drew _), trivial, by rw [HS.out]; exact H0.out.set_ 0 _, (hB.setCell (p := ⟨w.heap.size, 0, none⟩) (by simp) _).drew⟩
  case done =>
    rintro D xs W1 hD rfl ⟨h0, hB⟩ hK
    have c0 : W1.cell? ⟨w.heap.size, 0, none⟩ = some (.int .u8 (stI (askL f 6))) := h0.cell 0
    gi_wp2
    refine ⟨by simp, .inl ⟨_, _, rfl, run_takeDeferred hK, ?_⟩⟩
    exact ⟨_, results_tmp rfl _ _ _, by rw [hf]; rfl, hB.trans (belowK_b (w := w) (Nat.le_refl _) W1 D _ _ (by omega) hK rfl rfl)⟩
  case stop =>
    rintro D c pre W1 hD _ h _
    exact h.1.elim
end
end Go.Proofs.YtngfmofjonleeaaGreat
