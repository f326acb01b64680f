/-
  Layer 15: six channels: what they are in memory; at, ready, New.
-/
import Derived.Test.YtaamfcbpelbboaaDoorWav4
import Derived.Test.YtaamfcbpelbboaaDoorMix0
import Derived.Test.YtaamfcbpelbboaaDoorG1
import Derived.Test.YtaamfcbpelbboaaDoorG14
import Derived.Test.YtaamfcbpelbboaaDoorG22
import Derived.Deep.Cut
import Derived.Deep.CutRange
namespace Go.Proofs.YtaamfcbpelbboaaDoor
open Go.RowKit
set_option linter.unusedVariables false
set_option linter.unusedSimpArgs false
set_option maxRecDepth 100000
def pgV (ps : Nat → Option Nat) (ch : Nat) (lo de : Int) (i : Nat) : Value :=
  if i < 6 then .pointer ((ps i).map fun n => ⟨n, 0, none⟩) else if i = 6 then .int .i64 ch else if i = 7 then .int .u8 lo else .int .u8 de
def pgC (ps : Nat → Option Nat) (ch : Nat) (lo de : Int) : Array Value := ((List.range 9).map (pgV ps ch lo de)).toArray
section
variable {ps qs : Nat → Option Nat} {ch dh : Nat} {lo de mo fe : Int}
theorem pgC_size : (pgC ps ch lo de).size = 9 := by simp [pgC]
theorem pgC_at (i : Nat) (h : i < 9) : (pgC ps ch lo de)[i]? = some (pgV ps ch lo de i) := by simp [pgC, h]
theorem pgC_set (i : Nat) (v : Value) (h : ∀ j, j < 9 → pgV qs dh mo fe j = if j = i then v else pgV ps ch lo de j) : (pgC ps ch lo de).setIfInBounds i v = pgC qs dh mo fe := by
  apply Array.ext_getElem?
  intro j
  by_cases hj : j < 9
  · rw [pgC_at j hj, h j hj]
    by_cases e : i = j
    · subst e
      rw [Array.getElem?_setIfInBounds_self_of_lt (by rw [pgC_size]; exact hj), if_pos rfl]
    · rw [Array.getElem?_setIfInBounds_ne e, pgC_at j hj, if_neg (fun x => e x.symm)]
  · rw [Array.getElem?_eq_none (by rw [Array.size_setIfInBounds, pgC_size]; omega), Array.getElem?_eq_none (by rw [pgC_size]; omega)]
end
def PB (w : World) (g : Nat) (ps : Nat → Option Nat) (ch : Nat) (lo de : Int) : Prop := Blk w g 66 (pgC ps ch lo de)
section
variable {w w' : World} {g : Nat} {ps : Nat → Option Nat} {ch : Nat} {lo de : Int} {L : List Nat}
theorem PB.cell (h : PB w g ps ch lo de) (i : Nat) (hi : i < 9) : w.cell? ⟨g, i, none⟩ = some (pgV ps ch lo de i) := by
  have h' : Blk w g 66 (pgC ps ch lo de) := h
  rw [h'.cell, pgC_at i hi]
theorem PB.ptr (h : PB w g ps ch lo de) (i : Nat) (hi : i < 6) : w.cell? ⟨g, i, none⟩ = some (.pointer ((ps i).map fun n => ⟨n, 0, none⟩)) := by
  rw [h.cell i (by omega)]; unfold pgV; rw [if_pos hi]
theorem at_some (h : PB w g ps ch lo de) (i : Nat) (hi : i < 6) {n : Nat} (hn : ps i = some n) : Calls Tryd.prog 43 #[.pointer (some ⟨g, 0, none⟩), .int .i64 i] w fun e w' => e = .returned (.pointer (some ⟨n, 0, none⟩)) ∧ w = w' := by
  have c := h.ptr i hi
  rw [hn] at c
  have c' : w.cell? ⟨g, i, none⟩ = some (.pointer (some ⟨n, 0, none⟩)) := c
  have i0 : (0 : Int) ≤ (i : Int) := by omega
  have i1 : (i : Int) < 6 := by omega
  clear c h hn
  go_enter Tryd.func43, Tryd.ntmps43
  go_wp2
  go_ret
  exact ⟨rfl, rfl⟩
theorem at_none (h : PB w g ps ch lo de) (i : Nat) (hi : i < 6) (hn : ps i = none) : Calls Tryd.prog 43 #[.pointer (some ⟨g, 0, none⟩), .int .i64 i] w (CNewR Cw.new w) := by
  have c := h.ptr i hi
  rw [hn] at c
  have c' : w.cell? ⟨g, i, none⟩ = some (.pointer none) := c
  have i0 : (0 : Int) ≤ (i : Int) := by omega
  have i1 : (i : Int) < 6 := by omega
  clear c h hn
  go_enter Tryd.func43, Tryd.ntmps43
  go_wp2_with fail
  refine (cnew_any _).mono ?_
  rintro e w1 ⟨r, rfl, hr, h1, b1⟩
  have H1 := Lib.hid h1
  have B1 := Lib.hid b1
  clear h1 b1
  go_wp2_with fail
  go_ret
  exact ⟨r, rfl, hr, H1.out, B1.out⟩
theorem ready_all {ns : Nat → Nat} (h : PB w g (fun i => some (ns i)) ch lo de) : Calls Tryd.prog 31 #[.pointer (some ⟨g, 0, none⟩)] w fun e w' => e = .returned (.tuple #[]) ∧ PB w' g (fun i => some (ns i)) ch lo de ∧ Kp [g] w w' := by
  have H := Lib.hid h
  clear h
  go_enter Tryd.func31, Tryd.ntmps31
  go_wp2_with fail
  go_loopw [3] (fun i wr => ∃ k : Nat, k ≤ 6 ∧ i = .int .i64 k ∧ PB wr g (fun i => some (ns i)) ch lo de ∧ Kp [g] w wr) (fun i _ => 6 - (intOf i).toNat)
  case atStart => exact ⟨0, by omega, rfl, H.out, Kp.refl _ _⟩
  case round =>
    obtain ⟨k, hk, rfl, hP, hK⟩ := hrel
    have HK := Lib.hid hK
    by_cases hlt : k < 6
    · have i0 : (0 : Int) ≤ (k : Int) := by omega
      have i1 : (k : Int) < 6 := by omega
      have c0 : wr.cell? ⟨g, k, none⟩ = some (.pointer (some ⟨ns k, 0, none⟩)) := hP.ptr k hlt
      have f0 : wr.frozen? ⟨g, k, none⟩ = false := Blk.frozen hP k
      have q1 := Blk.set_ hP k (.pointer (some ⟨ns k, 0, none⟩))
      rw [pgC_set (qs := fun i => some (ns i)) (dh := ch) (mo := lo) (fe := de) k _ (fun j hj => by
        by_cases e : j = k
        · subst e; unfold pgV; rw [if_pos rfl, if_pos hlt]; rfl
        · rw [if_neg e])] at q1
      have HQ : Hid (PB (wr.setCell ⟨g, k, none⟩ (.pointer (some ⟨ns k, 0, none⟩))) g (fun i => some (ns i)) ch lo de) := Lib.hid q1
      have HKk : Hid (Kp [g] w (wr.setCell ⟨g, k, none⟩ (.pointer (some ⟨ns k, 0, none⟩)))) := Lib.hid (hK.setCell (.inl (by simp)) _)
      have HG := Lib.hid (And.intro (PB.ptr q1 k hlt) (Blk.frozen q1 k))
      have HP := Lib.hid hP
      clear hP hK q1 H
      go_wp2_with fail
      refine rg_begin (S := fun w' => w'.cell? ⟨g, k, none⟩ = some (.pointer (some ⟨ns k, 0, none⟩)) ∧ w'.frozen? ⟨g, k, none⟩ = false) 9 #[false, false, false, false, false, false, false, false, false] (by kernel_rfl) (by kernel_rfl) (by kernel_rfl) ?_ (fun hHeld => ?_)
      · exact ⟨c0, f0⟩
      refine rg_take (i := 0) (d := some 6) (l := #[true, false, false, false, false, false, false, false, false]) (fuel := 8) (v := ?_) rfl (by kernel_rfl) (by kernel_rfl) (by kernel_rfl) (by kernel_rfl) (by kernel_rfl) (fun _ _ _ h => h) (by kernel_rfl) ?_ (by assumption) ?_
      rotate_left 1
      · (intro wS hSw; (try dsimp only at hSw); go_simp; try with_reducible rfl)
      try simp only [Act.put, List.setIfInBounds_toArray, List.set_cons_zero, List.set_cons_succ]
      refine rg_take (i := 1) (d := some 7) (l := #[true, true, false, false, false, false, false, false, false]) (fuel := 7) (v := ?_) rfl (by kernel_rfl) (by kernel_rfl) (by kernel_rfl) (by kernel_rfl) (by kernel_rfl) (fun _ _ _ h => h) (by kernel_rfl) ?_ (by assumption) ?_
      rotate_left 1
      · (intro wS hSw; (try dsimp only at hSw); go_simp; try with_reducible rfl)
      try simp only [Act.put, List.setIfInBounds_toArray, List.set_cons_zero, List.set_cons_succ]
      refine rg_take (i := 2) (d := some 8) (l := #[true, true, true, false, false, false, false, false, false]) (fuel := 6) (v := ?_) rfl (by kernel_rfl) (by kernel_rfl) (by kernel_rfl) (by kernel_rfl) (by kernel_rfl) (fun _ _ _ h => h) (by kernel_rfl) ?_ (by assumption) ?_
      rotate_left 1
      · (intro wS hSw; (try dsimp only at hSw); go_simp; try with_reducible rfl)
      try simp only [Act.put, List.setIfInBounds_toArray, List.set_cons_zero, List.set_cons_succ]
      refine rg_take (i := 3) (d := some 9) (l := #[true, true, true, true, false, false, false, false, false]) (fuel := 5) (v := ?_) rfl (by kernel_rfl) (by kernel_rfl) (by kernel_rfl) (by kernel_rfl) (by kernel_rfl) (fun _ _ _ h => h) (by kernel_rfl) ?_ (by assumption) ?_
      rotate_left 1
      · (intro wS hSw; (try dsimp only at hSw); go_simp; try with_reducible rfl)
      try simp only [Act.put, List.setIfInBounds_toArray, List.set_cons_zero, List.set_cons_succ]
      refine rg_take (i := 5) (d := some 11) (l := #[true, true, true, true, false, true, false, false, false]) (fuel := 4) (v := ?_) rfl (by kernel_rfl) (by kernel_rfl) (by kernel_rfl) (by kernel_rfl) (by kernel_rfl) (fun _ _ _ h => h) (by kernel_rfl) ?_ (by assumption) ?_
      rotate_left 1
      · (intro wS hSw; (try dsimp only at hSw); go_simp; try with_reducible rfl)
      try simp only [Act.put, List.setIfInBounds_toArray, List.set_cons_zero, List.set_cons_succ]
      refine rg_take (i := 6) (d := some 12) (l := #[true, true, true, true, false, true, true, false, false]) (fuel := 3) (v := ?_) rfl (by kernel_rfl) (by kernel_rfl) (by kernel_rfl) (by kernel_rfl) (by kernel_rfl) (fun _ _ _ h => h) (by kernel_rfl) ?_ (by assumption) ?_
      rotate_left 1
      · (intro wS hSw; (try dsimp only at hSw); go_simp; try with_reducible rfl)
      try simp only [Act.put, List.setIfInBounds_toArray, List.set_cons_zero, List.set_cons_succ]
      refine rg_next (i := 4) (l := #[true, true, true, true, true, true, true, false, false]) (fuel := 2) (by kernel_rfl) rfl (by kernel_rfl) (by kernel_rfl) (fun K hK => ?_)
      go_simp
      (go_at_call 43)
      refine (at_some (w := wr.drew) (g := g) (ps := fun i => some (ns i)) (ch := ch) (lo := lo) (de := de) (by exact HP.out) k hlt rfl).mono ?_
      rintro e w1 ⟨rfl, rfl⟩
      first | (refine hK.out _ _ ?_ (fun hHeld => ?_)) | (go_wp2_with fail; refine hK.out _ _ ?_ (fun hHeld => ?_))
      · (try dsimp only); exact ⟨c0, f0⟩
      clear hK K
      try simp only [Act.put, List.setIfInBounds_toArray, List.set_cons_zero, List.set_cons_succ]
      refine rg_take (i := 7) (d := some 13) (l := #[true, true, true, true, true, true, true, true, false]) (fuel := 1) (v := ?_) rfl (by kernel_rfl) (by kernel_rfl) (by kernel_rfl) (by kernel_rfl) (by kernel_rfl) (fun _ _ _ h => h) (by kernel_rfl) ?_ (by assumption) ?_
      rotate_left 1
      · (intro wS hSw; (try dsimp only at hSw); go_simp; try with_reducible rfl)
      try simp only [Act.put, List.setIfInBounds_toArray, List.set_cons_zero, List.set_cons_succ]
      refine rg_next (i := 8) (l := #[true, true, true, true, true, true, true, true, true]) (fuel := 0) (by kernel_rfl) rfl (by kernel_rfl) (by kernel_rfl) (fun K hK => ?_)
      go_simp
      skip
      first | (refine hK.out _ _ ?_ (fun hHeld => ?_)) | (go_wp2_with fail; refine hK.out _ _ ?_ (fun hHeld => ?_))
      · (try dsimp only); exact HG.out
      clear hK K
      try simp only [Act.put, List.setIfInBounds_toArray, List.set_cons_zero, List.set_cons_succ]
      refine wpAnyH_done (by kernel_rfl) ?_ _
      go_wp2_with fail
      go_roundw
      case rel => exact ⟨k + 1, by omega, by go_num, HQ.out, HKk.out.drew⟩
      case measure => simp [intOf]; omega
    · have i1 : ¬ (k : Int) < 6 := by omega
      have HP := Lib.hid hP
      clear hP hK
      go_wp2_with fail
      go_end0
      exact ⟨rfl, HP.out, HK.out⟩
theorem below_undrew {n : Nat} (h : Below n w.drew w') : Below n w w' := ⟨h.os, h.tape, h.output, h.size, h.block⟩
/-- The first k pointers. -/
def upK (ns : Nat → Nat) (k : Nat) (i : Nat) : Option Nat := if i < k then some (ns i) else none
def NewI (w : World) (g ch : Nat) (lo de : Int) (ns : Nat → Nat) (k : Nat) (wr : World) : Prop :=
  PB wr g (upK ns k) ch lo de ∧ (∀ i, i < k → CW wr (ns i) Cw.new ∧ w.heap.size ≤ ns i) ∧ (∀ i j, i < j → j < k → ns i < ns j) ∧ Kp [g] w wr
theorem NewI.step {ns : Nat → Nat} {k r : Nat} {wr w1 : World} (h : NewI w g ch lo de ns k wr) (hk : k < 6) (hg : g < w.heap.size) (hr : wr.heap.size ≤ r) (h1 : CW w1 r Cw.new) (b1 : Below wr.heap.size wr w1) :
    NewI w g ch lo de (fun i => if i = k then r else ns i) (k + 1) (w1.setCell ⟨g, k, none⟩ (.pointer (some ⟨r, 0, none⟩))) := by
  obtain ⟨hP, hC, hM, hK⟩ := h
  have sz := hK.size
  have hP1 : PB w1 g (upK ns k) ch lo de := Blk.below hP b1 (Blk.lt hP)
  have k1 : Kp [g] w1 (w1.setCell ⟨g, k, none⟩ (.pointer (some ⟨r, 0, none⟩))) := (Kp.refl _ _).setCell (.inl (by simp)) _
  refine ⟨?_, ?_, ?_, ?_⟩
  · have q1 := Blk.set_ hP1 k (.pointer (some ⟨r, 0, none⟩))
    rwa [pgC_set (qs := upK (fun i => if i = k then r else ns i) (k + 1)) (dh := ch) (mo := lo) (fe := de) k _ (fun j hj => by
      by_cases e : j = k
      · subst e; unfold pgV upK; rw [if_pos rfl, if_pos hk, if_pos (by omega)]; simp
      · rw [if_neg e]; unfold pgV upK
        by_cases h6 : j < 6
        · rw [if_pos h6, if_pos h6]
          by_cases hj2 : j < k
          · rw [if_pos hj2, if_pos (by omega)]; simp only [if_neg e]
          · rw [if_neg hj2, if_neg (by omega)]
        · rw [if_neg h6, if_neg h6])] at q1
  · intro i hi
    by_cases e : i = k
    · simp only [e, if_true]
      exact ⟨h1.kp k1 (by simp; omega), by omega⟩
    · simp only [e, if_false]
      obtain ⟨c, d⟩ := hC i (by omega)
      exact ⟨(c.keep b1 c.lt).kp k1 (by simp; omega), d⟩
  · intro i j hij hj
    by_cases e : j = k
    · subst e
      have := (hC i hij).1.lt
      simp only [if_true, if_neg (show ¬ i = j by omega)]
      omega
    · simp only [if_neg e, if_neg (show ¬ i = k by omega)]
      exact hM i j hij (by omega)
  · exact (hK.trans (Kp.of_below (L := []) b1) (by simp)).setCell (.inl (by simp)) _
theorem ready_new (h : PB w g (fun _ => none) ch lo de) : Calls Tryd.prog 31 #[.pointer (some ⟨g, 0, none⟩)] w fun e w' => e = .returned (.tuple #[]) ∧ ∃ ns, NewI w g ch lo de ns 6 w' := by
  have hlt0 : g < w.heap.size := Blk.lt h
  have HL := Lib.hid hlt0
  have H : Hid (NewI w g ch lo de (fun _ => 0) 0 w) := Lib.hid ⟨h, fun i hi => absurd hi (by omega), fun i j _ hj => absurd hj (by omega), Kp.refl _ _⟩
  clear h hlt0
  go_enter Tryd.func31, Tryd.ntmps31
  go_wp2_with fail
  go_loopw [3] (fun i wr => ∃ (k : Nat) (ns : Nat → Nat), k ≤ 6 ∧ i = .int .i64 k ∧ NewI w g ch lo de ns k wr) (fun i _ => 6 - (intOf i).toNat)
  case atStart => exact ⟨0, _, by omega, rfl, H.out⟩
  case round =>
    obtain ⟨k, ns, hk, rfl, hI⟩ := hrel
    by_cases hlt : k < 6
    · have i0 : (0 : Int) ≤ (k : Int) := by omega
      have i1 : (k : Int) < 6 := by omega
      have hn : upK ns k k = none := by unfold upK; rw [if_neg (by omega)]
      have c0 : wr.cell? ⟨g, k, none⟩ = some (.pointer none) := by rw [hI.1.ptr k hlt, hn]; rfl
      have f0 : wr.frozen? ⟨g, k, none⟩ = false := Blk.frozen hI.1 k
      have HI := Lib.hid hI
      have HN := Lib.hid hn
      clear hI hn H
      go_wp2_with fail
      refine rg_begin (S := fun w' => (∃ u, w'.cell? ⟨g, k, none⟩ = some u) ∧ w'.frozen? ⟨g, k, none⟩ = false) 9 #[false, false, false, false, false, false, false, false, false] (by kernel_rfl) (by kernel_rfl) (by kernel_rfl) ?_ (fun hHeld => ?_)
      · exact ⟨⟨_, c0⟩, f0⟩
      refine rg_take (i := 0) (d := some 6) (l := #[true, false, false, false, false, false, false, false, false]) (fuel := 8) (v := ?_) rfl (by kernel_rfl) (by kernel_rfl) (by kernel_rfl) (by kernel_rfl) (by kernel_rfl) (fun _ _ _ h => h) (by kernel_rfl) ?_ (by assumption) ?_
      rotate_left 1
      · (intro wS hSw; (try dsimp only at hSw); go_simp; try with_reducible rfl)
      try simp only [Act.put, List.setIfInBounds_toArray, List.set_cons_zero, List.set_cons_succ]
      refine rg_take (i := 1) (d := some 7) (l := #[true, true, false, false, false, false, false, false, false]) (fuel := 7) (v := ?_) rfl (by kernel_rfl) (by kernel_rfl) (by kernel_rfl) (by kernel_rfl) (by kernel_rfl) (fun _ _ _ h => h) (by kernel_rfl) ?_ (by assumption) ?_
      rotate_left 1
      · (intro wS hSw; (try dsimp only at hSw); go_simp; try with_reducible rfl)
      try simp only [Act.put, List.setIfInBounds_toArray, List.set_cons_zero, List.set_cons_succ]
      refine rg_take (i := 2) (d := some 8) (l := #[true, true, true, false, false, false, false, false, false]) (fuel := 6) (v := ?_) rfl (by kernel_rfl) (by kernel_rfl) (by kernel_rfl) (by kernel_rfl) (by kernel_rfl) (fun _ _ _ h => h) (by kernel_rfl) ?_ (by assumption) ?_
      rotate_left 1
      · (intro wS hSw; (try dsimp only at hSw); go_simp; try with_reducible rfl)
      try simp only [Act.put, List.setIfInBounds_toArray, List.set_cons_zero, List.set_cons_succ]
      refine rg_take (i := 3) (d := some 9) (l := #[true, true, true, true, false, false, false, false, false]) (fuel := 5) (v := ?_) rfl (by kernel_rfl) (by kernel_rfl) (by kernel_rfl) (by kernel_rfl) (by kernel_rfl) (fun _ _ _ h => h) (by kernel_rfl) ?_ (by assumption) ?_
      rotate_left 1
      · (intro wS hSw; (try dsimp only at hSw); go_simp; try with_reducible rfl)
      try simp only [Act.put, List.setIfInBounds_toArray, List.set_cons_zero, List.set_cons_succ]
      refine rg_take (i := 5) (d := some 11) (l := #[true, true, true, true, false, true, false, false, false]) (fuel := 4) (v := ?_) rfl (by kernel_rfl) (by kernel_rfl) (by kernel_rfl) (by kernel_rfl) (by kernel_rfl) (fun _ _ _ h => h) (by kernel_rfl) ?_ (by assumption) ?_
      rotate_left 1
      · (intro wS hSw; (try dsimp only at hSw); go_simp; try with_reducible rfl)
      try simp only [Act.put, List.setIfInBounds_toArray, List.set_cons_zero, List.set_cons_succ]
      refine rg_take (i := 6) (d := some 12) (l := #[true, true, true, true, false, true, true, false, false]) (fuel := 3) (v := ?_) rfl (by kernel_rfl) (by kernel_rfl) (by kernel_rfl) (by kernel_rfl) (by kernel_rfl) (fun _ _ _ h => h) (by kernel_rfl) ?_ (by assumption) ?_
      rotate_left 1
      · (intro wS hSw; (try dsimp only at hSw); go_simp; try with_reducible rfl)
      try simp only [Act.put, List.setIfInBounds_toArray, List.set_cons_zero, List.set_cons_succ]
      refine rg_next (i := 4) (l := #[true, true, true, true, true, true, true, false, false]) (fuel := 2) (by kernel_rfl) rfl (by kernel_rfl) (by kernel_rfl) (fun K hK => ?_)
      go_simp
      (go_at_call 43)
      refine (at_none (w := wr.drew) (g := g) (ps := upK ns k) (ch := ch) (lo := lo) (de := de) (by exact HI.out.1) k hlt HN.out).mono ?_
      rintro e w1 ⟨r, rfl, hr, h1, b0⟩
      have b1 : Below wr.heap.size wr w1 := below_undrew b0
      have HJ := Lib.hid (HI.out.step hlt HL.out hr h1 b1)
      have z0 := (b1.cell (p := ⟨g, k, none⟩) (by exact Blk.lt HI.out.1)).trans c0
      have z1 := Blk.frozen (Blk.below (w := wr) HI.out.1 b1 (Blk.lt HI.out.1)) k
      clear b0 b1 hr h1 c0 f0
      first | (refine hK.out _ _ ?_ (fun hHeld => ?_)) | (go_wp2_with fail; refine hK.out _ _ ?_ (fun hHeld => ?_))
      · (try dsimp only); exact ⟨⟨_, z0⟩, z1⟩
      clear hK K
      try simp only [Act.put, List.setIfInBounds_toArray, List.set_cons_zero, List.set_cons_succ]
      refine rg_take (i := 7) (d := some 13) (l := #[true, true, true, true, true, true, true, true, false]) (fuel := 1) (v := ?_) rfl (by kernel_rfl) (by kernel_rfl) (by kernel_rfl) (by kernel_rfl) (by kernel_rfl) (fun _ _ _ h => h) (by kernel_rfl) ?_ (by assumption) ?_
      rotate_left 1
      · (intro wS hSw; (try dsimp only at hSw); go_simp; try with_reducible rfl)
      try simp only [Act.put, List.setIfInBounds_toArray, List.set_cons_zero, List.set_cons_succ]
      obtain ⟨⟨u, hu⟩, hf⟩ := hHeld
      refine rg_next (i := 8) (l := #[true, true, true, true, true, true, true, true, true]) (fuel := 0) (by kernel_rfl) rfl (by kernel_rfl) (by kernel_rfl) (fun K hK => ?_)
      go_simp
      skip
      first | (refine hK.out _ _ ?_ (fun hHeld => ?_)) | (go_wp2_with fail; refine hK.out _ _ ?_ (fun hHeld => ?_))
      · (try dsimp only); exact ⟨⟨_, PB.ptr HJ.out.1 k hlt⟩, Blk.frozen HJ.out.1 k⟩
      clear hK K
      try simp only [Act.put, List.setIfInBounds_toArray, List.set_cons_zero, List.set_cons_succ]
      refine wpAnyH_done (by kernel_rfl) ?_ _
      go_wp2_with fail
      go_roundw
      case rel => exact ⟨k + 1, _, by omega, by go_num, HJ.out⟩
      case measure => simp [intOf]; omega
    · have i1 : ¬ (k : Int) < 6 := by omega
      obtain rfl : k = 6 := by omega
      have HI := Lib.hid hI
      clear hI
      go_wp2_with fail
      go_end0
      exact ⟨rfl, ns, HI.out⟩
end
end Go.Proofs.YtaamfcbpelbboaaDoor
