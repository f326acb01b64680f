/-
  Texts of these proofs, one behind the other: Psg1, Psg2.
-/
import Derived.Test.YtaamfcbpelbboaaDoorKM13
import Derived.Test.YtaamfcbpelbboaaDoorKM14
import Derived.Test.YtaamfcbpelbboaaDoorKM15
import Derived.Test.YtaamfcbpelbboaaDoorKM07
import Derived.Deep.Cut
import Derived.Deep.CutRange
namespace Go.Proofs.YtaamfcbpelbboaaDoor
open Go.RowKit
set_option linter.unusedVariables false
set_option linter.unusedSimpArgs false
set_option maxRecDepth 100000
def pgV (ps : Nat → Option Nat) (ch : Nat) (lo de : Int) (i : Nat) : Value :=
  if i < 6 then .pointer ((ps i).map fun n => ⟨n, 0, none⟩) else if i = 6 then .int .i64 ch else if i = 7 then .int .u8 lo else .int .u8 de
def pgC (ps : Nat → Option Nat) (ch : Nat) (lo de : Int) : Array Value := ((List.range 9).map (pgV ps ch lo de)).toArray
section
variable {ps qs : Nat → Option Nat} {ch dh : Nat} {lo de mo fe : Int}
theorem pgC_size : (pgC ps ch lo de).size = 9 := by simp [pgC]
theorem pgC_at (i : Nat) (h : i < 9) : (pgC ps ch lo de)[i]? = some (pgV ps ch lo de i) := by simp [pgC, h]
theorem pgC_set (i : Nat) (v : Value) (h : ∀ j, j < 9 → pgV qs dh mo fe j = if j = i then v else pgV ps ch lo de j) : (pgC ps ch lo de).setIfInBounds i v = pgC qs dh mo fe := by
  apply Array.ext_getElem?
  intro j
  by_cases hj : j < 9
  · rw [pgC_at j hj, h j hj]
    by_cases e : i = j
    · subst e
      rw [Array.getElem?_setIfInBounds_self_of_lt (by rw [pgC_size]; exact hj), if_pos rfl]
    · rw [Array.getElem?_setIfInBounds_ne e, pgC_at j hj, if_neg (fun x => e x.symm)]
  · rw [Array.getElem?_eq_none (by rw [Array.size_setIfInBounds, pgC_size]; omega), Array.getElem?_eq_none (by rw [pgC_size]; omega)]
end
def PB (w : World) (g : Nat) (ps : Nat → Option Nat) (ch : Nat) (lo de : Int) : Prop := Blk w g 66 (pgC ps ch lo de)
section
variable {w w' : World} {g : Nat} {ps : Nat → Option Nat} {ch : Nat} {lo de : Int} {L : List Nat}
theorem PB.cell (h : PB w g ps ch lo de) (i : Nat) (hi : i < 9) : w.cell? ⟨g, i, none⟩ = some (pgV ps ch lo de i) := by
  have h' : Blk w g 66 (pgC ps ch lo de) := h
  rw [h'.cell, pgC_at i hi]
theorem PB.ptr (h : PB w g ps ch lo de) (i : Nat) (hi : i < 6) : w.cell? ⟨g, i, none⟩ = some (.pointer ((ps i).map fun n => ⟨n, 0, none⟩)) := by
  rw [h.cell i (by omega)]; unfold pgV; rw [if_pos hi]
theorem at_some (h : PB w g ps ch lo de) (i : Nat) (hi : i < 6) {n : Nat} (hn : ps i = some n) : Calls Tryd.prog 43 #[.pointer (some ⟨g, 0, none⟩), .int .i64 i] w fun e w' => e = .returned (.pointer (some ⟨n, 0, none⟩)) ∧ w = w' := by
  have c := h.ptr i hi
  rw [hn] at c
  have c' : w.cell? ⟨g, i, none⟩ = some (.pointer (some ⟨n, 0, none⟩)) := c
  have i0 : (0 : Int) ≤ (i : Int) := by omega
  have i1 : (i : Int) < 6 := by omega
  clear c h hn
  go_enter Tryd.func43, Tryd.ntmps43
  go_wp2
  go_ret
  exact ⟨rfl, rfl⟩
theorem at_none (h : PB w g ps ch lo de) (i : Nat) (hi : i < 6) (hn : ps i = none) : Calls Tryd.prog 43 #[.pointer (some ⟨g, 0, none⟩), .int .i64 i] w (CNewR Cw.new w) := by
  have c := h.ptr i hi
  rw [hn] at c
  have c' : w.cell? ⟨g, i, none⟩ = some (.pointer none) := c
  have i0 : (0 : Int) ≤ (i : Int) := by omega
  have i1 : (i : Int) < 6 := by omega
  clear c h hn
  go_enter Tryd.func43, Tryd.ntmps43
  go_wp2_with fail
  refine (cnew_any _).mono ?_
  rintro e w1 ⟨r, rfl, hr, h1, b1⟩
  have H1 := Lib.hid h1
  have B1 := Lib.hid b1
  clear h1 b1
  go_wp2_with fail
  go_ret
  exact ⟨r, rfl, hr, H1.out, B1.out⟩
theorem ready_all {ns : Nat → Nat} (h : PB w g (fun i => some (ns i)) ch lo de) : Calls Tryd.prog 31 #[.pointer (some ⟨g, 0, none⟩)] w fun e w' => e = .returned (.tuple #[]) ∧ PB w' g (fun i => some (ns i)) ch lo de ∧ Kp [g] w w' := by
  have H := Lib.hid h
  clear h
  go_enter Tryd.func31, Tryd.ntmps31
  go_wp2_with fail
  go_loopw [3] (fun i wr => ∃ k : Nat, k ≤ 6 ∧ i = .int .i64 k ∧ PB wr g (fun i => some (ns i)) ch lo de ∧ Kp [g] w wr) (fun i _ => 6 - (intOf i).toNat)
  case atStart => exact ⟨0, by omega, rfl, H.out, Kp.refl _ _⟩
  case round =>
    obtain ⟨k, hk, rfl, hP, hK⟩ := hrel
    have HK := Lib.hid hK
    by_cases hlt : k < 6
    · have i0 : (0 : Int) ≤ (k : Int) := by omega
      have i1 : (k : Int) < 6 := by omega
      have c0 : wr.cell? ⟨g, k, none⟩ = some (.pointer (some ⟨ns k, 0, none⟩)) := hP.ptr k hlt
      have f0 : wr.frozen? ⟨g, k, none⟩ = false := Blk.frozen hP k
      have q1 := Blk.set_ hP k (.pointer (some ⟨ns k, 0, none⟩))
      rw [pgC_set (qs := fun i => some (ns i)) (dh := ch) (mo := lo) (fe := de) k _ (fun j hj => by
        by_cases e : j = k
        · subst e; unfold pgV; rw [if_pos rfl, if_pos hlt]; rfl
        · rw [if_neg e])] at q1
      have HQ : Hid (PB (wr.setCell ⟨g, k, none⟩ (.pointer (some ⟨ns k, 0, none⟩))) g (fun i => some (ns i)) ch lo de) := Lib.hid q1
      have HKk : Hid (Kp [g] w (wr.setCell ⟨g, k, none⟩ (.pointer (some ⟨ns k, 0, none⟩)))) := Lib.hid (hK.setCell (.inl (by simp)) _)
      have HG := Lib.hid (And.intro (PB.ptr q1 k hlt) (Blk.frozen q1 k))
      have HP := Lib.hid hP
      clear hP hK q1 H
      go_wp2_with fail
      refine rg_begin (S := fun w' => w'.cell? ⟨g, k, none⟩ = some (.pointer (some ⟨ns k, 0, none⟩)) ∧ w'.frozen? ⟨g, k, none⟩ = false) 9 #[false, false, false, false, false, false, false, false, false] (by kernel_rfl) (by kernel_rfl) (by kernel_rfl) ?_ (fun hHeld => ?_)
      · exact ⟨c0, f0⟩
      refine rg_take (i := 0) (d := some 6) (l := #[true, false, false, false, false, false, false, false, false]) (fuel := 8) (v := ?_) rfl (by kernel_rfl) (by kernel_rfl) (by kernel_rfl) (by kernel_rfl) (by kernel_rfl) (fun _ _ _ h => h) (by kernel_rfl) ?_ (by assumption) ?_
      rotate_left 1
      · (intro wS hSw; (try dsimp only at hSw); go_simp; try with_reducible rfl)
      try simp only [Act.put, List.setIfInBounds_toArray, List.set_cons_zero, List.set_cons_succ]
      refine rg_take (i := 1) (d := some 7) (l := #[true, true, false, false, false, false, false, false, false]) (fuel := 7) (v := ?_) rfl (by kernel_rfl) (by kernel_rfl) (by kernel_rfl) (by kernel_rfl) (by kernel_rfl) (fun _ _ _ h => h) (by kernel_rfl) ?_ (by assumption) ?_
      rotate_left 1
      · (intro wS hSw; (try dsimp only at hSw); go_simp; try with_reducible rfl)
      try simp only [Act.put, List.setIfInBounds_toArray, List.set_cons_zero, List.set_cons_succ]
      refine rg_take (i := 2) (d := some 8) (l := #[true, true, true, false, false, false, false, false, false]) (fuel := 6) (v := ?_) rfl (by kernel_rfl) (by kernel_rfl) (by kernel_rfl) (by kernel_rfl) (by kernel_rfl) (fun _ _ _ h => h) (by kernel_rfl) ?_ (by assumption) ?_
      rotate_left 1
      · (intro wS hSw; (try dsimp only at hSw); go_simp; try with_reducible rfl)
      try simp only [Act.put, List.setIfInBounds_toArray, List.set_cons_zero, List.set_cons_succ]
      refine rg_take (i := 3) (d := some 9) (l := #[true, true, true, true, false, false, false, false, false]) (fuel := 5) (v := ?_) rfl (by kernel_rfl) (by kernel_rfl) (by kernel_rfl) (by kernel_rfl) (by kernel_rfl) (fun _ _ _ h => h) (by kernel_rfl) ?_ (by assumption) ?_
      rotate_left 1
      · (intro wS hSw; (try dsimp only at hSw); go_simp; try with_reducible rfl)
      try simp only [Act.put, List.setIfInBounds_toArray, List.set_cons_zero, List.set_cons_succ]
      refine rg_take (i := 5) (d := some 11) (l := #[true, true, true, true, false, true, false, false, false]) (fuel := 4) (v := ?_) rfl (by kernel_rfl) (by kernel_rfl) (by kernel_rfl) (by kernel_rfl) (by kernel_rfl) (fun _ _ _ h => h) (by kernel_rfl) ?_ (by assumption) ?_
      rotate_left 1
      · (intro wS hSw; (try dsimp only at hSw); go_simp; try with_reducible rfl)
      try simp only [Act.put, List.setIfInBounds_toArray, List.set_cons_zero, List.set_cons_succ]
      refine rg_take (i := 6) (d := some 12) (l := #[true, true, true, true, false, true, true, false, false]) (fuel := 3) (v := ?_) rfl (by kernel_rfl) (by kernel_rfl) (by kernel_rfl) (by kernel_rfl) (by kernel_rfl) (fun _ _ _ h => h) (by kernel_rfl) ?_ (by assumption) ?_
      rotate_left 1
      · (intro wS hSw; (try dsimp only at hSw); go_simp; try with_reducible rfl)
      try simp only [Act.put, List.setIfInBounds_toArray, List.set_cons_zero, List.set_cons_succ]
      refine rg_next (i := 4) (l := #[true, true, true, true, true, true, true, false, false]) (fuel := 2) (by kernel_rfl) rfl (by kernel_rfl) (by kernel_rfl) (fun K hK => ?_)
      go_simp
      (go_at_call 43)
      refine (at_some (w := wr.drew) (g := g) (ps := fun i => some (ns i)) (ch := ch) (lo := lo) (de := de) (by exact HP.out) k hlt rfl).mono ?_
      rintro e w1 ⟨rfl, rfl⟩
      first | (refine hK.out _ _ ?_ (fun hHeld => ?_)) | (go_wp2_with fail; refine hK.out _ _ ?_ (fun hHeld => ?_))
      · (try dsimp only); exact ⟨c0, f0⟩
      clear hK K
      try simp only [Act.put, List.setIfInBounds_toArray, List.set_cons_zero, List.set_cons_succ]
      refine rg_take (i := 7) (d := some 13) (l := #[true, true, true, true, true, true, true, true, false]) (fuel := 1) (v := ?_) rfl (by kernel_rfl) (by kernel_rfl) (by kernel_rfl) (by kernel_rfl) (by kernel_rfl) (fun _ _ _ h => h) (by kernel_rfl) ?_ (by assumption) ?_
      rotate_left 1
      · (intro wS hSw; (try dsimp only at hSw); go_simp; try with_reducible rfl)
      try simp only [Act.put, List.setIfInBounds_toArray, List.set_cons_zero, List.set_cons_succ]
      refine rg_next (i := 8) (l := #[true, true, true, true, true, true, true, true, true]) (fuel := 0) (by kernel_rfl) rfl (by kernel_rfl) (by kernel_rfl) (fun K hK => ?_)
      go_simp
      skip
      first | (refine hK.out _ _ ?_ (fun hHeld => ?_)) | (go_wp2_with fail; refine hK.out _ _ ?_ (fun hHeld => ?_))
      · (try dsimp only); exact HG.out
      clear hK K
      try simp only [Act.put, List.setIfInBounds_toArray, List.set_cons_zero, List.set_cons_succ]
      refine wpAnyH_done (by kernel_rfl) ?_ _
      go_wp2_with fail
      go_roundw
      case rel => exact ⟨k + 1, by omega, by go_num, HQ.out, HKk.out.drew⟩
      case measure => simp [intOf]; omega
    · have i1 : ¬ (k : Int) < 6 := by omega
      have HP := Lib.hid hP
      clear hP hK
      go_wp2_with fail
      go_end0
      exact ⟨rfl, HP.out, HK.out⟩
theorem below_undrew {n : Nat} (h : Below n w.drew w') : Below n w w' := ⟨h.os, h.tape, h.output, h.size, h.block⟩
/-- The first k pointers. -/
def upK (ns : Nat → Nat) (k : Nat) (i : Nat) : Option Nat := if i < k then some (ns i) else none
def NewI (w : World) (g ch : Nat) (lo de : Int) (ns : Nat → Nat) (k : Nat) (wr : World) : Prop :=
  PB wr g (upK ns k) ch lo de ∧ (∀ i, i < k → CW wr (ns i) Cw.new ∧ w.heap.size ≤ ns i) ∧ (∀ i j, i < j → j < k → ns i < ns j) ∧ Kp [g] w wr
theorem NewI.step {ns : Nat → Nat} {k r : Nat} {wr w1 : World} (h : NewI w g ch lo de ns k wr) (hk : k < 6) (hg : g < w.heap.size) (hr : wr.heap.size ≤ r) (h1 : CW w1 r Cw.new) (b1 : Below wr.heap.size wr w1) :
    NewI w g ch lo de (fun i => if i = k then r else ns i) (k + 1) (w1.setCell ⟨g, k, none⟩ (.pointer (some ⟨r, 0, none⟩))) := by
  obtain ⟨hP, hC, hM, hK⟩ := h
  have sz := hK.size
  have hP1 : PB w1 g (upK ns k) ch lo de := Blk.below hP b1 (Blk.lt hP)
  have k1 : Kp [g] w1 (w1.setCell ⟨g, k, none⟩ (.pointer (some ⟨r, 0, none⟩))) := (Kp.refl _ _).setCell (.inl (by simp)) _
  refine ⟨?_, ?_, ?_, ?_⟩
  · have q1 := Blk.set_ hP1 k (.pointer (some ⟨r, 0, none⟩))
    rwa [pgC_set (qs := upK (fun i => if i = k then r else ns i) (k + 1)) (dh := ch) (mo := lo) (fe := de) k _ (fun j hj => by
      by_cases e : j = k
      · subst e; unfold pgV upK; rw [if_pos rfl, if_pos hk, if_pos (by omega)]; simp
      · rw [if_neg e]; unfold pgV upK
        by_cases h6 : j < 6
        · rw [if_pos h6, if_pos h6]
          by_cases hj2 : j < k
          · rw [if_pos hj2, if_pos (by omega)]; simp only [if_neg e]
          · rw [if_neg hj2, if_neg (by omega)]
        · rw [if_neg h6, if_neg h6])] at q1
  · intro i hi
    by_cases e : i = k
    · simp only [e, if_true]
      exact ⟨h1.kp k1 (by simp; omega), by omega⟩
    · simp only [e, if_false]
      obtain ⟨c, d⟩ := hC i (by omega)
      exact ⟨(c.keep b1 c.lt).kp k1 (by simp; omega), d⟩
  · intro i j hij hj
    by_cases e : j = k
    · subst e
      have := (hC i hij).1.lt
      simp only [if_true, if_neg (show ¬ i = j by omega)]
      omega
    · simp only [if_neg e, if_neg (show ¬ i = k by omega)]
      exact hM i j hij (by omega)
  · exact (hK.trans (Kp.of_below (L := []) b1) (by simp)).setCell (.inl (by simp)) _
theorem ready_new (h : PB w g (fun _ => none) ch lo de) : Calls Tryd.prog 31 #[.pointer (some ⟨g, 0, none⟩)] w fun e w' => e = .returned (.tuple #[]) ∧ ∃ ns, NewI w g ch lo de ns 6 w' := by
  have hlt0 : g < w.heap.size := Blk.lt h
  have HL := Lib.hid hlt0
  have H : Hid (NewI w g ch lo de (fun _ => 0) 0 w) := Lib.hid ⟨h, fun i hi => absurd hi (by omega), fun i j _ hj => absurd hj (by omega), Kp.refl _ _⟩
  clear h hlt0
  go_enter Tryd.func31, Tryd.ntmps31
  go_wp2_with fail
  go_loopw [3] (fun i wr => ∃ (k : Nat) (ns : Nat → Nat), k ≤ 6 ∧ i = .int .i64 k ∧ NewI w g ch lo de ns k wr) (fun i _ => 6 - (intOf i).toNat)
  case atStart => exact ⟨0, _, by omega, rfl, H.out⟩
  case round =>
    obtain ⟨k, ns, hk, rfl, hI⟩ := hrel
    by_cases hlt : k < 6
    · have i0 : (0 : Int) ≤ (k : Int) := by omega
      have i1 : (k : Int) < 6 := by omega
      have hn : upK ns k k = none := by unfold upK; rw [if_neg (by omega)]
      have c0 : wr.cell? ⟨g, k, none⟩ = some (.pointer none) := by rw [hI.1.ptr k hlt, hn]; rfl
      have f0 : wr.frozen? ⟨g, k, none⟩ = false := Blk.frozen hI.1 k
      have HI := Lib.hid hI
      have HN := Lib.hid hn
      clear hI hn H
      go_wp2_with fail
      refine rg_begin (S := fun w' => (∃ u, w'.cell? ⟨g, k, none⟩ = some u) ∧ w'.frozen? ⟨g, k, none⟩ = false) 9 #[false, false, false, false, false, false, false, false, false] (by kernel_rfl) (by kernel_rfl) (by kernel_rfl) ?_ (fun hHeld => ?_)
      · exact ⟨⟨_, c0⟩, f0⟩
      refine rg_take (i := 0) (d := some 6) (l := #[true, false, false, false, false, false, false, false, false]) (fuel := 8) (v := ?_) rfl (by kernel_rfl) (by kernel_rfl) (by kernel_rfl) (by kernel_rfl) (by kernel_rfl) (fun _ _ _ h => h) (by kernel_rfl) ?_ (by assumption) ?_
      rotate_left 1
      · (intro wS hSw; (try dsimp only at hSw); go_simp; try with_reducible rfl)
      try simp only [Act.put, List.setIfInBounds_toArray, List.set_cons_zero, List.set_cons_succ]
      refine rg_take (i := 1) (d := some 7) (l := #[true, true, false, false, false, false, false, false, false]) (fuel := 7) (v := ?_) rfl (by kernel_rfl) (by kernel_rfl) (by kernel_rfl) (by kernel_rfl) (by kernel_rfl) (fun _ _ _ h => h) (by kernel_rfl) ?_ (by assumption) ?_
      rotate_left 1
      · (intro wS hSw; (try dsimp only at hSw); go_simp; try with_reducible rfl)
      try simp only [Act.put, List.setIfInBounds_toArray, List.set_cons_zero, List.set_cons_succ]
      refine rg_take (i := 2) (d := some 8) (l := #[true, true, true, false, false, false, false, false, false]) (fuel := 6) (v := ?_) rfl (by kernel_rfl) (by kernel_rfl) (by kernel_rfl) (by kernel_rfl) (by kernel_rfl) (fun _ _ _ h => h) (by kernel_rfl) ?_ (by assumption) ?_
      rotate_left 1
      · (intro wS hSw; (try dsimp only at hSw); go_simp; try with_reducible rfl)
      try simp only [Act.put, List.setIfInBounds_toArray, List.set_cons_zero, List.set_cons_succ]
      refine rg_take (i := 3) (d := some 9) (l := #[true, true, true, true, false, false, false, false, false]) (fuel := 5) (v := ?_) rfl (by kernel_rfl) (by kernel_rfl) (by kernel_rfl) (by kernel_rfl) (by kernel_rfl) (fun _ _ _ h => h) (by kernel_rfl) ?_ (by assumption) ?_
      rotate_left 1
      · (intro wS hSw; (try dsimp only at hSw); go_simp; try with_reducible rfl)
      try simp only [Act.put, List.setIfInBounds_toArray, List.set_cons_zero, List.set_cons_succ]
      refine rg_take (i := 5) (d := some 11) (l := #[true, true, true, true, false, true, false, false, false]) (fuel := 4) (v := ?_) rfl (by kernel_rfl) (by kernel_rfl) (by kernel_rfl) (by kernel_rfl) (by kernel_rfl) (fun _ _ _ h => h) (by kernel_rfl) ?_ (by assumption) ?_
      rotate_left 1
      · (intro wS hSw; (try dsimp only at hSw); go_simp; try with_reducible rfl)
      try simp only [Act.put, List.setIfInBounds_toArray, List.set_cons_zero, List.set_cons_succ]
      refine rg_take (i := 6) (d := some 12) (l := #[true, true, true, true, false, true, true, false, false]) (fuel := 3) (v := ?_) rfl (by kernel_rfl) (by kernel_rfl) (by kernel_rfl) (by kernel_rfl) (by kernel_rfl) (fun _ _ _ h => h) (by kernel_rfl) ?_ (by assumption) ?_
      rotate_left 1
      · (intro wS hSw; (try dsimp only at hSw); go_simp; try with_reducible rfl)
      try simp only [Act.put, List.setIfInBounds_toArray, List.set_cons_zero, List.set_cons_succ]
      refine rg_next (i := 4) (l := #[true, true, true, true, true, true, true, false, false]) (fuel := 2) (by kernel_rfl) rfl (by kernel_rfl) (by kernel_rfl) (fun K hK => ?_)
      go_simp
      (go_at_call 43)
      refine (at_none (w := wr.drew) (g := g) (ps := upK ns k) (ch := ch) (lo := lo) (de := de) (by exact HI.out.1) k hlt HN.out).mono ?_
      rintro e w1 ⟨r, rfl, hr, h1, b0⟩
      have b1 : Below wr.heap.size wr w1 := below_undrew b0
      have HJ := Lib.hid (HI.out.step hlt HL.out hr h1 b1)
      have z0 := (b1.cell (p := ⟨g, k, none⟩) (by exact Blk.lt HI.out.1)).trans c0
      have z1 := Blk.frozen (Blk.below (w := wr) HI.out.1 b1 (Blk.lt HI.out.1)) k
      clear b0 b1 hr h1 c0 f0
      first | (refine hK.out _ _ ?_ (fun hHeld => ?_)) | (go_wp2_with fail; refine hK.out _ _ ?_ (fun hHeld => ?_))
      · (try dsimp only); exact ⟨⟨_, z0⟩, z1⟩
      clear hK K
      try simp only [Act.put, List.setIfInBounds_toArray, List.set_cons_zero, List.set_cons_succ]
      refine rg_take (i := 7) (d := some 13) (l := #[true, true, true, true, true, true, true, true, false]) (fuel := 1) (v := ?_) rfl (by kernel_rfl) (by kernel_rfl) (by kernel_rfl) (by kernel_rfl) (by kernel_rfl) (fun _ _ _ h => h) (by kernel_rfl) ?_ (by assumption) ?_
      rotate_left 1
      · (intro wS hSw; (try dsimp only at hSw); go_simp; try with_reducible rfl)
      try simp only [Act.put, List.setIfInBounds_toArray, List.set_cons_zero, List.set_cons_succ]
      obtain ⟨⟨u, hu⟩, hf⟩ := hHeld
      refine rg_next (i := 8) (l := #[true, true, true, true, true, true, true, true, true]) (fuel := 0) (by kernel_rfl) rfl (by kernel_rfl) (by kernel_rfl) (fun K hK => ?_)
      go_simp
      skip
      first | (refine hK.out _ _ ?_ (fun hHeld => ?_)) | (go_wp2_with fail; refine hK.out _ _ ?_ (fun hHeld => ?_))
      · (try dsimp only); exact ⟨⟨_, PB.ptr HJ.out.1 k hlt⟩, Blk.frozen HJ.out.1 k⟩
      clear hK K
      try simp only [Act.put, List.setIfInBounds_toArray, List.set_cons_zero, List.set_cons_succ]
      refine wpAnyH_done (by kernel_rfl) ?_ _
      go_wp2_with fail
      go_roundw
      case rel => exact ⟨k + 1, _, by omega, by go_num, HJ.out⟩
      case measure => simp [intOf]; omega
    · have i1 : ¬ (k : Int) < 6 := by omega
      obtain rfl : k = 6 := by omega
      have HI := Lib.hid hI
      clear hI
      go_wp2_with fail
      go_end0
      exact ⟨rfl, ns, HI.out⟩
end
end Go.Proofs.YtaamfcbpelbboaaDoor
namespace Go.Proofs.YtaamfcbpelbboaaDoor
open Go.RowKit
set_option linter.unusedVariables false
set_option linter.unusedSimpArgs false
set_option maxRecDepth 100000
/-- Six channels: theirs, which is chosen, both sides' loudness, the register of the depth. -/
structure Sg where
  xs : Nat → Cw
  ch : Nat
  lo : Int
  de : Int
def Sg.new : Sg := ⟨fun _ => Cw.new, 0, 0, 0⟩
/-- What it was told is a byte. -/
def Cw.tdk (x : Cw) : Prop := 0 ≤ x.td ∧ x.td ≤ 255
theorem new_td : Cw.new.tdk := ⟨by decide, by decide⟩
theorem Cw.wr_td {x : Cw} (h : x.tdk) (r : Int) {b : Int} (b0 : 0 ≤ b) (b1 : b ≤ 255) : (x.wr r b).tdk := by
  unfold Cw.wr Cw.take
  repeat' split
  all_goals first | exact h | (show 0 ≤ b % 32 ∧ b % 32 ≤ 255; omega)
def Sg.ok (s : Sg) : Prop := s.ch < 8 ∧ (0 ≤ s.lo ∧ s.lo ≤ 255) ∧ (0 ≤ s.de ∧ s.de ≤ 255) ∧ ∀ i, (s.xs i).tdk
def Sg.wr (s : Sg) (reg : Nat) (b : Int) : Sg :=
  if reg % 16 = 0 then { s with ch := (b % 8).toNat }
  else if reg % 16 = 1 then { s with lo := b }
  else if reg % 16 = 9 then { s with de := b }
  else if s.ch < 6 ∧ ((2 ≤ reg % 16 ∧ reg % 16 ≤ 6) ∨ (reg % 16 = 7 ∧ 4 ≤ s.ch)) then { s with xs := fun i => if i = s.ch then (s.xs i).wr (reg % 16 : Nat) b else s.xs i }
  else s
theorem Sg.wr_ok {s : Sg} (h : s.ok) (reg : Nat) {b : Int} (b0 : 0 ≤ b) (b1 : b ≤ 255) : (s.wr reg b).ok := by
  obtain ⟨h1, h2, h3, h4⟩ := h
  unfold Sg.wr
  repeat' split
  · exact ⟨by show (b % 8).toNat < 8; omega, h2, h3, h4⟩
  · exact ⟨h1, ⟨b0, b1⟩, h3, h4⟩
  · exact ⟨h1, h2, ⟨b0, b1⟩, h4⟩
  · refine ⟨h1, h2, h3, fun i => ?_⟩
    show (if i = s.ch then (s.xs i).wr (reg % 16 : Nat) b else s.xs i).tdk
    split
    · exact Cw.wr_td (h4 i) _ b0 b1
    · exact h4 i
  · exact ⟨h1, h2, h3, h4⟩
def PG (w : World) (g : Nat) (ns : Nat → Nat) (s : Sg) : Prop :=
  PB w g (fun i => some (ns i)) s.ch s.lo s.de ∧ (∀ i, i < 6 → CW w (ns i) (s.xs i)) ∧ (∀ i j, i < 6 → j < 6 → ¬ i = j → ¬ ns i = ns j) ∧ s.ok
def pgL (g : Nat) (ns : Nat → Nat) : List Nat := [g, ns 0, ns 1, ns 2, ns 3, ns 4, ns 5]
theorem pgL_in (g : Nat) (ns : Nat → Nat) (i : Nat) (h : i < 6) : ns i ∈ pgL g ns := by
  have : i = 0 ∨ i = 1 ∨ i = 2 ∨ i = 3 ∨ i = 4 ∨ i = 5 := by omega
  rcases this with rfl | rfl | rfl | rfl | rfl | rfl <;> simp [pgL]
theorem pgL_all (g : Nat) (ns : Nat → Nat) (x : Nat) (h : x ∈ pgL g ns) : x = g ∨ ∃ i, i < 6 ∧ x = ns i := by
  simp only [pgL, List.mem_cons, List.not_mem_nil, or_false] at h
  rcases h with h | h | h | h | h | h | h
  · exact .inl h
  · exact .inr ⟨0, by omega, h⟩
  · exact .inr ⟨1, by omega, h⟩
  · exact .inr ⟨2, by omega, h⟩
  · exact .inr ⟨3, by omega, h⟩
  · exact .inr ⟨4, by omega, h⟩
  · exact .inr ⟨5, by omega, h⟩
section
variable {w w' : World} {g : Nat} {ns : Nat → Nat} {s : Sg} {L : List Nat}
theorem PG.b (h : PG w g ns s) : PB w g (fun i => some (ns i)) s.ch s.lo s.de := h.1
theorem PG.ne (h : PG w g ns s) (i : Nat) (hi : i < 6) : ¬ g = ns i := Blk.ne_ h.1 (h.2.1 i hi).1 (by decide)
theorem PG.kp (h : PG w g ns s) (k : Kp L w w') (hg : g ∉ L) (hn : ∀ i, i < 6 → ns i ∉ L) : PG w' g ns s :=
  ⟨Blk.kp h.1 k hg, fun i hi => (h.2.1 i hi).kp k (hn i hi), h.2.2⟩
theorem PG.keep {n : Nat} (h : PG w g ns s) (k : Below n w w') (hg : g < n) (hn : ∀ i, i < 6 → ns i < n) : PG w' g ns s :=
  ⟨Blk.below h.1 k hg, fun i hi => (h.2.1 i hi).keep k (hn i hi), h.2.2⟩
theorem PG.below (h : PG w g ns s) (k : Below w.heap.size w w') : PG w' g ns s := h.keep k (Blk.lt h.1) fun i hi => (h.2.1 i hi).lt
theorem PG.kp0 (h : PG w g ns s) (k : Kp [] w w') : PG w' g ns s := h.kp k (by simp) (by simp)
def PNewR (s : Sg) (w : World) (e : Ending) (w' : World) : Prop := ∃ g ns, e = .returned (.pointer (some ⟨g, 0, none⟩)) ∧ w.heap.size ≤ g ∧ (∀ i, i < 6 → w.heap.size ≤ ns i) ∧ PG w' g ns s ∧ Below w.heap.size w w'
theorem pnew_any (w : World) : Calls Tryd.prog 18 #[] w (PNewR Sg.new w) := by
  go_enter Tryd.func18, Tryd.ntmps18
  go_wp2_with fail
  have hb : PB (w.alloc (.cells #[.pointer none, .pointer none, .pointer none, .pointer none, .pointer none, .pointer none, .int .i64 0, .int .u8 0, .int .u8 0] 66)) w.heap.size (fun _ => none) 0 0 0 := Blk.new w _ _
  have hB : Below w.heap.size w (w.alloc (.cells #[.pointer none, .pointer none, .pointer none, .pointer none, .pointer none, .pointer none, .int .i64 0, .int .u8 0, .int .u8 0] 66)) := (Below.refl _ _).alloc (Nat.le_refl _) _
  have HB := Lib.hid hB
  clear hB
  refine (ready_new hb).mono ?_
  rintro e w1 ⟨rfl, ns, q1, q2, q3, q4⟩
  have sz := HB.out.size
  have hup : PB w1 w.heap.size (fun i => some (ns i)) 0 0 0 := by
    have e : pgC (upK ns 6) 0 0 0 = pgC (fun i => some (ns i)) 0 0 0 := by
      apply Array.ext_getElem?
      intro j
      by_cases hj : j < 9
      · rw [pgC_at j hj, pgC_at j hj]
        unfold pgV upK
        by_cases h : j < 6
        · rw [if_pos h, if_pos h, if_pos h]
        · rw [if_neg h, if_neg h]
      · rw [Array.getElem?_eq_none (by rw [pgC_size]; omega), Array.getElem?_eq_none (by rw [pgC_size]; omega)]
    unfold PB at q1 ⊢
    rwa [e] at q1
  have hP : PG w1 w.heap.size ns Sg.new := ⟨hup, fun i hi => (q2 i hi).1, fun i j hi hj hne => by
    rcases Nat.lt_or_gt_of_ne hne with h | h
    · have := q3 i j h hj; omega
    · have := q3 j i h hi; omega, ⟨by decide, ⟨by decide, by decide⟩, ⟨by decide, by decide⟩, fun _ => new_td⟩⟩
  have HP := Lib.hid hP
  have HN : Hid (∀ i, i < 6 → w.heap.size ≤ ns i) := Lib.hid fun i hi => Nat.le_trans sz (q2 i hi).2
  have HB1 := Lib.hid (q4.onto HB.out sz (by simp))
  clear q1 q2 q3 q4 hup hP hb sz
  go_wp2_with fail
  go_ret
  exact ⟨_, ns, rfl, Nat.le_refl _, HN.out, HP.out, HB1.out⟩
theorem PG.ch6 (h : PG w g ns s) : w.cell? ⟨g, 6, none⟩ = some (.int .i64 s.ch) := h.1.cell 6 (by decide)
theorem PG.lo7 (h : PG w g ns s) : w.cell? ⟨g, 7, none⟩ = some (.int .u8 s.lo) := h.1.cell 7 (by decide)
theorem PG.de8 (h : PG w g ns s) : w.cell? ⟨g, 8, none⟩ = some (.int .u8 s.de) := h.1.cell 8 (by decide)
theorem hand_off (h : PG w g ns s) (hc : ¬ s.ch < 6) (r b : Int) : Calls Tryd.prog 33 #[.pointer (some ⟨g, 0, none⟩), .int .i64 r, .int .u8 b] w fun e w' => e = .returned (.tuple #[]) ∧ w = w' := by
  have c6 := h.ch6
  have i1 : ¬ (s.ch : Int) < 6 := by omega
  clear h
  go_enter Tryd.func33, Tryd.ntmps33
  go_wp2_with fail
  go_end0
  exact ⟨rfl, rfl⟩
theorem hand_on (h : PG w g ns s) (hc : s.ch < 6) (r b : Int) (b0 : 0 ≤ b) (b1 : b ≤ 255) : Calls Tryd.prog 33 #[.pointer (some ⟨g, 0, none⟩), .int .i64 r, .int .u8 b] w fun e w' =>
    e = .returned (.tuple #[]) ∧ PG w' g ns { s with xs := fun i => if i = s.ch then (s.xs i).wr r b else s.xs i } ∧ Kp (pgL g ns) w w' := by
  have c6 := h.ch6
  obtain ⟨c, hcc⟩ : ∃ c, s.ch = c := ⟨_, rfl⟩
  have H := Lib.hid h
  rw [hcc] at c6 hc
  have i0 : (0 : Int) ≤ (c : Int) := by omega
  have i1 : (c : Int) < 6 := by omega
  have HC := Lib.hid hcc
  clear h hcc
  go_enter Tryd.func33, Tryd.ntmps33
  go_wp2_with fail
  refine (ready_all H.out.1).mono ?_
  rintro e w1 ⟨rfl, hb, hk⟩
  have hP : PG w1 g ns s := ⟨hb, fun i hi => (H.out.2.1 i hi).kp hk (by have := H.out.ne i hi; simp; omega), H.out.2.2⟩
  have c61 : w1.cell? ⟨g, 6, none⟩ = some (.int .i64 c) := by rw [← HC.out]; exact hP.ch6
  have cc1 : w1.cell? ⟨g, c, none⟩ = some (.pointer (some ⟨ns c, 0, none⟩)) := hP.1.ptr c hc
  have HP := Lib.hid hP
  have HK := Lib.hid hk
  clear hb hk hP c6 H
  go_wp2_with fail
  refine rg_begin (S := fun w' => w'.cell? ⟨g, 6, none⟩ = some (.int .i64 c) ∧ w'.cell? ⟨g, c, none⟩ = some (.pointer (some ⟨ns c, 0, none⟩))) 12 #[false, false, false, false, false, false, false, false, false, false, false, false] (by kernel_rfl) (by kernel_rfl) (by kernel_rfl) ?_ (fun hHeld => ?_)
  · exact ⟨c61, cc1⟩
  refine rg_take (i := 0) (d := some 13) (l := #[true, false, false, false, false, false, false, false, false, false, false, false]) (fuel := 11) (v := ?_) rfl (by kernel_rfl) (by kernel_rfl) (by kernel_rfl) (by kernel_rfl) (by kernel_rfl) (fun _ _ _ h => h) (by kernel_rfl) ?_ (by assumption) ?_
  rotate_left 1
  · (intro wS hSw; (try dsimp only at hSw); go_simp; try with_reducible rfl)
  try simp only [Act.put, List.setIfInBounds_toArray, List.set_cons_zero, List.set_cons_succ]
  refine rg_take (i := 1) (d := some 14) (l := #[true, true, false, false, false, false, false, false, false, false, false, false]) (fuel := 10) (v := ?_) rfl (by kernel_rfl) (by kernel_rfl) (by kernel_rfl) (by kernel_rfl) (by kernel_rfl) (fun _ _ _ h => h) (by kernel_rfl) ?_ (by assumption) ?_
  rotate_left 1
  · (intro wS hSw; (try dsimp only at hSw); go_simp; try with_reducible rfl)
  try simp only [Act.put, List.setIfInBounds_toArray, List.set_cons_zero, List.set_cons_succ]
  refine rg_take (i := 2) (d := some 15) (l := #[true, true, true, false, false, false, false, false, false, false, false, false]) (fuel := 9) (v := ?_) rfl (by kernel_rfl) (by kernel_rfl) (by kernel_rfl) (by kernel_rfl) (by kernel_rfl) (fun _ _ _ h => h) (by kernel_rfl) ?_ (by assumption) ?_
  rotate_left 1
  · (intro wS hSw; (try dsimp only at hSw); go_simp; try with_reducible rfl)
  try simp only [Act.put, List.setIfInBounds_toArray, List.set_cons_zero, List.set_cons_succ]
  refine rg_take (i := 3) (d := some 16) (l := #[true, true, true, true, false, false, false, false, false, false, false, false]) (fuel := 8) (v := ?_) rfl (by kernel_rfl) (by kernel_rfl) (by kernel_rfl) (by kernel_rfl) (by kernel_rfl) (fun _ _ _ h => h) (by kernel_rfl) ?_ (by assumption) ?_
  rotate_left 1
  · (intro wS hSw; (try dsimp only at hSw); go_simp; try with_reducible rfl)
  try simp only [Act.put, List.setIfInBounds_toArray, List.set_cons_zero, List.set_cons_succ]
  refine rg_take (i := 4) (d := some 17) (l := #[true, true, true, true, true, false, false, false, false, false, false, false]) (fuel := 7) (v := ?_) rfl (by kernel_rfl) (by kernel_rfl) (by kernel_rfl) (by kernel_rfl) (by kernel_rfl) (fun _ _ _ h => h) (by kernel_rfl) ?_ (by assumption) ?_
  rotate_left 1
  · (intro wS hSw; (try dsimp only at hSw); go_simp; try with_reducible rfl)
  try simp only [Act.put, List.setIfInBounds_toArray, List.set_cons_zero, List.set_cons_succ]
  refine rg_take (i := 5) (d := some 18) (l := #[true, true, true, true, true, true, false, false, false, false, false, false]) (fuel := 6) (v := ?_) rfl (by kernel_rfl) (by kernel_rfl) (by kernel_rfl) (by kernel_rfl) (by kernel_rfl) (fun _ _ _ h => h) (by kernel_rfl) ?_ (by assumption) ?_
  rotate_left 1
  · (intro wS hSw; (try dsimp only at hSw); go_simp; try with_reducible rfl)
  try simp only [Act.put, List.setIfInBounds_toArray, List.set_cons_zero, List.set_cons_succ]
  refine rg_take (i := 6) (d := some 19) (l := #[true, true, true, true, true, true, true, false, false, false, false, false]) (fuel := 5) (v := ?_) rfl (by kernel_rfl) (by kernel_rfl) (by kernel_rfl) (by kernel_rfl) (by kernel_rfl) (fun _ _ _ h => h) (by kernel_rfl) ?_ (by assumption) ?_
  rotate_left 1
  · (intro wS hSw; (try dsimp only at hSw); go_simp; try with_reducible rfl)
  try simp only [Act.put, List.setIfInBounds_toArray, List.set_cons_zero, List.set_cons_succ]
  refine rg_take (i := 7) (d := some 20) (l := #[true, true, true, true, true, true, true, true, false, false, false, false]) (fuel := 4) (v := ?_) rfl (by kernel_rfl) (by kernel_rfl) (by kernel_rfl) (by kernel_rfl) (by kernel_rfl) (fun _ _ _ h => h) (by kernel_rfl) ?_ (by assumption) ?_
  rotate_left 1
  · (intro wS hSw; (try dsimp only at hSw); go_simp; try with_reducible rfl)
  try simp only [Act.put, List.setIfInBounds_toArray, List.set_cons_zero, List.set_cons_succ]
  refine rg_take (i := 8) (d := some 21) (l := #[true, true, true, true, true, true, true, true, true, false, false, false]) (fuel := 3) (v := ?_) rfl (by kernel_rfl) (by kernel_rfl) (by kernel_rfl) (by kernel_rfl) (by kernel_rfl) (fun _ _ _ h => h) (by kernel_rfl) ?_ (by assumption) ?_
  rotate_left 1
  · (intro wS hSw; (try dsimp only at hSw); go_simp; try with_reducible rfl)
  try simp only [Act.put, List.setIfInBounds_toArray, List.set_cons_zero, List.set_cons_succ]
  refine rg_take (i := 9) (d := some 22) (l := #[true, true, true, true, true, true, true, true, true, true, false, false]) (fuel := 2) (v := ?_) rfl (by kernel_rfl) (by kernel_rfl) (by kernel_rfl) (by kernel_rfl) (by kernel_rfl) (fun _ _ _ h => h) (by kernel_rfl) ?_ (by assumption) ?_
  rotate_left 1
  · (intro wS hSw; (try dsimp only at hSw); go_simp; try with_reducible rfl)
  try simp only [Act.put, List.setIfInBounds_toArray, List.set_cons_zero, List.set_cons_succ]
  refine rg_take (i := 10) (d := some 23) (l := #[true, true, true, true, true, true, true, true, true, true, true, false]) (fuel := 1) (v := ?_) rfl (by kernel_rfl) (by kernel_rfl) (by kernel_rfl) (by kernel_rfl) (by kernel_rfl) (fun _ _ _ h => h) (by kernel_rfl) ?_ (by assumption) ?_
  rotate_left 1
  · (intro wS hSw; (try dsimp only at hSw); go_simp; try with_reducible rfl)
  try simp only [Act.put, List.setIfInBounds_toArray, List.set_cons_zero, List.set_cons_succ]
  refine rg_next (i := 11) (l := #[true, true, true, true, true, true, true, true, true, true, true, true]) (fuel := 0) (by kernel_rfl) rfl (by kernel_rfl) (by kernel_rfl) (fun K hK => ?_)
  go_simp
  (go_at_call 45)
  refine (cwrite_any (w := w1.drew) (g := ns c) (x := s.xs c) (by exact HP.out.2.1 c hc) r b b0 b1).mono ?_
  rintro e w2 ⟨rfl, h2, k2⟩
  have hgc := HP.out.ne c hc
  have z0 := (k2.cell (p := ⟨g, 6, none⟩) (by exact Blk.lt HP.out.1) (by simp; omega)).trans c61
  have z1 := (k2.cell (p := ⟨g, c, none⟩) (by exact Blk.lt HP.out.1) (by simp; omega)).trans cc1
  have Z := Lib.hid (And.intro h2 k2)
  clear h2 k2
  first | (refine hK.out _ _ ?_ (fun hHeld => ?_)) | (go_wp2_with fail; refine hK.out _ _ ?_ (fun hHeld => ?_))
  · (try dsimp only); exact ⟨z0, z1⟩
  clear hK K
  try simp only [Act.put, List.setIfInBounds_toArray, List.set_cons_zero, List.set_cons_succ]
  refine wpAnyH_done (by kernel_rfl) ?_ _
  go_wp2_with fail
  go_end0
  obtain ⟨h2, k2⟩ := Z.out
  have k2' : Kp [ns c] w1 w2 := ⟨k2.os, k2.tape, k2.output, k2.size, k2.block⟩
  refine ⟨rfl, ⟨Blk.kp HP.out.1 k2' (by have := HP.out.ne c hc; simp; omega), fun i hi => ?_, HP.out.2.2.1, HP.out.2.2.2.1, HP.out.2.2.2.2.1, HP.out.2.2.2.2.2.1, fun i => ?_⟩, (HK.out.mono (by simp [pgL])).trans k2' (fun x hx => .inl (by simp at hx; subst hx; exact pgL_in g ns c hc))⟩
  · by_cases e : i = s.ch
    · have e2 : i = c := by rw [e]; exact HC.out
      subst e2
      show CW w2 (ns i) (if i = s.ch then (s.xs i).wr r b else s.xs i)
      rw [if_pos e]
      exact h2
    · show CW w2 (ns i) (if i = s.ch then (s.xs i).wr r b else s.xs i)
      rw [if_neg e]
      exact (HP.out.2.1 i hi).kp k2' (by have := HP.out.2.2.1 i c hi hc (by rw [← HC.out]; exact e); simp; omega)
  · show (if i = s.ch then (s.xs i).wr r b else s.xs i).tdk
    split
    · exact Cw.wr_td (HP.out.2.2.2.2.2.2 i) _ b0 b1
    · exact HP.out.2.2.2.2.2.2 i
end
end Go.Proofs.YtaamfcbpelbboaaDoor
