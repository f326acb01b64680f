/-
  Texts of these proofs, one behind the other: Rpg1, Rpg2.
-/
import Derived.Test.YtaamfcbpelbboaaDoorKM17
import Derived.Test.YtaamfcbpelbboaaDoorKM27
import Derived.Test.YtaamfcbpelbboaaDoorKM22
namespace Go.Proofs.YtaamfcbpelbboaaDoor
open Go.RowKit
set_option linter.unusedVariables false
set_option linter.unusedSimpArgs false
set_option maxRecDepth 100000
def RB (w : World) (r : Nat) (ps : Nat → Option Nat) (ch : Nat) (lo de : Int) : Prop := Blk w r 48 (pgC ps ch lo de)
section
variable {w w' : World} {r : Nat} {ps : Nat → Option Nat} {ch : Nat} {lo de : Int} {L : List Nat}
theorem RB.cell (h : RB w r ps ch lo de) (i : Nat) (hi : i < 9) : w.cell? ⟨r, i, none⟩ = some (pgV ps ch lo de i) := by
  have h' : Blk w r 48 (pgC ps ch lo de) := h
  rw [h'.cell, pgC_at i hi]
theorem RB.ptr (h : RB w r ps ch lo de) (i : Nat) (hi : i < 6) : w.cell? ⟨r, i, none⟩ = some (.pointer ((ps i).map fun n => ⟨n, 0, none⟩)) := by
  rw [h.cell i (by omega)]; unfold pgV; rw [if_pos hi]
def RNewI (w : World) (r ch : Nat) (lo de : Int) (rs ms : Nat → Nat) (k : Nat) (wr : World) : Prop :=
  RB wr r (upK rs k) ch lo de ∧ (∀ i, i < k → RCW wr (rs i) (ms i) Cw.new ∧ r < rs i ∧ r < ms i) ∧ (∀ i j, i < j → j < k → rs i < rs j ∧ ms i < ms j) ∧ Below r w wr
theorem rcw_lt {w : World} {a b : Nat} {x : Cw} (h : RCW w a b x) : a < w.heap.size ∧ b < w.heap.size := ⟨h.1.lt, h.2.1.1.lt⟩
theorem RNewI.step {rs ms : Nat → Nat} {k a b : Nat} {wr w1 : World} (h : RNewI w r ch lo de rs ms k wr) (hk : k < 6) (ha : wr.heap.size ≤ a) (hb : wr.heap.size ≤ b) (h1 : RCW w1 a b Cw.new) (b1 : Below wr.heap.size wr w1) :
    RNewI w r ch lo de (fun i => if i = k then a else rs i) (fun i => if i = k then b else ms i) (k + 1) (w1.setCell ⟨r, k, none⟩ (.pointer (some ⟨a, 0, none⟩))) := by
  obtain ⟨hP, hC, hM, hB⟩ := h
  have hrl : r < wr.heap.size := Blk.lt hP
  have hP1 : RB w1 r (upK rs k) ch lo de := Blk.below hP b1 hrl
  have k1 : Kp [r] w1 (w1.setCell ⟨r, k, none⟩ (.pointer (some ⟨a, 0, none⟩))) := (Kp.refl _ _).setCell (.inl (by simp)) _
  refine ⟨?_, ?_, ?_, ?_⟩
  · have q1 := Blk.set_ hP1 k (.pointer (some ⟨a, 0, none⟩))
    rwa [pgC_set (qs := upK (fun i => if i = k then a else rs i) (k + 1)) (dh := ch) (mo := lo) (fe := de) k _ (fun j hj => by
      by_cases e : j = k
      · subst e; unfold pgV upK; rw [if_pos rfl, if_pos hk, if_pos (by omega)]; simp
      · rw [if_neg e]; unfold pgV upK
        by_cases h6 : j < 6
        · rw [if_pos h6, if_pos h6]
          by_cases hj2 : j < k
          · rw [if_pos hj2, if_pos (by omega)]; simp only [if_neg e]
          · rw [if_neg hj2, if_neg (by omega)]
        · rw [if_neg h6, if_neg h6])] at q1
  · intro i hi
    by_cases e : i = k
    · simp only [e, if_true]
      exact ⟨h1.kp k1 (by simp; omega), by omega, by omega⟩
    · simp only [e, if_false]
      obtain ⟨c, d1, d2⟩ := hC i (by omega)
      exact ⟨(c.keep b1).kp k1 (by simp; omega), d1, d2⟩
  · intro i j hij hj
    by_cases e : j = k
    · subst e
      have := rcw_lt (hC i hij).1
      simp only [if_true, if_neg (show ¬ i = j by omega)]
      omega
    · simp only [if_neg e, if_neg (show ¬ i = k by omega)]
      exact hM i j hij (by omega)
  · exact (Below.trans hB (b1.mono (Nat.le_of_lt hrl))).setCell (p := ⟨r, k, none⟩) (Nat.le_refl _) _
def RG (w : World) (r : Nat) (rs ms : Nat → Nat) (s : Sg) : Prop :=
  RB w r (fun i => some (rs i)) s.ch s.lo s.de ∧ (∀ i, i < 6 → RCW w (rs i) (ms i) (s.xs i)) ∧ (∀ i j, i < 6 → j < 6 → ¬ i = j → ¬ rs i = rs j ∧ ¬ ms i = ms j) ∧ s.ok
def RNewPR (s : Sg) (w : World) (e : Ending) (w' : World) : Prop := ∃ r rs ms, e = .returned (.pointer (some ⟨r, 0, none⟩)) ∧ w.heap.size ≤ r ∧ (∀ i, i < 6 → w.heap.size ≤ rs i ∧ w.heap.size ≤ ms i) ∧ RG w' r rs ms s ∧ Below w.heap.size w w'
set_option maxHeartbeats 2000000 in
theorem rpnew_any (w : World) : Calls Tryd.prog 19 #[] w (RNewPR Sg.new w) := by
  go_enter Tryd.func19, Tryd.ntmps19
  go_wp2_with fail
  have hb : RB (w.alloc (.cells #[.pointer none, .pointer none, .pointer none, .pointer none, .pointer none, .pointer none, .int .i64 0, .int .u8 0, .int .u8 0] 48)) w.heap.size (fun _ => none) 0 0 0 := Blk.new w _ _
  have hB : Below w.heap.size w (w.alloc (.cells #[.pointer none, .pointer none, .pointer none, .pointer none, .pointer none, .pointer none, .int .i64 0, .int .u8 0, .int .u8 0] 48)) := (Below.refl _ _).alloc (Nat.le_refl _) _
  have H : Hid (RNewI w w.heap.size 0 0 0 (fun _ => 0) (fun _ => 0) 0 _) := Lib.hid ⟨hb, fun i hi => absurd hi (by omega), fun i j _ hj => absurd hj (by omega), hB⟩
  clear hb hB
  generalize World.alloc _ _ = wa at *
  obtain ⟨r, hr⟩ : ∃ r, w.heap.size = r := ⟨_, rfl⟩
  rw [hr] at H
  simp only [hr]
  have HR := Lib.hid hr
  clear hr
  go_loopw [2] (fun i wr => ∃ (k : Nat) (rs ms : Nat → Nat), k ≤ 6 ∧ i = .int .i64 k ∧ RNewI w r 0 0 0 rs ms k wr) (fun i _ => 6 - (intOf i).toNat)
  case atStart => exact ⟨0, _, _, by omega, rfl, H.out⟩
  case round =>
    obtain ⟨k, rs, ms, hk, rfl, hI⟩ := hrel
    by_cases hlt : k < 6
    · have i0 : (0 : Int) ≤ (k : Int) := by omega
      have i1 : (k : Int) < 6 := by omega
      have hn : upK rs k k = none := by unfold upK; rw [if_neg (by omega)]
      have c0 : wr.cell? ⟨r, k, none⟩ = some (.pointer none) := by rw [hI.1.ptr k hlt, hn]; rfl
      have f0 : wr.frozen? ⟨r, k, none⟩ = false := Blk.frozen hI.1 k
      have HI := Lib.hid hI
      clear hI hn H
      go_wp2_with fail
      refine rg_begin (S := fun w' => (∃ u, w'.cell? ⟨r, k, none⟩ = some u) ∧ w'.frozen? ⟨r, k, none⟩ = false) 7 #[false, false, false, false, false, false, false] (by kernel_rfl) (by kernel_rfl) (by kernel_rfl) ?_ (fun hHeld => ?_)
      · exact ⟨⟨_, c0⟩, f0⟩
      refine rg_take (i := 0) (d := some 9) (l := #[true, false, false, false, false, false, false]) (fuel := 6) (v := ?_) rfl (by kernel_rfl) (by kernel_rfl) (by kernel_rfl) (by kernel_rfl) (by kernel_rfl) (fun _ _ _ h => h) (by kernel_rfl) ?_ (by assumption) ?_
      rotate_left 1
      · (intro wS hSw; (try dsimp only at hSw); go_simp; try with_reducible rfl)
      try simp only [Act.put, List.setIfInBounds_toArray, List.set_cons_zero, List.set_cons_succ]
      refine rg_take (i := 1) (d := some 10) (l := #[true, true, false, false, false, false, false]) (fuel := 5) (v := ?_) rfl (by kernel_rfl) (by kernel_rfl) (by kernel_rfl) (by kernel_rfl) (by kernel_rfl) (fun _ _ _ h => h) (by kernel_rfl) ?_ (by assumption) ?_
      rotate_left 1
      · (intro wS hSw; (try dsimp only at hSw); go_simp; try with_reducible rfl)
      try simp only [Act.put, List.setIfInBounds_toArray, List.set_cons_zero, List.set_cons_succ]
      refine rg_take (i := 3) (d := some 12) (l := #[true, true, false, true, false, false, false]) (fuel := 4) (v := ?_) rfl (by kernel_rfl) (by kernel_rfl) (by kernel_rfl) (by kernel_rfl) (by kernel_rfl) (fun _ _ _ h => h) (by kernel_rfl) ?_ (by assumption) ?_
      rotate_left 1
      · (intro wS hSw; (try dsimp only at hSw); go_simp; try with_reducible rfl)
      try simp only [Act.put, List.setIfInBounds_toArray, List.set_cons_zero, List.set_cons_succ]
      refine rg_take (i := 4) (d := some 13) (l := #[true, true, false, true, true, false, false]) (fuel := 3) (v := ?_) rfl (by kernel_rfl) (by kernel_rfl) (by kernel_rfl) (by kernel_rfl) (by kernel_rfl) (fun _ _ _ h => h) (by kernel_rfl) ?_ (by assumption) ?_
      rotate_left 1
      · (intro wS hSw; (try dsimp only at hSw); go_simp; try with_reducible rfl)
      try simp only [Act.put, List.setIfInBounds_toArray, List.set_cons_zero, List.set_cons_succ]
      refine rg_next (i := 2) (l := #[true, true, true, true, true, false, false]) (fuel := 2) (by kernel_rfl) rfl (by kernel_rfl) (by kernel_rfl) (fun K hK => ?_)
      go_simp
      (go_at_call 32)
      refine (rcnew_any wr.drew).mono ?_
      rintro e w1 ⟨a, b, rfl, ⟨ha, hb⟩, h1, b0⟩
      have b1 : Below wr.heap.size wr w1 := below_undrew b0
      have HJ := Lib.hid (HI.out.step hlt ha hb h1 b1)
      have z0 := (b1.cell (p := ⟨r, k, none⟩) (by exact Blk.lt HI.out.1)).trans c0
      have z1 := Blk.frozen (Blk.below (w := wr) HI.out.1 b1 (Blk.lt HI.out.1)) k
      clear b0 b1 ha hb h1 c0 f0
      first | (refine hK.out _ _ ?_ (fun hHeld => ?_)) | (go_wp2_with fail; refine hK.out _ _ ?_ (fun hHeld => ?_))
      · (try dsimp only); exact ⟨⟨_, z0⟩, z1⟩
      clear hK K
      try simp only [Act.put, List.setIfInBounds_toArray, List.set_cons_zero, List.set_cons_succ]
      refine rg_take (i := 5) (d := some 14) (l := #[true, true, true, true, true, true, false]) (fuel := 1) (v := ?_) rfl (by kernel_rfl) (by kernel_rfl) (by kernel_rfl) (by kernel_rfl) (by kernel_rfl) (fun _ _ _ h => h) (by kernel_rfl) ?_ (by assumption) ?_
      rotate_left 1
      · (intro wS hSw; (try dsimp only at hSw); go_simp; try with_reducible rfl)
      try simp only [Act.put, List.setIfInBounds_toArray, List.set_cons_zero, List.set_cons_succ]
      obtain ⟨⟨u, hu⟩, hf⟩ := hHeld
      refine rg_next (i := 6) (l := #[true, true, true, true, true, true, true]) (fuel := 0) (by kernel_rfl) rfl (by kernel_rfl) (by kernel_rfl) (fun K hK => ?_)
      go_simp
      skip
      first | (refine hK.out _ _ ?_ (fun hHeld => ?_)) | (go_wp2_with fail; refine hK.out _ _ ?_ (fun hHeld => ?_))
      · (try dsimp only); exact ⟨⟨_, RB.ptr HJ.out.1 k hlt⟩, Blk.frozen HJ.out.1 k⟩
      clear hK K
      try simp only [Act.put, List.setIfInBounds_toArray, List.set_cons_zero, List.set_cons_succ]
      refine wpAnyH_done (by kernel_rfl) ?_ _
      go_wp2_with fail
      go_roundw
      case rel => exact ⟨k + 1, _, _, by omega, by go_num, HJ.out⟩
      case measure => simp [intOf]; omega
    · have i1 : ¬ (k : Int) < 6 := by omega
      obtain rfl : k = 6 := by omega
      have HI := Lib.hid hI
      clear hI
      go_wp2_with fail
      go_ret
      obtain ⟨q1, q2, q3, q4⟩ := HI.out
      refine ⟨r, rs, ms, rfl, Nat.le_of_eq HR.out, fun i hi => ?_, ⟨?_, fun i hi => (q2 i hi).1, fun i j hi hj hne => ?_, ⟨by decide, ⟨by decide, by decide⟩, ⟨by decide, by decide⟩, fun _ => new_td⟩⟩, by rw [HR.out]; exact q4⟩
      · have := q2 i hi; rw [HR.out]; omega
      · have e : pgC (upK rs 6) 0 0 0 = pgC (fun i => some (rs i)) 0 0 0 := by
          apply Array.ext_getElem?
          intro j
          by_cases hj : j < 9
          · rw [pgC_at j hj, pgC_at j hj]
            unfold pgV upK
            by_cases h : j < 6
            · rw [if_pos h, if_pos h, if_pos h]
            · rw [if_neg h, if_neg h]
          · rw [Array.getElem?_eq_none (by rw [pgC_size]; omega), Array.getElem?_eq_none (by rw [pgC_size]; omega)]
        unfold RB at q1 ⊢
        rw [e] at q1
        exact q1
      · rcases Nat.lt_or_gt_of_ne hne with h | h
        · have := q3 i j h hj; omega
        · have := q3 j i h hi; omega
end
end Go.Proofs.YtaamfcbpelbboaaDoor
namespace Go.Proofs.YtaamfcbpelbboaaDoor
open Go.RowKit
set_option linter.unusedVariables false
set_option linter.unusedSimpArgs false
set_option maxRecDepth 100000
def rgL (r : Nat) (rs ms : Nat → Nat) : List Nat := r :: ((List.range 6).map rs ++ (List.range 6).map ms)
theorem rgL_all (r : Nat) (rs ms : Nat → Nat) (x : Nat) (h : x ∈ rgL r rs ms) : x = r ∨ ∃ i, i < 6 ∧ (x = rs i ∨ x = ms i) := by
  simp only [rgL, List.mem_cons, List.mem_append, List.mem_map, List.mem_range] at h
  rcases h with h | ⟨i, hi, e⟩ | ⟨i, hi, e⟩
  · exact .inl h
  · exact .inr ⟨i, hi, .inl e.symm⟩
  · exact .inr ⟨i, hi, .inr e.symm⟩
theorem rgL_in (r : Nat) (rs ms : Nat → Nat) (i : Nat) (h : i < 6) : rs i ∈ rgL r rs ms ∧ ms i ∈ rgL r rs ms := by
  constructor
  · exact List.mem_cons_of_mem _ (List.mem_append_left _ (List.mem_map.2 ⟨i, List.mem_range.2 h, rfl⟩))
  · exact List.mem_cons_of_mem _ (List.mem_append_right _ (List.mem_map.2 ⟨i, List.mem_range.2 h, rfl⟩))
section
variable {w w' : World} {r : Nat} {rs ms : Nat → Nat} {s : Sg} {L : List Nat}
theorem RG.ne (h : RG w r rs ms s) (i : Nat) (hi : i < 6) : ¬ r = rs i ∧ ¬ r = ms i := ⟨Blk.ne_ h.1 (h.2.1 i hi).1 (by decide), Blk.ne_ h.1 (h.2.1 i hi).2.1.1 (by decide)⟩
theorem RG.ne2 (h : RG w r rs ms s) (i j : Nat) (hi : i < 6) (hj : j < 6) : ¬ rs i = ms j := Blk.ne_ (h.2.1 i hi).1 (h.2.1 j hj).2.1.1 (by decide)
theorem RG.kp (h : RG w r rs ms s) (k : Kp L w w') (hr : r ∉ L) (hn : ∀ i, i < 6 → rs i ∉ L ∧ ms i ∉ L) : RG w' r rs ms s :=
  ⟨Blk.kp h.1 k hr, fun i hi => (h.2.1 i hi).kp k (hn i hi), h.2.2⟩
theorem RG.below (h : RG w r rs ms s) (k : Below w.heap.size w w') : RG w' r rs ms s := h.kp (Kp.of_below (L := []) k) (by simp) (by simp)
theorem RG.ch6 (h : RG w r rs ms s) : w.cell? ⟨r, 6, none⟩ = some (.int .i64 s.ch) := h.1.cell 6 (by decide)
theorem RG.lo7 (h : RG w r rs ms s) : w.cell? ⟨r, 7, none⟩ = some (.int .u8 s.lo) := h.1.cell 7 (by decide)
theorem RG.de8 (h : RG w r rs ms s) : w.cell? ⟨r, 8, none⟩ = some (.int .u8 s.de) := h.1.cell 8 (by decide)
theorem RG.set (h : RG w r rs ms s) (t : Sg) (ht : t.ok) (hx : t.xs = s.xs) (i : Nat) (v : Value) (e : ∀ j, j < 9 → pgV (fun i => some (rs i)) t.ch t.lo t.de j = if j = i then v else pgV (fun i => some (rs i)) s.ch s.lo s.de j) :
    RG (w.setCell ⟨r, i, none⟩ v) r rs ms t ∧ Kp (rgL r rs ms) w (w.setCell ⟨r, i, none⟩ v) := by
  have k : Kp [r] w (w.setCell ⟨r, i, none⟩ v) := (Kp.refl _ _).setCell (.inl (by simp)) _
  refine ⟨⟨?_, fun j hj => ?_, h.2.2.1, ht⟩, k.mono (by intro x hx; simp at hx; rw [hx]; exact List.mem_cons_self ..)⟩
  · have q := Blk.set_ h.1 i v
    rwa [pgC_set i v e] at q
  · rw [hx]; exact (h.2.1 j hj).kp k (by have := h.ne j hj; simp; omega)
def RWrR (r : Nat) (rs ms : Nat → Nat) (s : Sg) (w : World) (e : Ending) (w' : World) : Prop := e = .returned (.tuple #[]) ∧ RG w' r rs ms s ∧ Kp (rgL r rs ms) w w'
theorem RG.wrote (h : RG w r rs ms s) {c : Nat} (hc : c < 6) (hcc : s.ch = c) {y : Cw} (hy : RCW w' (rs c) (ms c) y) (ht : y.tdk) (k : Kp [rs c, ms c] w w') :
    RG w' r rs ms { s with xs := fun i => if i = s.ch then y else s.xs i } ∧ Kp (rgL r rs ms) w w' := by
  have hr := h.ne c hc
  refine ⟨⟨Blk.kp h.1 k (by simp; omega), fun i hi => ?_, h.2.2.1, h.2.2.2.1, h.2.2.2.2.1, h.2.2.2.2.2.1, fun i => ?_⟩, k.mono (fun x hx => by
    simp at hx
    rcases hx with rfl | rfl
    · exact (rgL_in r rs ms c hc).1
    · exact (rgL_in r rs ms c hc).2)⟩
  · show RCW w' (rs i) (ms i) (if i = s.ch then y else s.xs i)
    by_cases e : i = s.ch
    · rw [if_pos e]
      have e2 : i = c := by rw [e]; exact hcc
      subst e2; exact hy
    · rw [if_neg e]
      have hd := h.2.2.1 i c hi hc (by rw [← hcc]; exact e)
      have h1 := h.ne2 i c hi hc
      have h2 := h.ne2 c i hc hi
      exact (h.2.1 i hi).kp k (by simp; omega)
  · show (if i = s.ch then y else s.xs i).tdk
    split
    · exact ht
    · exact h.2.2.2.2.2.2 i
theorem xs_eq {s : Sg} {c : Nat} (h : s.ch = c) (q b : Int) : ({ s with xs := fun i => if i = s.ch then (s.xs i).wr q b else s.xs i } : Sg) = { s with xs := fun i => if i = s.ch then (s.xs c).wr q b else s.xs i } := by
  congr 1
  funext i
  by_cases e : i = s.ch
  · rw [if_pos e, if_pos e, e, h]
  · rw [if_neg e, if_neg e]
set_option maxHeartbeats 4000000 in
theorem rpwrite_any (h : RG w r rs ms s) (reg : Nat) (hr : reg < 256) (b : Int) (b0 : 0 ≤ b) (b1 : b ≤ 255) : Calls Tryd.prog 21 #[.pointer (some ⟨r, 0, none⟩), .int .i64 reg, .int .u8 b] w (RWrR r rs ms (s.wr reg b) w) := by
  have hok := Sg.wr_ok h.2.2.2 reg b0 b1
  unfold Sg.wr at hok ⊢
  obtain ⟨q, hqq⟩ : ∃ q, reg % 16 = q := ⟨_, rfl⟩
  have hq16 : q < 16 := by omega
  have ha : (reg : Int) % 16 = (q : Int) := by omega
  have ha2 : ((q : Int) + 16) % 16 = (q : Int) := by omega
  rw [hqq] at hok ⊢
  have R0 : (0 : Int) ≤ (q : Int) := by omega
  have R1 : (q : Int) < 16 := by omega
  have c6 := h.ch6
  have f6 := Blk.frozen h.1 6
  have f7 := Blk.frozen h.1 7
  have f8 := Blk.frozen h.1 8
  have c7 := h.lo7
  have c8 := h.de8
  have H := Lib.hid h
  have HOK := Lib.hid hok
  have hi : (reg : Int) ≤ 255 := by omega
  have hi0 : (0 : Int) ≤ (reg : Int) := by omega
  clear hok h hqq hr
  by_cases h0 : q = 0
  · subst h0
    have HX := Lib.hid (RG.set H.out { s with ch := (b % 8).toNat } (by have := HOK.out; simpa using this) rfl 6 (.int .i64 (b % 8)) (fun j hj => by
      unfold pgV
      by_cases e : j = 6
      · subst e; simp; omega
      · rw [if_neg e, if_neg e, if_neg e]))
    rw [if_pos rfl]
    go_enter Tryd.func21, Tryd.ntmps21
    go_wp2_with fail
    go_end0
    exact ⟨rfl, HX.out.1, HX.out.2⟩
  have n0 : ((q : Int) == 0) = false := neqB (by omega)
  by_cases h1 : q = 1
  · subst h1
    have HX := Lib.hid (RG.set H.out { s with lo := b } (by have := HOK.out; simpa using this) rfl 7 (.int .u8 b) (fun j hj => by
      unfold pgV
      by_cases e : j = 7
      · subst e; simp
      · rw [if_neg e, if_neg e, if_neg e]))
    rw [if_neg h0, if_pos rfl]
    go_enter Tryd.func21, Tryd.ntmps21
    go_wp2_with fail
    go_end0
    exact ⟨rfl, HX.out.1, HX.out.2⟩
  have n1 : ((q : Int) == 1) = false := neqB (by omega)
  by_cases h9 : q = 9
  · subst h9
    have HX := Lib.hid (RG.set H.out { s with de := b } (by have := HOK.out; simpa using this) rfl 8 (.int .u8 b) (fun j hj => by
      unfold pgV
      by_cases e : j = 8
      · subst e; simp
      · rw [if_neg e]
        by_cases e6 : j < 6
        · rw [if_pos e6, if_pos e6]
        · by_cases e7 : j = 6
          · rw [if_neg e6, if_neg e6, if_pos e7, if_pos e7]
          · have e8 : j = 7 := by omega
            rw [if_neg e6, if_neg e6, if_neg e7, if_neg e7, if_pos e8, if_pos e8]))
    rw [if_neg h0, if_neg h1, if_pos rfl]
    go_enter Tryd.func21, Tryd.ntmps21
    go_wp2_with fail
    go_end0
    exact ⟨rfl, HX.out.1, HX.out.2⟩
  have n9 : ((q : Int) == 9) = false := neqB (by omega)
  rw [if_neg h0, if_neg h1, if_neg h9]
  clear HOK f6 f7 f8 c7 c8
  have hch := H.out.2.2.2.1
  obtain ⟨c, hcc⟩ : ∃ c, s.ch = c := ⟨_, rfl⟩
  have HC := Lib.hid hcc
  rw [hcc] at c6 hch
  by_cases h2 : 2 ≤ q ∧ q ≤ 6
  · have j1 : (2 : Int) ≤ q := by omega
    have j2 : (q : Int) ≤ 6 := by omega
    have n7 : ((q : Int) == 7) = false := neqB (by omega)
    by_cases hc : c < 6
    · rw [if_pos ⟨by omega, .inl h2⟩]
      have i0 : (0 : Int) ≤ (c : Int) := by omega
      have i1 : (c : Int) < 6 := by omega
      have cc : w.cell? ⟨r, c, none⟩ = some (.pointer (some ⟨rs c, 0, none⟩)) := H.out.1.ptr c hc
      clear hcc h2 hch h0 h1 h9
      go_enter Tryd.func21, Tryd.ntmps21
      go_wp2_with fail
      refine rg_begin (S := fun w' => w'.cell? ⟨r, 6, none⟩ = some (.int .i64 c) ∧ w'.cell? ⟨r, c, none⟩ = some (.pointer (some ⟨rs c, 0, none⟩))) 12 #[false, false, false, false, false, false, false, false, false, false, false, false] (by kernel_rfl) (by kernel_rfl) (by kernel_rfl) ?_ (fun hHeld => ?_)
      · exact ⟨c6, cc⟩
      refine rg_take (i := 0) (d := some 61) (l := #[true, false, false, false, false, false, false, false, false, false, false, false]) (fuel := 11) (v := ?_) rfl (by kernel_rfl) (by kernel_rfl) (by kernel_rfl) (by kernel_rfl) (by kernel_rfl) (fun _ _ _ h => h) (by kernel_rfl) ?_ (by assumption) ?_
      rotate_left 1
      · (intro wS hSw; (try dsimp only at hSw); go_simp; try with_reducible rfl)
      try simp only [Act.put, List.setIfInBounds_toArray, List.set_cons_zero, List.set_cons_succ]
      refine rg_take (i := 1) (d := some 62) (l := #[true, true, false, false, false, false, false, false, false, false, false, false]) (fuel := 10) (v := ?_) rfl (by kernel_rfl) (by kernel_rfl) (by kernel_rfl) (by kernel_rfl) (by kernel_rfl) (fun _ _ _ h => h) (by kernel_rfl) ?_ (by assumption) ?_
      rotate_left 1
      · (intro wS hSw; (try dsimp only at hSw); go_simp; try with_reducible rfl)
      try simp only [Act.put, List.setIfInBounds_toArray, List.set_cons_zero, List.set_cons_succ]
      refine rg_take (i := 2) (d := some 63) (l := #[true, true, true, false, false, false, false, false, false, false, false, false]) (fuel := 9) (v := ?_) rfl (by kernel_rfl) (by kernel_rfl) (by kernel_rfl) (by kernel_rfl) (by kernel_rfl) (fun _ _ _ h => h) (by kernel_rfl) ?_ (by assumption) ?_
      rotate_left 1
      · (intro wS hSw; (try dsimp only at hSw); go_simp; try with_reducible rfl)
      try simp only [Act.put, List.setIfInBounds_toArray, List.set_cons_zero, List.set_cons_succ]
      refine rg_take (i := 3) (d := some 64) (l := #[true, true, true, true, false, false, false, false, false, false, false, false]) (fuel := 8) (v := ?_) rfl (by kernel_rfl) (by kernel_rfl) (by kernel_rfl) (by kernel_rfl) (by kernel_rfl) (fun _ _ _ h => h) (by kernel_rfl) ?_ (by assumption) ?_
      rotate_left 1
      · (intro wS hSw; (try dsimp only at hSw); go_simp; try with_reducible rfl)
      try simp only [Act.put, List.setIfInBounds_toArray, List.set_cons_zero, List.set_cons_succ]
      refine rg_take (i := 4) (d := some 65) (l := #[true, true, true, true, true, false, false, false, false, false, false, false]) (fuel := 7) (v := ?_) rfl (by kernel_rfl) (by kernel_rfl) (by kernel_rfl) (by kernel_rfl) (by kernel_rfl) (fun _ _ _ h => h) (by kernel_rfl) ?_ (by assumption) ?_
      rotate_left 1
      · (intro wS hSw; (try dsimp only at hSw); go_simp; try with_reducible rfl)
      try simp only [Act.put, List.setIfInBounds_toArray, List.set_cons_zero, List.set_cons_succ]
      refine rg_take (i := 5) (d := some 66) (l := #[true, true, true, true, true, true, false, false, false, false, false, false]) (fuel := 6) (v := ?_) rfl (by kernel_rfl) (by kernel_rfl) (by kernel_rfl) (by kernel_rfl) (by kernel_rfl) (fun _ _ _ h => h) (by kernel_rfl) ?_ (by assumption) ?_
      rotate_left 1
      · (intro wS hSw; (try dsimp only at hSw); go_simp; try with_reducible rfl)
      try simp only [Act.put, List.setIfInBounds_toArray, List.set_cons_zero, List.set_cons_succ]
      refine rg_take (i := 6) (d := some 67) (l := #[true, true, true, true, true, true, true, false, false, false, false, false]) (fuel := 5) (v := ?_) rfl (by kernel_rfl) (by kernel_rfl) (by kernel_rfl) (by kernel_rfl) (by kernel_rfl) (fun _ _ _ h => h) (by kernel_rfl) ?_ (by assumption) ?_
      rotate_left 1
      · (intro wS hSw; (try dsimp only at hSw); go_simp; try with_reducible rfl)
      try simp only [Act.put, List.setIfInBounds_toArray, List.set_cons_zero, List.set_cons_succ]
      refine rg_take (i := 7) (d := some 68) (l := #[true, true, true, true, true, true, true, true, false, false, false, false]) (fuel := 4) (v := ?_) rfl (by kernel_rfl) (by kernel_rfl) (by kernel_rfl) (by kernel_rfl) (by kernel_rfl) (fun _ _ _ h => h) (by kernel_rfl) ?_ (by assumption) ?_
      rotate_left 1
      · (intro wS hSw; (try dsimp only at hSw); go_simp; try with_reducible rfl)
      try simp only [Act.put, List.setIfInBounds_toArray, List.set_cons_zero, List.set_cons_succ]
      refine rg_take (i := 8) (d := some 69) (l := #[true, true, true, true, true, true, true, true, true, false, false, false]) (fuel := 3) (v := ?_) rfl (by kernel_rfl) (by kernel_rfl) (by kernel_rfl) (by kernel_rfl) (by kernel_rfl) (fun _ _ _ h => h) (by kernel_rfl) ?_ (by assumption) ?_
      rotate_left 1
      · (intro wS hSw; (try dsimp only at hSw); go_simp; try with_reducible rfl)
      try simp only [Act.put, List.setIfInBounds_toArray, List.set_cons_zero, List.set_cons_succ]
      refine rg_take (i := 9) (d := some 70) (l := #[true, true, true, true, true, true, true, true, true, true, false, false]) (fuel := 2) (v := ?_) rfl (by kernel_rfl) (by kernel_rfl) (by kernel_rfl) (by kernel_rfl) (by kernel_rfl) (fun _ _ _ h => h) (by kernel_rfl) ?_ (by assumption) ?_
      rotate_left 1
      · (intro wS hSw; (try dsimp only at hSw); go_simp; try with_reducible rfl)
      try simp only [Act.put, List.setIfInBounds_toArray, List.set_cons_zero, List.set_cons_succ]
      refine rg_take (i := 10) (d := some 71) (l := #[true, true, true, true, true, true, true, true, true, true, true, false]) (fuel := 1) (v := ?_) rfl (by kernel_rfl) (by kernel_rfl) (by kernel_rfl) (by kernel_rfl) (by kernel_rfl) (fun _ _ _ h => h) (by kernel_rfl) ?_ (by assumption) ?_
      rotate_left 1
      · (intro wS hSw; (try dsimp only at hSw); go_simp; try with_reducible rfl)
      try simp only [Act.put, List.setIfInBounds_toArray, List.set_cons_zero, List.set_cons_succ]
      refine rg_next (i := 11) (l := #[true, true, true, true, true, true, true, true, true, true, true, true]) (fuel := 0) (by kernel_rfl) rfl (by kernel_rfl) (by kernel_rfl) (fun K hK => ?_)
      go_simp
      (go_at_call 34)
      refine (rcwrite_any (w := w.drew) (r := rs c) (n := ms c) (x := s.xs c) (by exact H.out.2.1 c hc) q b b0 b1).mono ?_
      rintro e w2 ⟨rfl, h2, k2⟩
      have hrc := H.out.ne c hc
      have z0 := (k2.cell (p := ⟨r, 6, none⟩) (by exact Blk.lt H.out.1) (by simp; omega)).trans c6
      have z1 := (k2.cell (p := ⟨r, c, none⟩) (by exact Blk.lt H.out.1) (by simp; omega)).trans cc
      have k2' : Kp [rs c, ms c] w w2 := ⟨k2.os, k2.tape, k2.output, k2.size, k2.block⟩
      have Z := Lib.hid (H.out.wrote hc HC.out h2 (Cw.wr_td (H.out.2.2.2.2.2.2 c) q b0 b1) k2')
      clear h2 k2 k2'
      first | (refine hK.out _ _ ?_ (fun hHeld => ?_)) | (go_wp2_with fail; refine hK.out _ _ ?_ (fun hHeld => ?_))
      · (try dsimp only); exact ⟨z0, z1⟩
      clear hK K
      try simp only [Act.put, List.setIfInBounds_toArray, List.set_cons_zero, List.set_cons_succ]
      refine wpAnyH_done (by kernel_rfl) ?_ _
      go_wp2_with fail
      go_end0
      obtain ⟨z1, z2⟩ := Z.out
      rw [xs_eq HC.out]
      exact ⟨rfl, z1, z2⟩
    · rw [if_neg (by omega)]
      have i1 : ¬ (c : Int) < 6 := by omega
      clear hcc h2 hch h0 h1 h9
      go_enter Tryd.func21, Tryd.ntmps21
      go_wp2_with fail
      go_end0
      exact ⟨rfl, H.out, Kp.refl _ _⟩
  by_cases h7 : q = 7
  · subst h7
    by_cases h4 : c = 4
    · rw [if_pos ⟨by omega, .inr ⟨rfl, by omega⟩⟩]
      have hc : c < 6 := by omega
      have cc : w.cell? ⟨r, c, none⟩ = some (.pointer (some ⟨rs c, 0, none⟩)) := H.out.1.ptr c hc
      have n4 : ((c : Int) == 4) = true := by rw [h4]; rfl
      have i0 : (0 : Int) ≤ (c : Int) := by omega
      have i1 : (c : Int) < 6 := by omega
      clear hcc h2 hch h0 h1 h9 h4
      go_enter Tryd.func21, Tryd.ntmps21
      go_wp2_with fail
      refine rg_begin (S := fun w' => w'.cell? ⟨r, 6, none⟩ = some (.int .i64 c) ∧ w'.cell? ⟨r, c, none⟩ = some (.pointer (some ⟨rs c, 0, none⟩))) 12 #[false, false, false, false, false, false, false, false, false, false, false, false] (by kernel_rfl) (by kernel_rfl) (by kernel_rfl) ?_ (fun hHeld => ?_)
      · exact ⟨c6, cc⟩
      refine rg_take (i := 0) (d := some 61) (l := #[true, false, false, false, false, false, false, false, false, false, false, false]) (fuel := 11) (v := ?_) rfl (by kernel_rfl) (by kernel_rfl) (by kernel_rfl) (by kernel_rfl) (by kernel_rfl) (fun _ _ _ h => h) (by kernel_rfl) ?_ (by assumption) ?_
      rotate_left 1
      · (intro wS hSw; (try dsimp only at hSw); go_simp; try with_reducible rfl)
      try simp only [Act.put, List.setIfInBounds_toArray, List.set_cons_zero, List.set_cons_succ]
      refine rg_take (i := 1) (d := some 62) (l := #[true, true, false, false, false, false, false, false, false, false, false, false]) (fuel := 10) (v := ?_) rfl (by kernel_rfl) (by kernel_rfl) (by kernel_rfl) (by kernel_rfl) (by kernel_rfl) (fun _ _ _ h => h) (by kernel_rfl) ?_ (by assumption) ?_
      rotate_left 1
      · (intro wS hSw; (try dsimp only at hSw); go_simp; try with_reducible rfl)
      try simp only [Act.put, List.setIfInBounds_toArray, List.set_cons_zero, List.set_cons_succ]
      refine rg_take (i := 2) (d := some 63) (l := #[true, true, true, false, false, false, false, false, false, false, false, false]) (fuel := 9) (v := ?_) rfl (by kernel_rfl) (by kernel_rfl) (by kernel_rfl) (by kernel_rfl) (by kernel_rfl) (fun _ _ _ h => h) (by kernel_rfl) ?_ (by assumption) ?_
      rotate_left 1
      · (intro wS hSw; (try dsimp only at hSw); go_simp; try with_reducible rfl)
      try simp only [Act.put, List.setIfInBounds_toArray, List.set_cons_zero, List.set_cons_succ]
      refine rg_take (i := 3) (d := some 64) (l := #[true, true, true, true, false, false, false, false, false, false, false, false]) (fuel := 8) (v := ?_) rfl (by kernel_rfl) (by kernel_rfl) (by kernel_rfl) (by kernel_rfl) (by kernel_rfl) (fun _ _ _ h => h) (by kernel_rfl) ?_ (by assumption) ?_
      rotate_left 1
      · (intro wS hSw; (try dsimp only at hSw); go_simp; try with_reducible rfl)
      try simp only [Act.put, List.setIfInBounds_toArray, List.set_cons_zero, List.set_cons_succ]
      refine rg_take (i := 4) (d := some 65) (l := #[true, true, true, true, true, false, false, false, false, false, false, false]) (fuel := 7) (v := ?_) rfl (by kernel_rfl) (by kernel_rfl) (by kernel_rfl) (by kernel_rfl) (by kernel_rfl) (fun _ _ _ h => h) (by kernel_rfl) ?_ (by assumption) ?_
      rotate_left 1
      · (intro wS hSw; (try dsimp only at hSw); go_simp; try with_reducible rfl)
      try simp only [Act.put, List.setIfInBounds_toArray, List.set_cons_zero, List.set_cons_succ]
      refine rg_take (i := 5) (d := some 66) (l := #[true, true, true, true, true, true, false, false, false, false, false, false]) (fuel := 6) (v := ?_) rfl (by kernel_rfl) (by kernel_rfl) (by kernel_rfl) (by kernel_rfl) (by kernel_rfl) (fun _ _ _ h => h) (by kernel_rfl) ?_ (by assumption) ?_
      rotate_left 1
      · (intro wS hSw; (try dsimp only at hSw); go_simp; try with_reducible rfl)
      try simp only [Act.put, List.setIfInBounds_toArray, List.set_cons_zero, List.set_cons_succ]
      refine rg_take (i := 6) (d := some 67) (l := #[true, true, true, true, true, true, true, false, false, false, false, false]) (fuel := 5) (v := ?_) rfl (by kernel_rfl) (by kernel_rfl) (by kernel_rfl) (by kernel_rfl) (by kernel_rfl) (fun _ _ _ h => h) (by kernel_rfl) ?_ (by assumption) ?_
      rotate_left 1
      · (intro wS hSw; (try dsimp only at hSw); go_simp; try with_reducible rfl)
      try simp only [Act.put, List.setIfInBounds_toArray, List.set_cons_zero, List.set_cons_succ]
      refine rg_take (i := 7) (d := some 68) (l := #[true, true, true, true, true, true, true, true, false, false, false, false]) (fuel := 4) (v := ?_) rfl (by kernel_rfl) (by kernel_rfl) (by kernel_rfl) (by kernel_rfl) (by kernel_rfl) (fun _ _ _ h => h) (by kernel_rfl) ?_ (by assumption) ?_
      rotate_left 1
      · (intro wS hSw; (try dsimp only at hSw); go_simp; try with_reducible rfl)
      try simp only [Act.put, List.setIfInBounds_toArray, List.set_cons_zero, List.set_cons_succ]
      refine rg_take (i := 8) (d := some 69) (l := #[true, true, true, true, true, true, true, true, true, false, false, false]) (fuel := 3) (v := ?_) rfl (by kernel_rfl) (by kernel_rfl) (by kernel_rfl) (by kernel_rfl) (by kernel_rfl) (fun _ _ _ h => h) (by kernel_rfl) ?_ (by assumption) ?_
      rotate_left 1
      · (intro wS hSw; (try dsimp only at hSw); go_simp; try with_reducible rfl)
      try simp only [Act.put, List.setIfInBounds_toArray, List.set_cons_zero, List.set_cons_succ]
      refine rg_take (i := 9) (d := some 70) (l := #[true, true, true, true, true, true, true, true, true, true, false, false]) (fuel := 2) (v := ?_) rfl (by kernel_rfl) (by kernel_rfl) (by kernel_rfl) (by kernel_rfl) (by kernel_rfl) (fun _ _ _ h => h) (by kernel_rfl) ?_ (by assumption) ?_
      rotate_left 1
      · (intro wS hSw; (try dsimp only at hSw); go_simp; try with_reducible rfl)
      try simp only [Act.put, List.setIfInBounds_toArray, List.set_cons_zero, List.set_cons_succ]
      refine rg_take (i := 10) (d := some 71) (l := #[true, true, true, true, true, true, true, true, true, true, true, false]) (fuel := 1) (v := ?_) rfl (by kernel_rfl) (by kernel_rfl) (by kernel_rfl) (by kernel_rfl) (by kernel_rfl) (fun _ _ _ h => h) (by kernel_rfl) ?_ (by assumption) ?_
      rotate_left 1
      · (intro wS hSw; (try dsimp only at hSw); go_simp; try with_reducible rfl)
      try simp only [Act.put, List.setIfInBounds_toArray, List.set_cons_zero, List.set_cons_succ]
      refine rg_next (i := 11) (l := #[true, true, true, true, true, true, true, true, true, true, true, true]) (fuel := 0) (by kernel_rfl) rfl (by kernel_rfl) (by kernel_rfl) (fun K hK => ?_)
      go_simp
      (go_at_call 34)
      refine (rcwrite_any (w := w.drew) (r := rs c) (n := ms c) (x := s.xs c) (by exact H.out.2.1 c hc) 7 b b0 b1).mono ?_
      rintro e w2 ⟨rfl, h2, k2⟩
      have hrc := H.out.ne c hc
      have z0 := (k2.cell (p := ⟨r, 6, none⟩) (by exact Blk.lt H.out.1) (by simp; omega)).trans c6
      have z1 := (k2.cell (p := ⟨r, c, none⟩) (by exact Blk.lt H.out.1) (by simp; omega)).trans cc
      have k2' : Kp [rs c, ms c] w w2 := ⟨k2.os, k2.tape, k2.output, k2.size, k2.block⟩
      have Z := Lib.hid (H.out.wrote hc HC.out h2 (Cw.wr_td (H.out.2.2.2.2.2.2 c) 7 b0 b1) k2')
      clear h2 k2 k2'
      first | (refine hK.out _ _ ?_ (fun hHeld => ?_)) | (go_wp2_with fail; refine hK.out _ _ ?_ (fun hHeld => ?_))
      · (try dsimp only); exact ⟨z0, z1⟩
      clear hK K
      try simp only [Act.put, List.setIfInBounds_toArray, List.set_cons_zero, List.set_cons_succ]
      refine wpAnyH_done (by kernel_rfl) ?_ _
      go_wp2_with fail
      go_end0
      obtain ⟨z1, z2⟩ := Z.out
      rw [xs_eq HC.out]
      exact ⟨rfl, z1, z2⟩
    by_cases h5 : c = 5
    · rw [if_pos ⟨by omega, .inr ⟨rfl, by omega⟩⟩]
      have hc : c < 6 := by omega
      have cc : w.cell? ⟨r, c, none⟩ = some (.pointer (some ⟨rs c, 0, none⟩)) := H.out.1.ptr c hc
      have n4 : ((c : Int) == 4) = false := neqB (by omega)
      have n5 : ((c : Int) == 5) = true := by rw [h5]; rfl
      have i0 : (0 : Int) ≤ (c : Int) := by omega
      have i1 : (c : Int) < 6 := by omega
      clear hcc h2 hch h0 h1 h9 h4 h5
      go_enter Tryd.func21, Tryd.ntmps21
      go_wp2_with fail
      refine rg_begin (S := fun w' => w'.cell? ⟨r, 6, none⟩ = some (.int .i64 c) ∧ w'.cell? ⟨r, c, none⟩ = some (.pointer (some ⟨rs c, 0, none⟩))) 12 #[false, false, false, false, false, false, false, false, false, false, false, false] (by kernel_rfl) (by kernel_rfl) (by kernel_rfl) ?_ (fun hHeld => ?_)
      · exact ⟨c6, cc⟩
      refine rg_take (i := 0) (d := some 61) (l := #[true, false, false, false, false, false, false, false, false, false, false, false]) (fuel := 11) (v := ?_) rfl (by kernel_rfl) (by kernel_rfl) (by kernel_rfl) (by kernel_rfl) (by kernel_rfl) (fun _ _ _ h => h) (by kernel_rfl) ?_ (by assumption) ?_
      rotate_left 1
      · (intro wS hSw; (try dsimp only at hSw); go_simp; try with_reducible rfl)
      try simp only [Act.put, List.setIfInBounds_toArray, List.set_cons_zero, List.set_cons_succ]
      refine rg_take (i := 1) (d := some 62) (l := #[true, true, false, false, false, false, false, false, false, false, false, false]) (fuel := 10) (v := ?_) rfl (by kernel_rfl) (by kernel_rfl) (by kernel_rfl) (by kernel_rfl) (by kernel_rfl) (fun _ _ _ h => h) (by kernel_rfl) ?_ (by assumption) ?_
      rotate_left 1
      · (intro wS hSw; (try dsimp only at hSw); go_simp; try with_reducible rfl)
      try simp only [Act.put, List.setIfInBounds_toArray, List.set_cons_zero, List.set_cons_succ]
      refine rg_take (i := 2) (d := some 63) (l := #[true, true, true, false, false, false, false, false, false, false, false, false]) (fuel := 9) (v := ?_) rfl (by kernel_rfl) (by kernel_rfl) (by kernel_rfl) (by kernel_rfl) (by kernel_rfl) (fun _ _ _ h => h) (by kernel_rfl) ?_ (by assumption) ?_
      rotate_left 1
      · (intro wS hSw; (try dsimp only at hSw); go_simp; try with_reducible rfl)
      try simp only [Act.put, List.setIfInBounds_toArray, List.set_cons_zero, List.set_cons_succ]
      refine rg_take (i := 3) (d := some 64) (l := #[true, true, true, true, false, false, false, false, false, false, false, false]) (fuel := 8) (v := ?_) rfl (by kernel_rfl) (by kernel_rfl) (by kernel_rfl) (by kernel_rfl) (by kernel_rfl) (fun _ _ _ h => h) (by kernel_rfl) ?_ (by assumption) ?_
      rotate_left 1
      · (intro wS hSw; (try dsimp only at hSw); go_simp; try with_reducible rfl)
      try simp only [Act.put, List.setIfInBounds_toArray, List.set_cons_zero, List.set_cons_succ]
      refine rg_take (i := 4) (d := some 65) (l := #[true, true, true, true, true, false, false, false, false, false, false, false]) (fuel := 7) (v := ?_) rfl (by kernel_rfl) (by kernel_rfl) (by kernel_rfl) (by kernel_rfl) (by kernel_rfl) (fun _ _ _ h => h) (by kernel_rfl) ?_ (by assumption) ?_
      rotate_left 1
      · (intro wS hSw; (try dsimp only at hSw); go_simp; try with_reducible rfl)
      try simp only [Act.put, List.setIfInBounds_toArray, List.set_cons_zero, List.set_cons_succ]
      refine rg_take (i := 5) (d := some 66) (l := #[true, true, true, true, true, true, false, false, false, false, false, false]) (fuel := 6) (v := ?_) rfl (by kernel_rfl) (by kernel_rfl) (by kernel_rfl) (by kernel_rfl) (by kernel_rfl) (fun _ _ _ h => h) (by kernel_rfl) ?_ (by assumption) ?_
      rotate_left 1
      · (intro wS hSw; (try dsimp only at hSw); go_simp; try with_reducible rfl)
      try simp only [Act.put, List.setIfInBounds_toArray, List.set_cons_zero, List.set_cons_succ]
      refine rg_take (i := 6) (d := some 67) (l := #[true, true, true, true, true, true, true, false, false, false, false, false]) (fuel := 5) (v := ?_) rfl (by kernel_rfl) (by kernel_rfl) (by kernel_rfl) (by kernel_rfl) (by kernel_rfl) (fun _ _ _ h => h) (by kernel_rfl) ?_ (by assumption) ?_
      rotate_left 1
      · (intro wS hSw; (try dsimp only at hSw); go_simp; try with_reducible rfl)
      try simp only [Act.put, List.setIfInBounds_toArray, List.set_cons_zero, List.set_cons_succ]
      refine rg_take (i := 7) (d := some 68) (l := #[true, true, true, true, true, true, true, true, false, false, false, false]) (fuel := 4) (v := ?_) rfl (by kernel_rfl) (by kernel_rfl) (by kernel_rfl) (by kernel_rfl) (by kernel_rfl) (fun _ _ _ h => h) (by kernel_rfl) ?_ (by assumption) ?_
      rotate_left 1
      · (intro wS hSw; (try dsimp only at hSw); go_simp; try with_reducible rfl)
      try simp only [Act.put, List.setIfInBounds_toArray, List.set_cons_zero, List.set_cons_succ]
      refine rg_take (i := 8) (d := some 69) (l := #[true, true, true, true, true, true, true, true, true, false, false, false]) (fuel := 3) (v := ?_) rfl (by kernel_rfl) (by kernel_rfl) (by kernel_rfl) (by kernel_rfl) (by kernel_rfl) (fun _ _ _ h => h) (by kernel_rfl) ?_ (by assumption) ?_
      rotate_left 1
      · (intro wS hSw; (try dsimp only at hSw); go_simp; try with_reducible rfl)
      try simp only [Act.put, List.setIfInBounds_toArray, List.set_cons_zero, List.set_cons_succ]
      refine rg_take (i := 9) (d := some 70) (l := #[true, true, true, true, true, true, true, true, true, true, false, false]) (fuel := 2) (v := ?_) rfl (by kernel_rfl) (by kernel_rfl) (by kernel_rfl) (by kernel_rfl) (by kernel_rfl) (fun _ _ _ h => h) (by kernel_rfl) ?_ (by assumption) ?_
      rotate_left 1
      · (intro wS hSw; (try dsimp only at hSw); go_simp; try with_reducible rfl)
      try simp only [Act.put, List.setIfInBounds_toArray, List.set_cons_zero, List.set_cons_succ]
      refine rg_take (i := 10) (d := some 71) (l := #[true, true, true, true, true, true, true, true, true, true, true, false]) (fuel := 1) (v := ?_) rfl (by kernel_rfl) (by kernel_rfl) (by kernel_rfl) (by kernel_rfl) (by kernel_rfl) (fun _ _ _ h => h) (by kernel_rfl) ?_ (by assumption) ?_
      rotate_left 1
      · (intro wS hSw; (try dsimp only at hSw); go_simp; try with_reducible rfl)
      try simp only [Act.put, List.setIfInBounds_toArray, List.set_cons_zero, List.set_cons_succ]
      refine rg_next (i := 11) (l := #[true, true, true, true, true, true, true, true, true, true, true, true]) (fuel := 0) (by kernel_rfl) rfl (by kernel_rfl) (by kernel_rfl) (fun K hK => ?_)
      go_simp
      (go_at_call 34)
      refine (rcwrite_any (w := w.drew) (r := rs c) (n := ms c) (x := s.xs c) (by exact H.out.2.1 c hc) 7 b b0 b1).mono ?_
      rintro e w2 ⟨rfl, h2, k2⟩
      have hrc := H.out.ne c hc
      have z0 := (k2.cell (p := ⟨r, 6, none⟩) (by exact Blk.lt H.out.1) (by simp; omega)).trans c6
      have z1 := (k2.cell (p := ⟨r, c, none⟩) (by exact Blk.lt H.out.1) (by simp; omega)).trans cc
      have k2' : Kp [rs c, ms c] w w2 := ⟨k2.os, k2.tape, k2.output, k2.size, k2.block⟩
      have Z := Lib.hid (H.out.wrote hc HC.out h2 (Cw.wr_td (H.out.2.2.2.2.2.2 c) 7 b0 b1) k2')
      clear h2 k2 k2'
      first | (refine hK.out _ _ ?_ (fun hHeld => ?_)) | (go_wp2_with fail; refine hK.out _ _ ?_ (fun hHeld => ?_))
      · (try dsimp only); exact ⟨z0, z1⟩
      clear hK K
      try simp only [Act.put, List.setIfInBounds_toArray, List.set_cons_zero, List.set_cons_succ]
      refine wpAnyH_done (by kernel_rfl) ?_ _
      go_wp2_with fail
      go_end0
      obtain ⟨z1, z2⟩ := Z.out
      rw [xs_eq HC.out]
      exact ⟨rfl, z1, z2⟩
    · rw [if_neg (by omega)]
      have n4 : ((c : Int) == 4) = false := neqB (by omega)
      have n5 : ((c : Int) == 5) = false := neqB (by omega)
      clear hcc h2 hch h0 h1 h9 h4 h5
      go_enter Tryd.func21, Tryd.ntmps21
      go_wp2_with fail
      go_end0
      exact ⟨rfl, H.out, Kp.refl _ _⟩
  · rw [if_neg (by omega)]
    have n7 : ((q : Int) == 7) = false := neqB (by omega)
    have j2 : ¬ (q : Int) ≤ 6 := by omega
    clear hcc h2 hch h0 h1 h9 h7
    go_enter Tryd.func21, Tryd.ntmps21
    go_wp2_with fail
    go_end0
    exact ⟨rfl, H.out, Kp.refl _ _⟩
end
end Go.Proofs.YtaamfcbpelbboaaDoor
