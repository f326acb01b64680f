/-
  Texts of these proofs, one behind the other: St2, St3.
-/
import Derived.Test.YtnnfnjbfjgjgnaaDoorKST14
import Derived.Laws.CopyOwn
import Derived.Deep.Cut
import Derived.Deep.CutRange
import Derived.Deep.CutBlock
import Derived.Test.YtnnfnjbfjgjgnaaDoorKST12
import Derived.Deep.RegionHeld3
namespace Go.Proofs.YtnnfnjbfjgjgnaaDoor
open Go.RowKit
set_option linter.unusedVariables false
set_option linter.unusedSimpArgs false
set_option maxRecDepth 100000
theorem rwA_size (r : Nat → Int) : (rwA r).size = 16 := vArr_size _ _
theorem rwA_one (r : Nat → Int) : ∀ v ∈ (rwA r).toList, v.oneCell' = true := vArr_one _ _ fun _ _ => rfl
theorem rwA_at (r : Nat → Int) (i : Nat) (h : i < 16) : (rwA r)[i]? = some (.int .u16 (r i)) := vArr_at _ _ _ h
theorem rwA_congr {r r' : Nat → Int} (h : ∀ i, i < 16 → r i = r' i) : rwA r = rwA r' := vArr_congr fun i hi => by rw [h i hi]
theorem rwA_set (r : Nat → Int) (i : Nat) (v : Int) : (rwA r).setIfInBounds i (.int .u16 v) = rwA fun j => if j = i then v else r j := by
  unfold rwA
  rw [vArr_set]
  exact vArr_congr fun j _ => by by_cases h : j = i <;> simp [h]
theorem size_row : (Tryd.prog.info? 48).map (·.size) = some 16 := by kernel_rfl
theorem size_state : (Tryd.prog.info? 25).map (·.size) = some 16 := by kernel_rfl
def toP (r : Nat → Int) (q : Nat) : Nat → Int := fun j => if j < 6 + q then r j else 0
theorem toP_set (r : Nat → Int) (q : Nat) : (rwA (toP r q)).setIfInBounds (6 + q) (.int .u16 (r (6 + q))) = rwA (toP r (q + 1)) := by
  rw [rwA_set]
  exact rwA_congr fun j _ => by
    unfold toP
    by_cases e : j = 6 + q
    · subst e; rw [if_pos rfl, if_pos (by omega)]
    · rw [if_neg e]
      by_cases h : j < 6 + q
      · rw [if_pos h, if_pos (by omega)]
      · rw [if_neg h, if_neg (by omega)]
theorem stA_at (r : Nat → Int) (i : Nat) (h : i < 16) (h5 : i ≠ 5) (h15 : i ≠ 15) : (stA r)[i]? = some (.int .u8 (r i)) := by
  match i, h, h5, h15 with
  | 0, _, _, _ | 1, _, _, _ | 2, _, _, _ | 3, _, _, _ | 4, _, _, _ | 6, _, _, _ | 7, _, _, _ | 8, _, _, _ | 9, _, _, _ | 10, _, _, _ | 11, _, _, _ | 12, _, _, _ | 13, _, _, _ | 14, _, _, _ => rfl
  | 5, _, h, _ => exact absurd rfl h
  | 15, _, _, h => exact absurd rfl h
  | k + 16, h, _, _ => exact absurd h (by omega)
set_option maxHeartbeats 4000000 in
theorem sall_any (r : Nat → Int) (hr : StOk r) (w : World) : Calls Tryd.prog 27 #[.agg (stA r)] w fun e w' => e = .returned (.agg (rwA r)) ∧ Below w.heap.size w w' := by
  have hb : ∀ i, i < 16 → i ≠ 5 → i ≠ 15 → IntKind.u16.wrap (r i) = r i := fun i h h5 h15 => by
    have := hr i h
    unfold mostP at this
    rw [if_neg h5, if_neg h15] at this
    rw [v16_mod]; omega
  have q0 := hb 0 (by decide) (by decide) (by decide)
  have q1 := hb 1 (by decide) (by decide) (by decide)
  have q2 := hb 2 (by decide) (by decide) (by decide)
  have q3 := hb 3 (by decide) (by decide) (by decide)
  have q4 := hb 4 (by decide) (by decide) (by decide)
  have HBB := Lib.hid hb
  have HR := Lib.hid hr
  clear hb hr
  unfold stA
  go_enter Tryd.func27, Tryd.ntmps27
  go_wp2_with fail
  have hix : ∀ q, q < 8 → (#[.int .u8 (r 6), .int .u8 (r 7), .int .u8 (r 8), .int .u8 (r 9), .int .u8 (r 10), .int .u8 (r 11), .int .u8 (r 12), .int .u8 (r 13)] : Array Value)[q]? = some (.int .u8 (r (6 + q))) := fun q hq => by
    rcases q with _ | _ | _ | _ | _ | _ | _ | _ | q
    all_goals first | rfl | omega
  have HIX := Lib.hid hix
  clear hix
  go_loopw [26] (fun i wr => ∃ q : Nat, q ≤ 8 ∧ i = .int .i64 q ∧ Blk wr (w.heap.size + 1 + 1) 48 (rwA (toP r q)) ∧ Blk wr w.heap.size 25 (stA r) ∧ Blk wr (w.heap.size + 1) 48 (rwA fun _ => 0) ∧ Below w.heap.size w wr) (fun i _ => 8 - (intOf i).toNat)
  case atStart =>
    exact ⟨0, by omega, rfl, Blk.new_ (by simp), ((Blk.new w _ _).alloc _).alloc _, (Blk.new_ (by simp)).alloc _, (((Below.refl _ w).alloc (Nat.le_refl _) _).alloc (by simp) _).alloc (by simp; omega) _⟩
  case round =>
    obtain ⟨q, hq, rfl, h2, h0, h1, hB⟩ := hrel
    by_cases hlt : q < 8
    · have q00 : (0 : Int) ≤ q := by omega
      have q01 : (q : Int) < 8 := by omega
      have hx := fun W => run_index_agg (P := Tryd.prog) (t := 23) Tryd.underlying23 (by kernel_rfl) (k := .i64) (i := (q : Int)) (v := .int .u8 (r (6 + q))) (by omega) (by omega) (HIX.out q hlt) W
      have H2n := Lib.hid ((toP_set r q) ▸ h2.set_ (6 + q) (.int .u16 (r (6 + q))))
      obtain ⟨m, hm⟩ : ∃ m, 6 + q = m := ⟨_, rfl⟩
      rw [hm] at hx H2n
      have e1 : IntKind.i64.wrap (6 + (q : Int)) = m := (IntWalk.i64_in _ (by omega)).trans (by omega)
      have e2 := HBB.out m (by omega) (by omega) (by omega)
      have m0 : (0 : Int) ≤ m := by omega
      have m1 : (m : Int) < 16 := by omega
      have cx : wr.cell? ⟨w.heap.size + 1 + 1, m, none⟩ = some (.int .u16 (toP r q m)) := (h2.cell m).trans (rwA_at _ _ (by omega))
      have fx : wr.frozen? ⟨w.heap.size + 1 + 1, m, none⟩ = false := h2.frozen m
      have H0 := Lib.hid (h0.far (p := ⟨w.heap.size + 1 + 1, m, none⟩) (show w.heap.size ≠ w.heap.size + 1 + 1 by omega) (.int .u16 (r m)))
      have H1 := Lib.hid (h1.far (p := ⟨w.heap.size + 1 + 1, m, none⟩) (show w.heap.size + 1 ≠ w.heap.size + 1 + 1 by omega) (.int .u16 (r m)))
      have HB := Lib.hid (hB.setCell (p := ⟨w.heap.size + 1 + 1, m, none⟩) (by show w.heap.size ≤ w.heap.size + 1 + 1; omega) (.int .u16 (r m)))
      clear h2 h0 h1 hB hm
      go_wp2_with fail
      go_roundw
      case rel => exact ⟨q + 1, by omega, by go_num, H2n.out, H0.out, H1.out, HB.out⟩
      case measure => simp [intOf]; omega
    · obtain rfl : q = 8 := by omega
      have c14 : wr.cell? ⟨w.heap.size, 14, none⟩ = some (.int .u8 (r 14)) := h0.cell 14
      have e14 := HBB.out 14 (by omega) (by omega) (by omega)
      have d14 : wr.cell? ⟨w.heap.size + 1 + 1, 14, none⟩ = some (.int .u16 (toP r 8 14)) := (h2.cell 14).trans (rwA_at _ _ (by omega))
      have f14 : wr.frozen? ⟨w.heap.size + 1 + 1, 14, none⟩ = false := h2.frozen 14
      have c15 : wr.cell? ⟨w.heap.size, 15, none⟩ = some (.bool (decide (r 15 = 1))) := h0.cell 15
      have H2 := Lib.hid (h2.set_ 14 (.int .u16 (r 14)))
      have H0 := Lib.hid (h0.far (p := ⟨w.heap.size + 1 + 1, 14, none⟩) (show w.heap.size ≠ w.heap.size + 1 + 1 by omega) (.int .u16 (r 14)))
      have H1 := Lib.hid (h1.far (p := ⟨w.heap.size + 1 + 1, 14, none⟩) (show w.heap.size + 1 ≠ w.heap.size + 1 + 1 by omega) (.int .u16 (r 14)))
      have HB := Lib.hid (hB.setCell (p := ⟨w.heap.size + 1 + 1, 14, none⟩) (by show w.heap.size ≤ w.heap.size + 1 + 1; omega) (.int .u16 (r 14)))
      clear h2 h0 h1 hB
      have c15' : (wr.setCell ⟨w.heap.size + 1 + 1, 14, none⟩ (.int .u16 (r 14))).cell? ⟨w.heap.size, 15, none⟩ = some (.bool (decide (r 15 = 1))) := (H0.out.cell 15)
      have d15 : (wr.setCell ⟨w.heap.size + 1 + 1, 14, none⟩ (.int .u16 (r 14))).cell? ⟨w.heap.size + 1 + 1, 15, none⟩ = some (.int .u16 (toP r 8 15)) := (H2.out.cell 15).trans (by rw [rwA_set]; exact rwA_at _ _ (by omega))
      have f15 : (wr.setCell ⟨w.heap.size + 1 + 1, 14, none⟩ (.int .u16 (r 14))).frozen? ⟨w.heap.size + 1 + 1, 15, none⟩ = false := H2.out.frozen 15
      clear c15
      have t14 : (rwA (toP r 8)).setIfInBounds 14 (.int .u16 (r 14)) = rwA fun j => if j = 14 then r 14 else toP r 8 j := rwA_set _ _ _
      have key : ∀ x, r 15 = x → (rwA fun j => if j = 15 then x else if j = 14 then r 14 else toP r 8 j) = rwA r := fun x hx => rwA_congr fun j hj => by
        by_cases e1 : j = 15
        · subst e1; rw [if_pos rfl, hx]
        · rw [if_neg e1]
          by_cases e2 : j = 14
          · subst e2; rw [if_pos rfl]
          · rw [if_neg e2]; unfold toP; rw [if_pos (by omega)]
      rw [t14] at H2
      by_cases h15 : r 15 = 1
      · have b15 : decide (r 15 = 1) = true := by simp [h15]
        rw [b15] at c15'
        have H22 := Lib.hid (H2.out.set_ 15 (.int .u16 1))
        have H12 := Lib.hid (H1.out.far (p := ⟨w.heap.size + 1 + 1, 15, none⟩) (show w.heap.size + 1 ≠ w.heap.size + 1 + 1 by omega) (.int .u16 1))
        have HB2 := Lib.hid (HB.out.setCell (p := ⟨w.heap.size + 1 + 1, 15, none⟩) (by show w.heap.size ≤ w.heap.size + 1 + 1; omega) (.int .u16 1))
        rw [rwA_set] at H22
        have KEY := Lib.hid (key 1 h15)
        clear key h15
        go_upto_region 10 with fail
        clear c14 c15' d14 f14 d15 f15
        have hX : Blk _ _ _ (rwA r) := (KEY.out) ▸ H22.out
        have ho : Blk _ _ _ (rwA r) := hX
        have hst := H12.out.run_store (P := Tryd.prog) (rwA r) (by rw [rwA_size]; rfl) (rwA_one _)
        have hsz := rwA_size r
        have h8 : (Tryd.prog.info? 48).map (·.size) = some (rwA r).size := by rw [rwA_size]; exact size_row
        have H8 := Lib.hid h8
        have hld := (H12.out.row (rwA r)).run_load (P := Tryd.prog) Tryd.underlying48 rfl h8
        have HD := Lib.hid hld
        have HB3 := Lib.hid (below_setRow HB2.out (show w.heap.size ≤ w.heap.size + 1 by omega) (rwA r))
        clear h8 hld hX
        go_wp2_with (refine wpList_load_row rfl 48 (.tmp 3) rfl (w.heap.size + 1 + 1) (by rfl) 48 (rwA r) (0, 0) _ ho Tryd.underlying48 rfl H8.out ?_)
        refine bodyPost_ret (v := .agg (rwA r)) (results_cell (a := ⟨w.heap.size + 1, 0, none⟩) Tryd.results27 (by rfl) HD.out) rfl ?_
        exact ⟨rfl, HB3.out⟩
      · have b15 : decide (r 15 = 1) = false := by simp [h15]
        rw [b15] at c15'
        have z15 : r 15 = 0 := by have := HR.out 15 (by decide); simp [mostP] at this; omega
        have KEY := Lib.hid (show (rwA fun j => if j = 14 then r 14 else toP r 8 j) = rwA r from by
          rw [← key 0 z15]; exact rwA_congr fun j hj => by
            by_cases e1 : j = 15
            · subst e1; rw [if_pos rfl, if_neg (by decide)]; rfl
            · rw [if_neg e1])
        clear key h15 z15
        go_upto_region 10 with fail
        clear c14 c15' d14 f14 d15 f15
        have hX : Blk _ _ _ (rwA r) := (KEY.out) ▸ H2.out
        have ho : Blk _ _ _ (rwA r) := hX
        have hst := H1.out.run_store (P := Tryd.prog) (rwA r) (by rw [rwA_size]; rfl) (rwA_one _)
        have hsz := rwA_size r
        have h8 : (Tryd.prog.info? 48).map (·.size) = some (rwA r).size := by rw [rwA_size]; exact size_row
        have H8 := Lib.hid h8
        have hld := (H1.out.row (rwA r)).run_load (P := Tryd.prog) Tryd.underlying48 rfl h8
        have HD := Lib.hid hld
        have HB3 := Lib.hid (below_setRow HB.out (show w.heap.size ≤ w.heap.size + 1 by omega) (rwA r))
        clear h8 hld hX
        go_wp2_with (refine wpList_load_row rfl 48 (.tmp 3) rfl (w.heap.size + 1 + 1) (by rfl) 48 (rwA r) (0, 0) _ ho Tryd.underlying48 rfl H8.out ?_)
        refine bodyPost_ret (v := .agg (rwA r)) (results_cell (a := ⟨w.heap.size + 1, 0, none⟩) Tryd.results27 (by rfl) HD.out) rfl ?_
        exact ⟨rfl, HB3.out⟩
end Go.Proofs.YtnnfnjbfjgjgnaaDoor
namespace Go.Proofs.YtnnfnjbfjgjgnaaDoor
open Go.RowKit
set_option linter.unusedVariables false
set_option linter.unusedSimpArgs false
set_option maxRecDepth 100000
theorem slo_any (x : Int) (x0 : 0 ≤ x) (x1 : x ≤ 255) (w : World) : Calls Tryd.prog 24 #[.int .u16 x] w fun e w' => e = .returned (.int .u8 x) ∧ w = w' := by
  have h := lo_any x w
  rw [IntWalk.u8_in _ (by omega)] at h
  exact h
theorem stA_set (r : Nat → Int) (q : Nat) (hq : q < 8) (v : Int) : (stA r).setIfInBounds (6 + q) (.int .u8 v) = stA fun j => if j = 6 + q then v else r j := by
  match q, hq with
  | 0, _ => rfl
  | 1, _ => rfl
  | 2, _ => rfl
  | 3, _ => rfl
  | 4, _ => rfl
  | 5, _ => rfl
  | 6, _ => rfl
  | 7, _ => rfl
theorem stA_congr {r r' : Nat → Int} (h : ∀ i, i < 16 → r i = r' i) : stA r = stA r' := by
  unfold stA
  rw [h 0 (by decide), h 1 (by decide), h 2 (by decide), h 3 (by decide), h 4 (by decide), h 5 (by decide), h 6 (by decide), h 7 (by decide), h 8 (by decide), h 9 (by decide), h 10 (by decide), h 11 (by decide), h 12 (by decide), h 13 (by decide), h 14 (by decide), h 15 (by decide)]
theorem stA_size (r : Nat → Int) : (stA r).size = 16 := rfl
theorem stA_one (r : Nat → Int) : ∀ v ∈ (stA r).toList, v.oneCell' = true := by
  intro v hv
  simp only [stA, List.mem_cons, List.not_mem_nil, or_false] at hv
  rcases hv with rfl | rfl | rfl | rfl | rfl | rfl | rfl | rfl | rfl | rfl | rfl | rfl | rfl | rfl | rfl | rfl <;> rfl
/-- Without pages. -/
def offP (r : Nat → Int) (q : Nat) : Nat → Int := fun j => if j < 6 + q ∨ 13 < j then r j else 0
theorem offP_set (r : Nat → Int) (q : Nat) (hq : q < 8) : (stA (offP r q)).setIfInBounds (6 + q) (.int .u8 (r (6 + q))) = stA (offP r (q + 1)) := by
  rw [stA_set _ _ hq]
  exact stA_congr fun j _ => by
    unfold offP
    by_cases e : j = 6 + q
    · subst e; rw [if_pos rfl, if_pos (by omega)]
    · rw [if_neg e]
      by_cases h : j < 6 + q ∨ 13 < j
      · rw [if_pos h, if_pos (by omega)]
      · rw [if_neg h, if_neg (by omega)]
set_option maxHeartbeats 8000000 in
theorem sst_any (r : Nat → Int) (hr : StOk r) (w : World) : Calls Tryd.prog 26 #[.agg (rwA r)] w fun e w' => e = .returned (.agg (stA r)) ∧ Below w.heap.size w w' := by
  have hb : ∀ i, i < 16 → i ≠ 5 → 0 ≤ r i ∧ r i ≤ 255 := fun i h h5 => by
    have := hr i h
    unfold mostP at this
    rw [if_neg h5] at this
    split at this <;> omega
  have HBB := Lib.hid hb
  have HR := Lib.hid hr
  clear hb hr
  have hsz := rwA_size r
  go_enter Tryd.func26, Tryd.ntmps26
  go_upto_region 1 with fail
  go_cut [3] from 3 to 28 (fun s wx => s = .pointer (some ⟨w.heap.size + 1 + 1, 0, none⟩) ∧ Blk wx (w.heap.size + 1 + 1) 25 (stA (offP r 0)) ∧ Blk wx (w.heap.size + 1) 25 (stA fun _ => 0) ∧ Blk wx w.heap.size 48 (rwA r) ∧ Below w.heap.size w wx)
  case first =>
    have k0 : Blk ((w.alloc (.cells (rwA r) 48)).alloc (.cells (stA fun _ => 0) 25)) w.heap.size 48 (rwA r) := (Blk.new w _ _).alloc _
    have k1 : Blk ((w.alloc (.cells (rwA r) 48)).alloc (.cells (stA fun _ => 0) 25)) (w.heap.size + 1) 25 (stA fun _ => 0) := Blk.new_ (by simp)
    have kb : Below w.heap.size w ((w.alloc (.cells (rwA r) 48)).alloc (.cells (stA fun _ => 0) 25)) := ((Below.refl _ w).alloc (Nat.le_refl _) _).alloc (by simp) _
    have ks : ((w.alloc (.cells (rwA r) 48)).alloc (.cells (stA fun _ => 0) 25)).heap.size = w.heap.size + 1 + 1 := by simp
    show Code.wp _ _ _ _ ((w.alloc (.cells (rwA r) 48)).alloc (.cells (stA fun _ => 0) 25))
    generalize (w.alloc (.cells (rwA r) 48)).alloc (.cells (stA fun _ => 0) 25) = w1 at *
    have c0 : w1.cell? ⟨w.heap.size, 0, none⟩ = some (.int .u16 (r 0)) := k0.cell 0
    have c1 : w1.cell? ⟨w.heap.size, 1, none⟩ = some (.int .u16 (r 1)) := k0.cell 1
    have c2 : w1.cell? ⟨w.heap.size, 2, none⟩ = some (.int .u16 (r 2)) := k0.cell 2
    have c3 : w1.cell? ⟨w.heap.size, 3, none⟩ = some (.int .u16 (r 3)) := k0.cell 3
    have c4 : w1.cell? ⟨w.heap.size, 4, none⟩ = some (.int .u16 (r 4)) := k0.cell 4
    have c5 : w1.cell? ⟨w.heap.size, 5, none⟩ = some (.int .u16 (r 5)) := k0.cell 5
    have c14 : w1.cell? ⟨w.heap.size, 14, none⟩ = some (.int .u16 (r 14)) := k0.cell 14
    have c15 : w1.cell? ⟨w.heap.size, 15, none⟩ = some (.int .u16 (r 15)) := k0.cell 15
    have b0 := HBB.out 0 (by decide) (by decide)
    have b1 := HBB.out 1 (by decide) (by decide)
    have b2 := HBB.out 2 (by decide) (by decide)
    have b3 := HBB.out 3 (by decide) (by decide)
    have b4 := HBB.out 4 (by decide) (by decide)
    have b14 := HBB.out 14 (by decide) (by decide)
    have h15 := HR.out 15 (by decide)
    have z15 : (r 15 != 0) = decide (r 15 = 1) := by
      have h1 : 0 ≤ r 15 := h15.1
      have h2 : r 15 ≤ 1 := h15.2
      by_cases h : r 15 = 1
      · rw [h]; rfl
      · have : r 15 = 0 := by omega
        rw [this]; rfl
    have K0 := Lib.hid k0
    have K1 := Lib.hid k1
    have KB := Lib.hid kb
    clear k0 k1 kb h15
    obtain ⟨x0, e0⟩ : ∃ x, r 0 = x := ⟨_, rfl⟩
    obtain ⟨x1, e1⟩ : ∃ x, r 1 = x := ⟨_, rfl⟩
    obtain ⟨x2, e2⟩ : ∃ x, r 2 = x := ⟨_, rfl⟩
    obtain ⟨x3, e3⟩ : ∃ x, r 3 = x := ⟨_, rfl⟩
    obtain ⟨x4, e4⟩ : ∃ x, r 4 = x := ⟨_, rfl⟩
    obtain ⟨x14, e14⟩ : ∃ x, r 14 = x := ⟨_, rfl⟩
    rw [e0] at c0 b0
    rw [e1] at c1 b1
    rw [e2] at c2 b2
    rw [e3] at c3 b3
    rw [e4] at c4 b4
    rw [e14] at c14 b14
    have HE := Lib.hid (And.intro e0 (And.intro e1 (And.intro e2 (And.intro e3 (And.intro e4 e14)))))
    have HS : Hid ((w1.drew).cell? ⟨w.heap.size, 0, none⟩ = some (.int .u16 x0) ∧ (w1.drew).cell? ⟨w.heap.size, 1, none⟩ = some (.int .u16 x1) ∧ (w1.drew).cell? ⟨w.heap.size, 2, none⟩ = some (.int .u16 x2) ∧ (w1.drew).cell? ⟨w.heap.size, 3, none⟩ = some (.int .u16 x3) ∧ (w1.drew).cell? ⟨w.heap.size, 4, none⟩ = some (.int .u16 x4) ∧ (w1.drew).cell? ⟨w.heap.size, 5, none⟩ = some (.int .u16 (r 5)) ∧ (w1.drew).cell? ⟨w.heap.size, 14, none⟩ = some (.int .u16 x14) ∧ (w1.drew).cell? ⟨w.heap.size, 15, none⟩ = some (.int .u16 (r 15))) := Lib.hid ⟨c0, c1, c2, c3, c4, c5, c14, c15⟩
    have HSA : Hid ((w1.drew.alloc (.cells (stA fun _ => 0) 25)).cell? ⟨w.heap.size, 0, none⟩ = some (.int .u16 x0) ∧ (w1.drew.alloc (.cells (stA fun _ => 0) 25)).cell? ⟨w.heap.size, 1, none⟩ = some (.int .u16 x1) ∧ (w1.drew.alloc (.cells (stA fun _ => 0) 25)).cell? ⟨w.heap.size, 2, none⟩ = some (.int .u16 x2) ∧ (w1.drew.alloc (.cells (stA fun _ => 0) 25)).cell? ⟨w.heap.size, 3, none⟩ = some (.int .u16 x3) ∧ (w1.drew.alloc (.cells (stA fun _ => 0) 25)).cell? ⟨w.heap.size, 4, none⟩ = some (.int .u16 x4) ∧ (w1.drew.alloc (.cells (stA fun _ => 0) 25)).cell? ⟨w.heap.size, 5, none⟩ = some (.int .u16 (r 5)) ∧ (w1.drew.alloc (.cells (stA fun _ => 0) 25)).cell? ⟨w.heap.size, 14, none⟩ = some (.int .u16 x14) ∧ (w1.drew.alloc (.cells (stA fun _ => 0) 25)).cell? ⟨w.heap.size, 15, none⟩ = some (.int .u16 (r 15))) := Lib.hid (by have q := K0.out.drew_.alloc (.cells (stA fun _ => 0) 25); exact ⟨(q.cell 0).trans (by rw [rwA_at _ _ (by decide), e0]), (q.cell 1).trans (by rw [rwA_at _ _ (by decide), e1]), (q.cell 2).trans (by rw [rwA_at _ _ (by decide), e2]), (q.cell 3).trans (by rw [rwA_at _ _ (by decide), e3]), (q.cell 4).trans (by rw [rwA_at _ _ (by decide), e4]), q.cell 5, (q.cell 14).trans (by rw [rwA_at _ _ (by decide), e14]), q.cell 15⟩)
    have HL : Hid (#[.int .u8 x0, .int .u8 x1, .int .u8 x2, .int .u8 x3, .int .u8 x4, .int .u16 (r 5), .int .u8 0, .int .u8 0, .int .u8 0, .int .u8 0, .int .u8 0, .int .u8 0, .int .u8 0, .int .u8 0, .int .u8 x14, .bool (decide (r 15 = 1))] = stA (offP r 0)) := Lib.hid (by rw [← e0, ← e1, ← e2, ← e3, ← e4, ← e14]; rfl)
    have HSE : Hid (((w1.alloc (.cells #[.int .u8 x0, .int .u8 x1, .int .u8 x2, .int .u8 x3, .int .u8 x4, .int .u16 (r 5), .int .u8 0, .int .u8 0, .int .u8 0, .int .u8 0, .int .u8 0, .int .u8 0, .int .u8 0, .int .u8 0, .int .u8 x14, .bool (decide (r 15 = 1))] 25)).drew).cell? ⟨w.heap.size, 0, none⟩ = some (.int .u16 x0) ∧ ((w1.alloc (.cells #[.int .u8 x0, .int .u8 x1, .int .u8 x2, .int .u8 x3, .int .u8 x4, .int .u16 (r 5), .int .u8 0, .int .u8 0, .int .u8 0, .int .u8 0, .int .u8 0, .int .u8 0, .int .u8 0, .int .u8 0, .int .u8 x14, .bool (decide (r 15 = 1))] 25)).drew).cell? ⟨w.heap.size, 1, none⟩ = some (.int .u16 x1) ∧ ((w1.alloc (.cells #[.int .u8 x0, .int .u8 x1, .int .u8 x2, .int .u8 x3, .int .u8 x4, .int .u16 (r 5), .int .u8 0, .int .u8 0, .int .u8 0, .int .u8 0, .int .u8 0, .int .u8 0, .int .u8 0, .int .u8 0, .int .u8 x14, .bool (decide (r 15 = 1))] 25)).drew).cell? ⟨w.heap.size, 2, none⟩ = some (.int .u16 x2) ∧ ((w1.alloc (.cells #[.int .u8 x0, .int .u8 x1, .int .u8 x2, .int .u8 x3, .int .u8 x4, .int .u16 (r 5), .int .u8 0, .int .u8 0, .int .u8 0, .int .u8 0, .int .u8 0, .int .u8 0, .int .u8 0, .int .u8 0, .int .u8 x14, .bool (decide (r 15 = 1))] 25)).drew).cell? ⟨w.heap.size, 3, none⟩ = some (.int .u16 x3) ∧ ((w1.alloc (.cells #[.int .u8 x0, .int .u8 x1, .int .u8 x2, .int .u8 x3, .int .u8 x4, .int .u16 (r 5), .int .u8 0, .int .u8 0, .int .u8 0, .int .u8 0, .int .u8 0, .int .u8 0, .int .u8 0, .int .u8 0, .int .u8 x14, .bool (decide (r 15 = 1))] 25)).drew).cell? ⟨w.heap.size, 4, none⟩ = some (.int .u16 x4) ∧ ((w1.alloc (.cells #[.int .u8 x0, .int .u8 x1, .int .u8 x2, .int .u8 x3, .int .u8 x4, .int .u16 (r 5), .int .u8 0, .int .u8 0, .int .u8 0, .int .u8 0, .int .u8 0, .int .u8 0, .int .u8 0, .int .u8 0, .int .u8 x14, .bool (decide (r 15 = 1))] 25)).drew).cell? ⟨w.heap.size, 5, none⟩ = some (.int .u16 (r 5)) ∧ ((w1.alloc (.cells #[.int .u8 x0, .int .u8 x1, .int .u8 x2, .int .u8 x3, .int .u8 x4, .int .u16 (r 5), .int .u8 0, .int .u8 0, .int .u8 0, .int .u8 0, .int .u8 0, .int .u8 0, .int .u8 0, .int .u8 0, .int .u8 x14, .bool (decide (r 15 = 1))] 25)).drew).cell? ⟨w.heap.size, 14, none⟩ = some (.int .u16 x14) ∧ ((w1.alloc (.cells #[.int .u8 x0, .int .u8 x1, .int .u8 x2, .int .u8 x3, .int .u8 x4, .int .u16 (r 5), .int .u8 0, .int .u8 0, .int .u8 0, .int .u8 0, .int .u8 0, .int .u8 0, .int .u8 0, .int .u8 0, .int .u8 x14, .bool (decide (r 15 = 1))] 25)).drew).cell? ⟨w.heap.size, 15, none⟩ = some (.int .u16 (r 15))) := Lib.hid (by have q := (K0.out.alloc (.cells #[.int .u8 x0, .int .u8 x1, .int .u8 x2, .int .u8 x3, .int .u8 x4, .int .u16 (r 5), .int .u8 0, .int .u8 0, .int .u8 0, .int .u8 0, .int .u8 0, .int .u8 0, .int .u8 0, .int .u8 0, .int .u8 x14, .bool (decide (r 15 = 1))] 25)).drew_; exact ⟨(q.cell 0).trans (by rw [rwA_at _ _ (by decide), e0]), (q.cell 1).trans (by rw [rwA_at _ _ (by decide), e1]), (q.cell 2).trans (by rw [rwA_at _ _ (by decide), e2]), (q.cell 3).trans (by rw [rwA_at _ _ (by decide), e3]), (q.cell 4).trans (by rw [rwA_at _ _ (by decide), e4]), q.cell 5, (q.cell 14).trans (by rw [rwA_at _ _ (by decide), e14]), q.cell 15⟩)
    have HZ : Hid (Blk ((w1.alloc (.cells #[.int .u8 x0, .int .u8 x1, .int .u8 x2, .int .u8 x3, .int .u8 x4, .int .u16 (r 5), .int .u8 0, .int .u8 0, .int .u8 0, .int .u8 0, .int .u8 0, .int .u8 0, .int .u8 0, .int .u8 0, .int .u8 x14, .bool (decide (r 15 = 1))] 25)).drew) (w.heap.size + 1 + 1) 25 (stA (offP r 0)) ∧ Blk ((w1.alloc (.cells #[.int .u8 x0, .int .u8 x1, .int .u8 x2, .int .u8 x3, .int .u8 x4, .int .u16 (r 5), .int .u8 0, .int .u8 0, .int .u8 0, .int .u8 0, .int .u8 0, .int .u8 0, .int .u8 0, .int .u8 0, .int .u8 x14, .bool (decide (r 15 = 1))] 25)).drew) (w.heap.size + 1) 25 (stA fun _ => 0) ∧ Blk ((w1.alloc (.cells #[.int .u8 x0, .int .u8 x1, .int .u8 x2, .int .u8 x3, .int .u8 x4, .int .u16 (r 5), .int .u8 0, .int .u8 0, .int .u8 0, .int .u8 0, .int .u8 0, .int .u8 0, .int .u8 0, .int .u8 0, .int .u8 x14, .bool (decide (r 15 = 1))] 25)).drew) w.heap.size 48 (rwA r) ∧ Below w.heap.size w ((w1.alloc (.cells #[.int .u8 x0, .int .u8 x1, .int .u8 x2, .int .u8 x3, .int .u8 x4, .int .u16 (r 5), .int .u8 0, .int .u8 0, .int .u8 0, .int .u8 0, .int .u8 0, .int .u8 0, .int .u8 0, .int .u8 0, .int .u8 x14, .bool (decide (r 15 = 1))] 25)).drew)) := Lib.hid ⟨by rw [← HL.out]; exact (Blk.new_ ks.symm).drew_, (K1.out.alloc _).drew_, (K0.out.alloc _).drew_, (KB.out.alloc (by omega) _).drew⟩
    clear e0 e1 e2 e3 e4 e14 c0 c1 c2 c3 c4 c5 c14 c15
    refine rg_begin (S := fun w' => w'.cell? ⟨w.heap.size, 0, none⟩ = some (.int .u16 x0) ∧ w'.cell? ⟨w.heap.size, 1, none⟩ = some (.int .u16 x1) ∧ w'.cell? ⟨w.heap.size, 2, none⟩ = some (.int .u16 x2) ∧ w'.cell? ⟨w.heap.size, 3, none⟩ = some (.int .u16 x3) ∧ w'.cell? ⟨w.heap.size, 4, none⟩ = some (.int .u16 x4) ∧ w'.cell? ⟨w.heap.size, 5, none⟩ = some (.int .u16 (r 5)) ∧ w'.cell? ⟨w.heap.size, 14, none⟩ = some (.int .u16 x14) ∧ w'.cell? ⟨w.heap.size, 15, none⟩ = some (.int .u16 (r 15))) 26 #[false, false, false, false, false, false, false, false, false, false, false, false, false, false, false, false, false, false, false, false, false, false, false, false, false, false] (by kernel_rfl) (by kernel_rfl) (by kernel_rfl) ?_ (fun hHeld => ?_)
    · exact HS.out
    refine rg_take (i := 0) (d := some 5) (l := #[true, false, false, false, false, false, false, false, false, false, false, false, false, false, false, false, false, false, false, false, false, false, false, false, false, false]) (fuel := 25) (v := ?_) rfl (by kernel_rfl) (by kernel_rfl) (by kernel_rfl) (by kernel_rfl) (by kernel_rfl) (fun _ _ _ h => h) (by kernel_rfl) ?_ (by assumption) ?_
    rotate_left 1
    · (intro wS hSw; (try dsimp only at hSw); go_simp; try with_reducible rfl)
    try simp only [Act.put, List.setIfInBounds_toArray, List.set_cons_zero, List.set_cons_succ]
    refine rg_take (i := 1) (d := some 6) (l := #[true, true, false, false, false, false, false, false, false, false, false, false, false, false, false, false, false, false, false, false, false, false, false, false, false, false]) (fuel := 24) (v := ?_) rfl (by kernel_rfl) (by kernel_rfl) (by kernel_rfl) (by kernel_rfl) (by kernel_rfl) (fun _ _ _ h => h) (by kernel_rfl) ?_ (by assumption) ?_
    rotate_left 1
    · (intro wS hSw; (try dsimp only at hSw); go_simp; try with_reducible rfl)
    try simp only [Act.put, List.setIfInBounds_toArray, List.set_cons_zero, List.set_cons_succ]
    refine rg_take (i := 3) (d := some 8) (l := #[true, true, false, true, false, false, false, false, false, false, false, false, false, false, false, false, false, false, false, false, false, false, false, false, false, false]) (fuel := 23) (v := ?_) rfl (by kernel_rfl) (by kernel_rfl) (by kernel_rfl) (by kernel_rfl) (by kernel_rfl) (fun _ _ _ h => h) (by kernel_rfl) ?_ (by assumption) ?_
    rotate_left 1
    · (intro wS hSw; (try dsimp only at hSw); go_simp; try with_reducible rfl)
    try simp only [Act.put, List.setIfInBounds_toArray, List.set_cons_zero, List.set_cons_succ]
    refine rg_take (i := 4) (d := some 9) (l := #[true, true, false, true, true, false, false, false, false, false, false, false, false, false, false, false, false, false, false, false, false, false, false, false, false, false]) (fuel := 22) (v := ?_) rfl (by kernel_rfl) (by kernel_rfl) (by kernel_rfl) (by kernel_rfl) (by kernel_rfl) (fun _ _ _ h => h) (by kernel_rfl) ?_ (by assumption) ?_
    rotate_left 1
    · (intro wS hSw; (try dsimp only at hSw); go_simp; try with_reducible rfl)
    try simp only [Act.put, List.setIfInBounds_toArray, List.set_cons_zero, List.set_cons_succ]
    refine rg_take (i := 6) (d := some 11) (l := #[true, true, false, true, true, false, true, false, false, false, false, false, false, false, false, false, false, false, false, false, false, false, false, false, false, false]) (fuel := 21) (v := ?_) rfl (by kernel_rfl) (by kernel_rfl) (by kernel_rfl) (by kernel_rfl) (by kernel_rfl) (fun _ _ _ h => h) (by kernel_rfl) ?_ (by assumption) ?_
    rotate_left 1
    · (intro wS hSw; (try dsimp only at hSw); go_simp; try with_reducible rfl)
    try simp only [Act.put, List.setIfInBounds_toArray, List.set_cons_zero, List.set_cons_succ]
    refine rg_take (i := 7) (d := some 12) (l := #[true, true, false, true, true, false, true, true, false, false, false, false, false, false, false, false, false, false, false, false, false, false, false, false, false, false]) (fuel := 20) (v := ?_) rfl (by kernel_rfl) (by kernel_rfl) (by kernel_rfl) (by kernel_rfl) (by kernel_rfl) (fun _ _ _ h => h) (by kernel_rfl) ?_ (by assumption) ?_
    rotate_left 1
    · (intro wS hSw; (try dsimp only at hSw); go_simp; try with_reducible rfl)
    try simp only [Act.put, List.setIfInBounds_toArray, List.set_cons_zero, List.set_cons_succ]
    refine rg_take (i := 9) (d := some 14) (l := #[true, true, false, true, true, false, true, true, false, true, false, false, false, false, false, false, false, false, false, false, false, false, false, false, false, false]) (fuel := 19) (v := ?_) rfl (by kernel_rfl) (by kernel_rfl) (by kernel_rfl) (by kernel_rfl) (by kernel_rfl) (fun _ _ _ h => h) (by kernel_rfl) ?_ (by assumption) ?_
    rotate_left 1
    · (intro wS hSw; (try dsimp only at hSw); go_simp; try with_reducible rfl)
    try simp only [Act.put, List.setIfInBounds_toArray, List.set_cons_zero, List.set_cons_succ]
    refine rg_take (i := 10) (d := some 15) (l := #[true, true, false, true, true, false, true, true, false, true, true, false, false, false, false, false, false, false, false, false, false, false, false, false, false, false]) (fuel := 18) (v := ?_) rfl (by kernel_rfl) (by kernel_rfl) (by kernel_rfl) (by kernel_rfl) (by kernel_rfl) (fun _ _ _ h => h) (by kernel_rfl) ?_ (by assumption) ?_
    rotate_left 1
    · (intro wS hSw; (try dsimp only at hSw); go_simp; try with_reducible rfl)
    try simp only [Act.put, List.setIfInBounds_toArray, List.set_cons_zero, List.set_cons_succ]
    refine rg_take (i := 12) (d := some 17) (l := #[true, true, false, true, true, false, true, true, false, true, true, false, true, false, false, false, false, false, false, false, false, false, false, false, false, false]) (fuel := 17) (v := ?_) rfl (by kernel_rfl) (by kernel_rfl) (by kernel_rfl) (by kernel_rfl) (by kernel_rfl) (fun _ _ _ h => h) (by kernel_rfl) ?_ (by assumption) ?_
    rotate_left 1
    · (intro wS hSw; (try dsimp only at hSw); go_simp; try with_reducible rfl)
    try simp only [Act.put, List.setIfInBounds_toArray, List.set_cons_zero, List.set_cons_succ]
    refine rg_take (i := 13) (d := some 18) (l := #[true, true, false, true, true, false, true, true, false, true, true, false, true, true, false, false, false, false, false, false, false, false, false, false, false, false]) (fuel := 16) (v := ?_) rfl (by kernel_rfl) (by kernel_rfl) (by kernel_rfl) (by kernel_rfl) (by kernel_rfl) (fun _ _ _ h => h) (by kernel_rfl) ?_ (by assumption) ?_
    rotate_left 1
    · (intro wS hSw; (try dsimp only at hSw); go_simp; try with_reducible rfl)
    try simp only [Act.put, List.setIfInBounds_toArray, List.set_cons_zero, List.set_cons_succ]
    refine rg_take (i := 15) (d := some 20) (l := #[true, true, false, true, true, false, true, true, false, true, true, false, true, true, false, true, false, false, false, false, false, false, false, false, false, false]) (fuel := 15) (v := ?_) rfl (by kernel_rfl) (by kernel_rfl) (by kernel_rfl) (by kernel_rfl) (by kernel_rfl) (fun _ _ _ h => h) (by kernel_rfl) ?_ (by assumption) ?_
    rotate_left 1
    · (intro wS hSw; (try dsimp only at hSw); go_simp; try with_reducible rfl)
    try simp only [Act.put, List.setIfInBounds_toArray, List.set_cons_zero, List.set_cons_succ]
    refine rg_take (i := 16) (d := some 21) (l := #[true, true, false, true, true, false, true, true, false, true, true, false, true, true, false, true, true, false, false, false, false, false, false, false, false, false]) (fuel := 14) (v := ?_) rfl (by kernel_rfl) (by kernel_rfl) (by kernel_rfl) (by kernel_rfl) (by kernel_rfl) (fun _ _ _ h => h) (by kernel_rfl) ?_ (by assumption) ?_
    rotate_left 1
    · (intro wS hSw; (try dsimp only at hSw); go_simp; try with_reducible rfl)
    try simp only [Act.put, List.setIfInBounds_toArray, List.set_cons_zero, List.set_cons_succ]
    refine rg_take (i := 17) (d := some 22) (l := #[true, true, false, true, true, false, true, true, false, true, true, false, true, true, false, true, true, true, false, false, false, false, false, false, false, false]) (fuel := 13) (v := ?_) rfl (by kernel_rfl) (by kernel_rfl) (by kernel_rfl) (by kernel_rfl) (by kernel_rfl) (fun _ _ _ h => h) (by kernel_rfl) ?_ (by assumption) ?_
    rotate_left 1
    · (intro wS hSw; (try dsimp only at hSw); go_simp; try with_reducible rfl)
    try simp only [Act.put, List.setIfInBounds_toArray, List.set_cons_zero, List.set_cons_succ]
    refine rg_take (i := 18) (d := some 23) (l := #[true, true, false, true, true, false, true, true, false, true, true, false, true, true, false, true, true, true, true, false, false, false, false, false, false, false]) (fuel := 12) (v := ?_) rfl (by kernel_rfl) (by kernel_rfl) (by kernel_rfl) (by kernel_rfl) (by kernel_rfl) (fun _ _ _ h => h) (by kernel_rfl) ?_ (by assumption) ?_
    rotate_left 1
    · (intro wS hSw; (try dsimp only at hSw); go_simp; try with_reducible rfl)
    try simp only [Act.put, List.setIfInBounds_toArray, List.set_cons_zero, List.set_cons_succ]
    refine rg_take (i := 20) (d := some 25) (l := #[true, true, false, true, true, false, true, true, false, true, true, false, true, true, false, true, true, true, true, false, true, false, false, false, false, false]) (fuel := 11) (v := ?_) rfl (by kernel_rfl) (by kernel_rfl) (by kernel_rfl) (by kernel_rfl) (by kernel_rfl) (fun _ _ _ h => h) (by kernel_rfl) ?_ (by assumption) ?_
    rotate_left 1
    · (intro wS hSw; (try dsimp only at hSw); go_simp; try with_reducible rfl)
    try simp only [Act.put, List.setIfInBounds_toArray, List.set_cons_zero, List.set_cons_succ]
    refine rg_take (i := 21) (d := some 26) (l := #[true, true, false, true, true, false, true, true, false, true, true, false, true, true, false, true, true, true, true, false, true, true, false, false, false, false]) (fuel := 10) (v := ?_) rfl (by kernel_rfl) (by kernel_rfl) (by kernel_rfl) (by kernel_rfl) (by kernel_rfl) (fun _ _ _ h => h) (by kernel_rfl) ?_ (by assumption) ?_
    rotate_left 1
    · (intro wS hSw; (try dsimp only at hSw); go_simp; try with_reducible rfl)
    try simp only [Act.put, List.setIfInBounds_toArray, List.set_cons_zero, List.set_cons_succ]
    refine rg_take (i := 22) (d := some 27) (l := #[true, true, false, true, true, false, true, true, false, true, true, false, true, true, false, true, true, true, true, false, true, true, true, false, false, false]) (fuel := 9) (v := ?_) rfl (by kernel_rfl) (by kernel_rfl) (by kernel_rfl) (by kernel_rfl) (by kernel_rfl) (fun _ _ _ h => h) (by kernel_rfl) ?_ (by assumption) ?_
    rotate_left 1
    · (intro wS hSw; (try dsimp only at hSw); go_simp; try with_reducible rfl)
    try simp only [Act.put, List.setIfInBounds_toArray, List.set_cons_zero, List.set_cons_succ]
    refine rg_of (rs := [2, 24]) (fuel := 8) (by kernel_rfl) rfl ?_
    refine rg_step (i := 2) (l := #[true, true, true, true, true, false, true, true, false, true, true, false, true, true, false, true, true, true, true, false, true, true, true, false, false, false]) rfl (by kernel_rfl) (by kernel_rfl) ?_ ?_
    · intro K hK
      go_simp
      go_at_call 24
      refine (slo_any x0 b0.1 b0.2 _).mono ?_
      rintro e w' ⟨rfl, rfl⟩
      first | (refine hK.out _ _ ?_ (fun hHeld => ?_)) | (go_wp2_with fail; refine hK.out _ _ ?_ (fun hHeld => ?_))
      · (try dsimp only); exact HS.out
      clear hK K
      try simp only [Act.put, List.setIfInBounds_toArray, List.set_cons_zero, List.set_cons_succ]
      refine rg_of (rs := [5, 24]) (fuel := 7) (by kernel_rfl) rfl ?_
      refine rg_step (i := 5) (l := #[true, true, true, true, true, true, true, true, false, true, true, false, true, true, false, true, true, true, true, false, true, true, true, false, false, false]) rfl (by kernel_rfl) (by kernel_rfl) ?_ ?_
      · intro K hK
        go_simp
        go_at_call 24
        refine (slo_any x1 b1.1 b1.2 _).mono ?_
        rintro e w' ⟨rfl, rfl⟩
        first | (refine hK.out _ _ ?_ (fun hHeld => ?_)) | (go_wp2_with fail; refine hK.out _ _ ?_ (fun hHeld => ?_))
        · (try dsimp only); exact HS.out
        clear hK K
        try simp only [Act.put, List.setIfInBounds_toArray, List.set_cons_zero, List.set_cons_succ]
        refine rg_of (rs := [8, 24]) (fuel := 6) (by kernel_rfl) rfl ?_
        refine rg_step (i := 8) (l := #[true, true, true, true, true, true, true, true, true, true, true, false, true, true, false, true, true, true, true, false, true, true, true, false, false, false]) rfl (by kernel_rfl) (by kernel_rfl) ?_ ?_
        · intro K hK
          go_simp
          go_at_call 24
          refine (slo_any x2 b2.1 b2.2 _).mono ?_
          rintro e w' ⟨rfl, rfl⟩
          first | (refine hK.out _ _ ?_ (fun hHeld => ?_)) | (go_wp2_with fail; refine hK.out _ _ ?_ (fun hHeld => ?_))
          · (try dsimp only); exact HS.out
          clear hK K
          try simp only [Act.put, List.setIfInBounds_toArray, List.set_cons_zero, List.set_cons_succ]
          refine rg_of (rs := [11, 24]) (fuel := 5) (by kernel_rfl) rfl ?_
          refine rg_step (i := 11) (l := #[true, true, true, true, true, true, true, true, true, true, true, true, true, true, false, true, true, true, true, false, true, true, true, false, false, false]) rfl (by kernel_rfl) (by kernel_rfl) ?_ ?_
          · intro K hK
            go_simp
            go_at_call 24
            refine (slo_any x3 b3.1 b3.2 _).mono ?_
            rintro e w' ⟨rfl, rfl⟩
            first | (refine hK.out _ _ ?_ (fun hHeld => ?_)) | (go_wp2_with fail; refine hK.out _ _ ?_ (fun hHeld => ?_))
            · (try dsimp only); exact HS.out
            clear hK K
            try simp only [Act.put, List.setIfInBounds_toArray, List.set_cons_zero, List.set_cons_succ]
            refine rg_of (rs := [14, 24]) (fuel := 4) (by kernel_rfl) rfl ?_
            refine rg_step (i := 14) (l := #[true, true, true, true, true, true, true, true, true, true, true, true, true, true, true, true, true, true, true, false, true, true, true, false, false, false]) rfl (by kernel_rfl) (by kernel_rfl) ?_ ?_
            · intro K hK
              go_simp
              go_at_call 24
              refine (slo_any x4 b4.1 b4.2 _).mono ?_
              rintro e w' ⟨rfl, rfl⟩
              first | (refine hK.out _ _ ?_ (fun hHeld => ?_)) | (go_wp2_with fail; refine hK.out _ _ ?_ (fun hHeld => ?_))
              · (try dsimp only); exact HS.out
              clear hK K
              try simp only [Act.put, List.setIfInBounds_toArray, List.set_cons_zero, List.set_cons_succ]
              refine rg_of (rs := [19, 24]) (fuel := 3) (by kernel_rfl) rfl ?_
              refine rg_step (i := 19) (l := #[true, true, true, true, true, true, true, true, true, true, true, true, true, true, true, true, true, true, true, true, true, true, true, false, false, false]) rfl (by kernel_rfl) (by kernel_rfl) ?_ ?_
              · intro K hK
                go_simp
                go_at_call 24
                refine (slo_any x14 b14.1 b14.2 _).mono ?_
                rintro e w' ⟨rfl, rfl⟩
                first | (refine hK.out _ _ ?_ (fun hHeld => ?_)) | (go_wp2_with fail; refine hK.out _ _ ?_ (fun hHeld => ?_))
                · (try dsimp only); exact HS.out
                clear hK K
                try simp only [Act.put, List.setIfInBounds_toArray, List.set_cons_zero, List.set_cons_succ]
                refine rg_take (i := 23) (d := some 28) (l := #[true, true, true, true, true, true, true, true, true, true, true, true, true, true, true, true, true, true, true, true, true, true, true, true, false, false]) (fuel := 2) (v := ?_) rfl (by kernel_rfl) (by kernel_rfl) (by kernel_rfl) (by kernel_rfl) (by kernel_rfl) (fun _ _ _ h => h) (by kernel_rfl) ?_ (by assumption) ?_
                rotate_left 1
                · (intro wS hSw; (try dsimp only at hSw); go_simp; try with_reducible rfl)
                try simp only [Act.put, List.setIfInBounds_toArray, List.set_cons_zero, List.set_cons_succ]
                refine rg_next (i := 24) (l := #[true, true, true, true, true, true, true, true, true, true, true, true, true, true, true, true, true, true, true, true, true, true, true, true, true, false]) (fuel := 1) (by kernel_rfl) rfl (by kernel_rfl) (by kernel_rfl) (fun K hK => ?_)
                go_simp
                skip
                first | (refine hK.out _ _ ?_ (fun hHeld => ?_)) | (go_wp2_with fail; refine hK.out _ _ ?_ (fun hHeld => ?_))
                · (try dsimp only); exact HSA.out
                clear hK K
                try simp only [Act.put, List.setIfInBounds_toArray, List.set_cons_zero, List.set_cons_succ]
                refine rg_next (i := 25) (l := #[true, true, true, true, true, true, true, true, true, true, true, true, true, true, true, true, true, true, true, true, true, true, true, true, true, true]) (fuel := 0) (by kernel_rfl) rfl (by kernel_rfl) (by kernel_rfl) (fun K hK => ?_)
                go_simp
                skip
                first | (refine hK.out _ _ ?_ (fun hHeld => ?_)) | (go_wp2_with fail; refine hK.out _ _ ?_ (fun hHeld => ?_))
                · (try dsimp only); exact HSE.out
                clear hK K
                try simp only [Act.put, List.setIfInBounds_toArray, List.set_cons_zero, List.set_cons_succ]
                refine wpAnyH_done (by kernel_rfl) ?_ _
                clear hHeld
                (go_wp2_with fail; go_meet; case rel => exact ⟨by rw [← ks], HZ.out⟩)
              refine rg_step (i := 24) (l := #[true, true, true, true, true, true, true, true, true, true, true, true, true, true, true, true, true, true, true, false, true, true, true, false, true, false]) rfl (by kernel_rfl) (by kernel_rfl) ?_ ?_
              · intro K hK
                go_simp
                skip
                first | (refine hK.out _ _ ?_ (fun hHeld => ?_)) | (go_wp2_with fail; refine hK.out _ _ ?_ (fun hHeld => ?_))
                · (try dsimp only); exact HSA.out
                clear hK K
                try simp only [Act.put, List.setIfInBounds_toArray, List.set_cons_zero, List.set_cons_succ]
                refine rg_next (i := 19) (l := #[true, true, true, true, true, true, true, true, true, true, true, true, true, true, true, true, true, true, true, true, true, true, true, false, true, false]) (fuel := 2) (by kernel_rfl) rfl (by kernel_rfl) (by kernel_rfl) (fun K hK => ?_)
                go_simp
                go_at_call 24
                refine (slo_any x14 b14.1 b14.2 _).mono ?_
                rintro e w' ⟨rfl, rfl⟩
                first | (refine hK.out _ _ ?_ (fun hHeld => ?_)) | (go_wp2_with fail; refine hK.out _ _ ?_ (fun hHeld => ?_))
                · (try dsimp only); exact HSA.out
                clear hK K
                try simp only [Act.put, List.setIfInBounds_toArray, List.set_cons_zero, List.set_cons_succ]
                refine rg_take (i := 23) (d := some 28) (l := #[true, true, true, true, true, true, true, true, true, true, true, true, true, true, true, true, true, true, true, true, true, true, true, true, true, false]) (fuel := 1) (v := ?_) rfl (by kernel_rfl) (by kernel_rfl) (by kernel_rfl) (by kernel_rfl) (by kernel_rfl) (fun _ _ _ h => h) (by kernel_rfl) ?_ (by assumption) ?_
                rotate_left 1
                · (intro wS hSw; (try dsimp only at hSw); go_simp; try with_reducible rfl)
                try simp only [Act.put, List.setIfInBounds_toArray, List.set_cons_zero, List.set_cons_succ]
                refine rg_next (i := 25) (l := #[true, true, true, true, true, true, true, true, true, true, true, true, true, true, true, true, true, true, true, true, true, true, true, true, true, true]) (fuel := 0) (by kernel_rfl) rfl (by kernel_rfl) (by kernel_rfl) (fun K hK => ?_)
                go_simp
                skip
                first | (refine hK.out _ _ ?_ (fun hHeld => ?_)) | (go_wp2_with fail; refine hK.out _ _ ?_ (fun hHeld => ?_))
                · (try dsimp only); exact HSE.out
                clear hK K
                try simp only [Act.put, List.setIfInBounds_toArray, List.set_cons_zero, List.set_cons_succ]
                refine wpAnyH_done (by kernel_rfl) ?_ _
                clear hHeld
                (go_wp2_with fail; go_meet; case rel => exact ⟨by rw [← ks], HZ.out⟩)
              exact AllReadyH.nil
            refine rg_step (i := 24) (l := #[true, true, true, true, true, true, true, true, true, true, true, true, true, true, false, true, true, true, true, false, true, true, true, false, true, false]) rfl (by kernel_rfl) (by kernel_rfl) ?_ ?_
            · intro K hK
              go_simp
              skip
              first | (refine hK.out _ _ ?_ (fun hHeld => ?_)) | (go_wp2_with fail; refine hK.out _ _ ?_ (fun hHeld => ?_))
              · (try dsimp only); exact HSA.out
              clear hK K
              try simp only [Act.put, List.setIfInBounds_toArray, List.set_cons_zero, List.set_cons_succ]
              refine rg_next (i := 14) (l := #[true, true, true, true, true, true, true, true, true, true, true, true, true, true, true, true, true, true, true, false, true, true, true, false, true, false]) (fuel := 3) (by kernel_rfl) rfl (by kernel_rfl) (by kernel_rfl) (fun K hK => ?_)
              go_simp
              go_at_call 24
              refine (slo_any x4 b4.1 b4.2 _).mono ?_
              rintro e w' ⟨rfl, rfl⟩
              first | (refine hK.out _ _ ?_ (fun hHeld => ?_)) | (go_wp2_with fail; refine hK.out _ _ ?_ (fun hHeld => ?_))
              · (try dsimp only); exact HSA.out
              clear hK K
              try simp only [Act.put, List.setIfInBounds_toArray, List.set_cons_zero, List.set_cons_succ]
              refine rg_next (i := 19) (l := #[true, true, true, true, true, true, true, true, true, true, true, true, true, true, true, true, true, true, true, true, true, true, true, false, true, false]) (fuel := 2) (by kernel_rfl) rfl (by kernel_rfl) (by kernel_rfl) (fun K hK => ?_)
              go_simp
              go_at_call 24
              refine (slo_any x14 b14.1 b14.2 _).mono ?_
              rintro e w' ⟨rfl, rfl⟩
              first | (refine hK.out _ _ ?_ (fun hHeld => ?_)) | (go_wp2_with fail; refine hK.out _ _ ?_ (fun hHeld => ?_))
              · (try dsimp only); exact HSA.out
              clear hK K
              try simp only [Act.put, List.setIfInBounds_toArray, List.set_cons_zero, List.set_cons_succ]
              refine rg_take (i := 23) (d := some 28) (l := #[true, true, true, true, true, true, true, true, true, true, true, true, true, true, true, true, true, true, true, true, true, true, true, true, true, false]) (fuel := 1) (v := ?_) rfl (by kernel_rfl) (by kernel_rfl) (by kernel_rfl) (by kernel_rfl) (by kernel_rfl) (fun _ _ _ h => h) (by kernel_rfl) ?_ (by assumption) ?_
              rotate_left 1
              · (intro wS hSw; (try dsimp only at hSw); go_simp; try with_reducible rfl)
              try simp only [Act.put, List.setIfInBounds_toArray, List.set_cons_zero, List.set_cons_succ]
              refine rg_next (i := 25) (l := #[true, true, true, true, true, true, true, true, true, true, true, true, true, true, true, true, true, true, true, true, true, true, true, true, true, true]) (fuel := 0) (by kernel_rfl) rfl (by kernel_rfl) (by kernel_rfl) (fun K hK => ?_)
              go_simp
              skip
              first | (refine hK.out _ _ ?_ (fun hHeld => ?_)) | (go_wp2_with fail; refine hK.out _ _ ?_ (fun hHeld => ?_))
              · (try dsimp only); exact HSE.out
              clear hK K
              try simp only [Act.put, List.setIfInBounds_toArray, List.set_cons_zero, List.set_cons_succ]
              refine wpAnyH_done (by kernel_rfl) ?_ _
              clear hHeld
              (go_wp2_with fail; go_meet; case rel => exact ⟨by rw [← ks], HZ.out⟩)
            exact AllReadyH.nil
          refine rg_step (i := 24) (l := #[true, true, true, true, true, true, true, true, true, true, true, false, true, true, false, true, true, true, true, false, true, true, true, false, true, false]) rfl (by kernel_rfl) (by kernel_rfl) ?_ ?_
          · intro K hK
            go_simp
            skip
            first | (refine hK.out _ _ ?_ (fun hHeld => ?_)) | (go_wp2_with fail; refine hK.out _ _ ?_ (fun hHeld => ?_))
            · (try dsimp only); exact HSA.out
            clear hK K
            try simp only [Act.put, List.setIfInBounds_toArray, List.set_cons_zero, List.set_cons_succ]
            refine rg_next (i := 11) (l := #[true, true, true, true, true, true, true, true, true, true, true, true, true, true, false, true, true, true, true, false, true, true, true, false, true, false]) (fuel := 4) (by kernel_rfl) rfl (by kernel_rfl) (by kernel_rfl) (fun K hK => ?_)
            go_simp
            go_at_call 24
            refine (slo_any x3 b3.1 b3.2 _).mono ?_
            rintro e w' ⟨rfl, rfl⟩
            first | (refine hK.out _ _ ?_ (fun hHeld => ?_)) | (go_wp2_with fail; refine hK.out _ _ ?_ (fun hHeld => ?_))
            · (try dsimp only); exact HSA.out
            clear hK K
            try simp only [Act.put, List.setIfInBounds_toArray, List.set_cons_zero, List.set_cons_succ]
            refine rg_next (i := 14) (l := #[true, true, true, true, true, true, true, true, true, true, true, true, true, true, true, true, true, true, true, false, true, true, true, false, true, false]) (fuel := 3) (by kernel_rfl) rfl (by kernel_rfl) (by kernel_rfl) (fun K hK => ?_)
            go_simp
            go_at_call 24
            refine (slo_any x4 b4.1 b4.2 _).mono ?_
            rintro e w' ⟨rfl, rfl⟩
            first | (refine hK.out _ _ ?_ (fun hHeld => ?_)) | (go_wp2_with fail; refine hK.out _ _ ?_ (fun hHeld => ?_))
            · (try dsimp only); exact HSA.out
            clear hK K
            try simp only [Act.put, List.setIfInBounds_toArray, List.set_cons_zero, List.set_cons_succ]
            refine rg_next (i := 19) (l := #[true, true, true, true, true, true, true, true, true, true, true, true, true, true, true, true, true, true, true, true, true, true, true, false, true, false]) (fuel := 2) (by kernel_rfl) rfl (by kernel_rfl) (by kernel_rfl) (fun K hK => ?_)
            go_simp
            go_at_call 24
            refine (slo_any x14 b14.1 b14.2 _).mono ?_
            rintro e w' ⟨rfl, rfl⟩
            first | (refine hK.out _ _ ?_ (fun hHeld => ?_)) | (go_wp2_with fail; refine hK.out _ _ ?_ (fun hHeld => ?_))
            · (try dsimp only); exact HSA.out
            clear hK K
            try simp only [Act.put, List.setIfInBounds_toArray, List.set_cons_zero, List.set_cons_succ]
            refine rg_take (i := 23) (d := some 28) (l := #[true, true, true, true, true, true, true, true, true, true, true, true, true, true, true, true, true, true, true, true, true, true, true, true, true, false]) (fuel := 1) (v := ?_) rfl (by kernel_rfl) (by kernel_rfl) (by kernel_rfl) (by kernel_rfl) (by kernel_rfl) (fun _ _ _ h => h) (by kernel_rfl) ?_ (by assumption) ?_
            rotate_left 1
            · (intro wS hSw; (try dsimp only at hSw); go_simp; try with_reducible rfl)
            try simp only [Act.put, List.setIfInBounds_toArray, List.set_cons_zero, List.set_cons_succ]
            refine rg_next (i := 25) (l := #[true, true, true, true, true, true, true, true, true, true, true, true, true, true, true, true, true, true, true, true, true, true, true, true, true, true]) (fuel := 0) (by kernel_rfl) rfl (by kernel_rfl) (by kernel_rfl) (fun K hK => ?_)
            go_simp
            skip
            first | (refine hK.out _ _ ?_ (fun hHeld => ?_)) | (go_wp2_with fail; refine hK.out _ _ ?_ (fun hHeld => ?_))
            · (try dsimp only); exact HSE.out
            clear hK K
            try simp only [Act.put, List.setIfInBounds_toArray, List.set_cons_zero, List.set_cons_succ]
            refine wpAnyH_done (by kernel_rfl) ?_ _
            clear hHeld
            (go_wp2_with fail; go_meet; case rel => exact ⟨by rw [← ks], HZ.out⟩)
          exact AllReadyH.nil
        refine rg_step (i := 24) (l := #[true, true, true, true, true, true, true, true, false, true, true, false, true, true, false, true, true, true, true, false, true, true, true, false, true, false]) rfl (by kernel_rfl) (by kernel_rfl) ?_ ?_
        · intro K hK
          go_simp
          skip
          first | (refine hK.out _ _ ?_ (fun hHeld => ?_)) | (go_wp2_with fail; refine hK.out _ _ ?_ (fun hHeld => ?_))
          · (try dsimp only); exact HSA.out
          clear hK K
          try simp only [Act.put, List.setIfInBounds_toArray, List.set_cons_zero, List.set_cons_succ]
          refine rg_next (i := 8) (l := #[true, true, true, true, true, true, true, true, true, true, true, false, true, true, false, true, true, true, true, false, true, true, true, false, true, false]) (fuel := 5) (by kernel_rfl) rfl (by kernel_rfl) (by kernel_rfl) (fun K hK => ?_)
          go_simp
          go_at_call 24
          refine (slo_any x2 b2.1 b2.2 _).mono ?_
          rintro e w' ⟨rfl, rfl⟩
          first | (refine hK.out _ _ ?_ (fun hHeld => ?_)) | (go_wp2_with fail; refine hK.out _ _ ?_ (fun hHeld => ?_))
          · (try dsimp only); exact HSA.out
          clear hK K
          try simp only [Act.put, List.setIfInBounds_toArray, List.set_cons_zero, List.set_cons_succ]
          refine rg_next (i := 11) (l := #[true, true, true, true, true, true, true, true, true, true, true, true, true, true, false, true, true, true, true, false, true, true, true, false, true, false]) (fuel := 4) (by kernel_rfl) rfl (by kernel_rfl) (by kernel_rfl) (fun K hK => ?_)
          go_simp
          go_at_call 24
          refine (slo_any x3 b3.1 b3.2 _).mono ?_
          rintro e w' ⟨rfl, rfl⟩
          first | (refine hK.out _ _ ?_ (fun hHeld => ?_)) | (go_wp2_with fail; refine hK.out _ _ ?_ (fun hHeld => ?_))
          · (try dsimp only); exact HSA.out
          clear hK K
          try simp only [Act.put, List.setIfInBounds_toArray, List.set_cons_zero, List.set_cons_succ]
          refine rg_next (i := 14) (l := #[true, true, true, true, true, true, true, true, true, true, true, true, true, true, true, true, true, true, true, false, true, true, true, false, true, false]) (fuel := 3) (by kernel_rfl) rfl (by kernel_rfl) (by kernel_rfl) (fun K hK => ?_)
          go_simp
          go_at_call 24
          refine (slo_any x4 b4.1 b4.2 _).mono ?_
          rintro e w' ⟨rfl, rfl⟩
          first | (refine hK.out _ _ ?_ (fun hHeld => ?_)) | (go_wp2_with fail; refine hK.out _ _ ?_ (fun hHeld => ?_))
          · (try dsimp only); exact HSA.out
          clear hK K
          try simp only [Act.put, List.setIfInBounds_toArray, List.set_cons_zero, List.set_cons_succ]
          refine rg_next (i := 19) (l := #[true, true, true, true, true, true, true, true, true, true, true, true, true, true, true, true, true, true, true, true, true, true, true, false, true, false]) (fuel := 2) (by kernel_rfl) rfl (by kernel_rfl) (by kernel_rfl) (fun K hK => ?_)
          go_simp
          go_at_call 24
          refine (slo_any x14 b14.1 b14.2 _).mono ?_
          rintro e w' ⟨rfl, rfl⟩
          first | (refine hK.out _ _ ?_ (fun hHeld => ?_)) | (go_wp2_with fail; refine hK.out _ _ ?_ (fun hHeld => ?_))
          · (try dsimp only); exact HSA.out
          clear hK K
          try simp only [Act.put, List.setIfInBounds_toArray, List.set_cons_zero, List.set_cons_succ]
          refine rg_take (i := 23) (d := some 28) (l := #[true, true, true, true, true, true, true, true, true, true, true, true, true, true, true, true, true, true, true, true, true, true, true, true, true, false]) (fuel := 1) (v := ?_) rfl (by kernel_rfl) (by kernel_rfl) (by kernel_rfl) (by kernel_rfl) (by kernel_rfl) (fun _ _ _ h => h) (by kernel_rfl) ?_ (by assumption) ?_
          rotate_left 1
          · (intro wS hSw; (try dsimp only at hSw); go_simp; try with_reducible rfl)
          try simp only [Act.put, List.setIfInBounds_toArray, List.set_cons_zero, List.set_cons_succ]
          refine rg_next (i := 25) (l := #[true, true, true, true, true, true, true, true, true, true, true, true, true, true, true, true, true, true, true, true, true, true, true, true, true, true]) (fuel := 0) (by kernel_rfl) rfl (by kernel_rfl) (by kernel_rfl) (fun K hK => ?_)
          go_simp
          skip
          first | (refine hK.out _ _ ?_ (fun hHeld => ?_)) | (go_wp2_with fail; refine hK.out _ _ ?_ (fun hHeld => ?_))
          · (try dsimp only); exact HSE.out
          clear hK K
          try simp only [Act.put, List.setIfInBounds_toArray, List.set_cons_zero, List.set_cons_succ]
          refine wpAnyH_done (by kernel_rfl) ?_ _
          clear hHeld
          (go_wp2_with fail; go_meet; case rel => exact ⟨by rw [← ks], HZ.out⟩)
        exact AllReadyH.nil
      refine rg_step (i := 24) (l := #[true, true, true, true, true, false, true, true, false, true, true, false, true, true, false, true, true, true, true, false, true, true, true, false, true, false]) rfl (by kernel_rfl) (by kernel_rfl) ?_ ?_
      · intro K hK
        go_simp
        skip
        first | (refine hK.out _ _ ?_ (fun hHeld => ?_)) | (go_wp2_with fail; refine hK.out _ _ ?_ (fun hHeld => ?_))
        · (try dsimp only); exact HSA.out
        clear hK K
        try simp only [Act.put, List.setIfInBounds_toArray, List.set_cons_zero, List.set_cons_succ]
        refine rg_next (i := 5) (l := #[true, true, true, true, true, true, true, true, false, true, true, false, true, true, false, true, true, true, true, false, true, true, true, false, true, false]) (fuel := 6) (by kernel_rfl) rfl (by kernel_rfl) (by kernel_rfl) (fun K hK => ?_)
        go_simp
        go_at_call 24
        refine (slo_any x1 b1.1 b1.2 _).mono ?_
        rintro e w' ⟨rfl, rfl⟩
        first | (refine hK.out _ _ ?_ (fun hHeld => ?_)) | (go_wp2_with fail; refine hK.out _ _ ?_ (fun hHeld => ?_))
        · (try dsimp only); exact HSA.out
        clear hK K
        try simp only [Act.put, List.setIfInBounds_toArray, List.set_cons_zero, List.set_cons_succ]
        refine rg_next (i := 8) (l := #[true, true, true, true, true, true, true, true, true, true, true, false, true, true, false, true, true, true, true, false, true, true, true, false, true, false]) (fuel := 5) (by kernel_rfl) rfl (by kernel_rfl) (by kernel_rfl) (fun K hK => ?_)
        go_simp
        go_at_call 24
        refine (slo_any x2 b2.1 b2.2 _).mono ?_
        rintro e w' ⟨rfl, rfl⟩
        first | (refine hK.out _ _ ?_ (fun hHeld => ?_)) | (go_wp2_with fail; refine hK.out _ _ ?_ (fun hHeld => ?_))
        · (try dsimp only); exact HSA.out
        clear hK K
        try simp only [Act.put, List.setIfInBounds_toArray, List.set_cons_zero, List.set_cons_succ]
        refine rg_next (i := 11) (l := #[true, true, true, true, true, true, true, true, true, true, true, true, true, true, false, true, true, true, true, false, true, true, true, false, true, false]) (fuel := 4) (by kernel_rfl) rfl (by kernel_rfl) (by kernel_rfl) (fun K hK => ?_)
        go_simp
        go_at_call 24
        refine (slo_any x3 b3.1 b3.2 _).mono ?_
        rintro e w' ⟨rfl, rfl⟩
        first | (refine hK.out _ _ ?_ (fun hHeld => ?_)) | (go_wp2_with fail; refine hK.out _ _ ?_ (fun hHeld => ?_))
        · (try dsimp only); exact HSA.out
        clear hK K
        try simp only [Act.put, List.setIfInBounds_toArray, List.set_cons_zero, List.set_cons_succ]
        refine rg_next (i := 14) (l := #[true, true, true, true, true, true, true, true, true, true, true, true, true, true, true, true, true, true, true, false, true, true, true, false, true, false]) (fuel := 3) (by kernel_rfl) rfl (by kernel_rfl) (by kernel_rfl) (fun K hK => ?_)
        go_simp
        go_at_call 24
        refine (slo_any x4 b4.1 b4.2 _).mono ?_
        rintro e w' ⟨rfl, rfl⟩
        first | (refine hK.out _ _ ?_ (fun hHeld => ?_)) | (go_wp2_with fail; refine hK.out _ _ ?_ (fun hHeld => ?_))
        · (try dsimp only); exact HSA.out
        clear hK K
        try simp only [Act.put, List.setIfInBounds_toArray, List.set_cons_zero, List.set_cons_succ]
        refine rg_next (i := 19) (l := #[true, true, true, true, true, true, true, true, true, true, true, true, true, true, true, true, true, true, true, true, true, true, true, false, true, false]) (fuel := 2) (by kernel_rfl) rfl (by kernel_rfl) (by kernel_rfl) (fun K hK => ?_)
        go_simp
        go_at_call 24
        refine (slo_any x14 b14.1 b14.2 _).mono ?_
        rintro e w' ⟨rfl, rfl⟩
        first | (refine hK.out _ _ ?_ (fun hHeld => ?_)) | (go_wp2_with fail; refine hK.out _ _ ?_ (fun hHeld => ?_))
        · (try dsimp only); exact HSA.out
        clear hK K
        try simp only [Act.put, List.setIfInBounds_toArray, List.set_cons_zero, List.set_cons_succ]
        refine rg_take (i := 23) (d := some 28) (l := #[true, true, true, true, true, true, true, true, true, true, true, true, true, true, true, true, true, true, true, true, true, true, true, true, true, false]) (fuel := 1) (v := ?_) rfl (by kernel_rfl) (by kernel_rfl) (by kernel_rfl) (by kernel_rfl) (by kernel_rfl) (fun _ _ _ h => h) (by kernel_rfl) ?_ (by assumption) ?_
        rotate_left 1
        · (intro wS hSw; (try dsimp only at hSw); go_simp; try with_reducible rfl)
        try simp only [Act.put, List.setIfInBounds_toArray, List.set_cons_zero, List.set_cons_succ]
        refine rg_next (i := 25) (l := #[true, true, true, true, true, true, true, true, true, true, true, true, true, true, true, true, true, true, true, true, true, true, true, true, true, true]) (fuel := 0) (by kernel_rfl) rfl (by kernel_rfl) (by kernel_rfl) (fun K hK => ?_)
        go_simp
        skip
        first | (refine hK.out _ _ ?_ (fun hHeld => ?_)) | (go_wp2_with fail; refine hK.out _ _ ?_ (fun hHeld => ?_))
        · (try dsimp only); exact HSE.out
        clear hK K
        try simp only [Act.put, List.setIfInBounds_toArray, List.set_cons_zero, List.set_cons_succ]
        refine wpAnyH_done (by kernel_rfl) ?_ _
        clear hHeld
        (go_wp2_with fail; go_meet; case rel => exact ⟨by rw [← ks], HZ.out⟩)
      exact AllReadyH.nil
    refine rg_step (i := 24) (l := #[true, true, false, true, true, false, true, true, false, true, true, false, true, true, false, true, true, true, true, false, true, true, true, false, true, false]) rfl (by kernel_rfl) (by kernel_rfl) ?_ ?_
    · intro K hK
      go_simp
      skip
      first | (refine hK.out _ _ ?_ (fun hHeld => ?_)) | (go_wp2_with fail; refine hK.out _ _ ?_ (fun hHeld => ?_))
      · (try dsimp only); exact HSA.out
      clear hK K
      try simp only [Act.put, List.setIfInBounds_toArray, List.set_cons_zero, List.set_cons_succ]
      refine rg_next (i := 2) (l := #[true, true, true, true, true, false, true, true, false, true, true, false, true, true, false, true, true, true, true, false, true, true, true, false, true, false]) (fuel := 7) (by kernel_rfl) rfl (by kernel_rfl) (by kernel_rfl) (fun K hK => ?_)
      go_simp
      go_at_call 24
      refine (slo_any x0 b0.1 b0.2 _).mono ?_
      rintro e w' ⟨rfl, rfl⟩
      first | (refine hK.out _ _ ?_ (fun hHeld => ?_)) | (go_wp2_with fail; refine hK.out _ _ ?_ (fun hHeld => ?_))
      · (try dsimp only); exact HSA.out
      clear hK K
      try simp only [Act.put, List.setIfInBounds_toArray, List.set_cons_zero, List.set_cons_succ]
      refine rg_next (i := 5) (l := #[true, true, true, true, true, true, true, true, false, true, true, false, true, true, false, true, true, true, true, false, true, true, true, false, true, false]) (fuel := 6) (by kernel_rfl) rfl (by kernel_rfl) (by kernel_rfl) (fun K hK => ?_)
      go_simp
      go_at_call 24
      refine (slo_any x1 b1.1 b1.2 _).mono ?_
      rintro e w' ⟨rfl, rfl⟩
      first | (refine hK.out _ _ ?_ (fun hHeld => ?_)) | (go_wp2_with fail; refine hK.out _ _ ?_ (fun hHeld => ?_))
      · (try dsimp only); exact HSA.out
      clear hK K
      try simp only [Act.put, List.setIfInBounds_toArray, List.set_cons_zero, List.set_cons_succ]
      refine rg_next (i := 8) (l := #[true, true, true, true, true, true, true, true, true, true, true, false, true, true, false, true, true, true, true, false, true, true, true, false, true, false]) (fuel := 5) (by kernel_rfl) rfl (by kernel_rfl) (by kernel_rfl) (fun K hK => ?_)
      go_simp
      go_at_call 24
      refine (slo_any x2 b2.1 b2.2 _).mono ?_
      rintro e w' ⟨rfl, rfl⟩
      first | (refine hK.out _ _ ?_ (fun hHeld => ?_)) | (go_wp2_with fail; refine hK.out _ _ ?_ (fun hHeld => ?_))
      · (try dsimp only); exact HSA.out
      clear hK K
      try simp only [Act.put, List.setIfInBounds_toArray, List.set_cons_zero, List.set_cons_succ]
      refine rg_next (i := 11) (l := #[true, true, true, true, true, true, true, true, true, true, true, true, true, true, false, true, true, true, true, false, true, true, true, false, true, false]) (fuel := 4) (by kernel_rfl) rfl (by kernel_rfl) (by kernel_rfl) (fun K hK => ?_)
      go_simp
      go_at_call 24
      refine (slo_any x3 b3.1 b3.2 _).mono ?_
      rintro e w' ⟨rfl, rfl⟩
      first | (refine hK.out _ _ ?_ (fun hHeld => ?_)) | (go_wp2_with fail; refine hK.out _ _ ?_ (fun hHeld => ?_))
      · (try dsimp only); exact HSA.out
      clear hK K
      try simp only [Act.put, List.setIfInBounds_toArray, List.set_cons_zero, List.set_cons_succ]
      refine rg_next (i := 14) (l := #[true, true, true, true, true, true, true, true, true, true, true, true, true, true, true, true, true, true, true, false, true, true, true, false, true, false]) (fuel := 3) (by kernel_rfl) rfl (by kernel_rfl) (by kernel_rfl) (fun K hK => ?_)
      go_simp
      go_at_call 24
      refine (slo_any x4 b4.1 b4.2 _).mono ?_
      rintro e w' ⟨rfl, rfl⟩
      first | (refine hK.out _ _ ?_ (fun hHeld => ?_)) | (go_wp2_with fail; refine hK.out _ _ ?_ (fun hHeld => ?_))
      · (try dsimp only); exact HSA.out
      clear hK K
      try simp only [Act.put, List.setIfInBounds_toArray, List.set_cons_zero, List.set_cons_succ]
      refine rg_next (i := 19) (l := #[true, true, true, true, true, true, true, true, true, true, true, true, true, true, true, true, true, true, true, true, true, true, true, false, true, false]) (fuel := 2) (by kernel_rfl) rfl (by kernel_rfl) (by kernel_rfl) (fun K hK => ?_)
      go_simp
      go_at_call 24
      refine (slo_any x14 b14.1 b14.2 _).mono ?_
      rintro e w' ⟨rfl, rfl⟩
      first | (refine hK.out _ _ ?_ (fun hHeld => ?_)) | (go_wp2_with fail; refine hK.out _ _ ?_ (fun hHeld => ?_))
      · (try dsimp only); exact HSA.out
      clear hK K
      try simp only [Act.put, List.setIfInBounds_toArray, List.set_cons_zero, List.set_cons_succ]
      refine rg_take (i := 23) (d := some 28) (l := #[true, true, true, true, true, true, true, true, true, true, true, true, true, true, true, true, true, true, true, true, true, true, true, true, true, false]) (fuel := 1) (v := ?_) rfl (by kernel_rfl) (by kernel_rfl) (by kernel_rfl) (by kernel_rfl) (by kernel_rfl) (fun _ _ _ h => h) (by kernel_rfl) ?_ (by assumption) ?_
      rotate_left 1
      · (intro wS hSw; (try dsimp only at hSw); go_simp; try with_reducible rfl)
      try simp only [Act.put, List.setIfInBounds_toArray, List.set_cons_zero, List.set_cons_succ]
      refine rg_next (i := 25) (l := #[true, true, true, true, true, true, true, true, true, true, true, true, true, true, true, true, true, true, true, true, true, true, true, true, true, true]) (fuel := 0) (by kernel_rfl) rfl (by kernel_rfl) (by kernel_rfl) (fun K hK => ?_)
      go_simp
      skip
      first | (refine hK.out _ _ ?_ (fun hHeld => ?_)) | (go_wp2_with fail; refine hK.out _ _ ?_ (fun hHeld => ?_))
      · (try dsimp only); exact HSE.out
      clear hK K
      try simp only [Act.put, List.setIfInBounds_toArray, List.set_cons_zero, List.set_cons_succ]
      refine wpAnyH_done (by kernel_rfl) ?_ _
      clear hHeld
      (go_wp2_with fail; go_meet; case rel => exact ⟨by rw [← ks], HZ.out⟩)
    exact AllReadyH.nil
  case rest =>
    obtain ⟨rfl, k2, k1, k0, kB⟩ := hcut
    have K2 := Lib.hid k2
    have K1 := Lib.hid k1
    have K0 := Lib.hid k0
    have KB := Lib.hid kB
    clear k2 k1 k0 kB
    go_wp2_with fail
    go_loopw [29] (fun i wr => ∃ q : Nat, q ≤ 8 ∧ i = .int .i64 q ∧ Blk wr (w.heap.size + 1 + 1) 25 (stA (offP r q)) ∧ Blk wr (w.heap.size + 1) 25 (stA fun _ => 0) ∧ Blk wr w.heap.size 48 (rwA r) ∧ Below w.heap.size w wr) (fun i _ => 8 - (intOf i).toNat)
    case atStart => exact ⟨0, by omega, rfl, K2.out, K1.out, K0.out, KB.out⟩
    case round =>
      clear K2 K1 K0 KB
      obtain ⟨q, hq, rfl, h2, h1, h0, hB⟩ := hrel
      by_cases hlt : q < 8
      · have q00 : (0 : Int) ≤ q := by omega
        have q01 : (q : Int) < 8 := by omega
        have h2n := (offP_set r q hlt) ▸ h2.set_ (6 + q) (.int .u8 (r (6 + q)))
        have HM := HBB.out (6 + q) (by omega) (by omega)
        obtain ⟨m, hm⟩ : ∃ m, 6 + q = m := ⟨_, rfl⟩
        have cx : wr.cell? ⟨w.heap.size + 1 + 1, 6 + q, none⟩ = some (.int .u8 (offP r q (6 + q))) := (h2.cell (6 + q)).trans (stA_at _ _ (by omega) (by omega) (by omega))
        have fx : wr.frozen? ⟨w.heap.size + 1 + 1, 6 + q, none⟩ = false := h2.frozen (6 + q)
        have H2n : Hid (Blk (wr.setCell ⟨w.heap.size + 1 + 1, 6 + q, none⟩ (.int .u8 (r m))) (w.heap.size + 1 + 1) 25 (stA (offP r (q + 1)))) := Lib.hid (by rw [← hm]; exact h2n)
        clear h2n
        rw [hm] at HM
        have e1 : IntKind.i64.wrap (6 + (q : Int)) = m := (IntWalk.i64_in _ (by omega)).trans (by omega)
        have m0 : (0 : Int) ≤ m := by omega
        have m1 : (m : Int) < 16 := by omega
        have c0 : wr.cell? ⟨w.heap.size, m, none⟩ = some (.int .u16 (r m)) := (h0.cell m).trans (rwA_at _ _ (by omega))
        have hlo := slo_any (r m) HM.1 HM.2 wr
        have H0 := Lib.hid (h0.far (p := ⟨w.heap.size + 1 + 1, 6 + q, none⟩) (show w.heap.size ≠ w.heap.size + 1 + 1 by omega) (.int .u8 (r m)))
        have H1 := Lib.hid (h1.far (p := ⟨w.heap.size + 1 + 1, 6 + q, none⟩) (show w.heap.size + 1 ≠ w.heap.size + 1 + 1 by omega) (.int .u8 (r m)))
        have HB := Lib.hid (hB.setCell (p := ⟨w.heap.size + 1 + 1, 6 + q, none⟩) (by show w.heap.size ≤ w.heap.size + 1 + 1; omega) (.int .u8 (r m)))
        have HMM := Lib.hid hm
        clear h2 h1 h0 hB hm HM
        go_wp2_with fail
        refine hlo.mono ?_
        rintro e w' ⟨rfl, rfl⟩
        go_wp2_with fail
        go_roundw
        case rel => exact ⟨q + 1, by omega, by go_num, H2n.out, H1.out, H0.out, HB.out⟩
        case measure => simp [intOf]; omega
      · obtain rfl : q = 8 := by omega
        have e8 : stA (offP r 8) = stA r := stA_congr fun j hj => by unfold offP; rw [if_pos (by omega)]
        rw [e8] at h2
        have hst := h1.run_store (P := Tryd.prog) (stA r) (by rw [stA_size, stA_size]) (stA_one _)
        have hsz := stA_size r
        have h8 : (Tryd.prog.info? 25).map (·.size) = some (stA r).size := by rw [stA_size]; exact size_state
        have H8 := Lib.hid h8
        have hld := (h1.row (stA r)).run_load (P := Tryd.prog) Tryd.underlying25 rfl h8
        have HD := Lib.hid hld
        have HB3 := Lib.hid (below_setRow hB (show w.heap.size ≤ w.heap.size + 1 by omega) (stA r))
        clear h8 hld e8 h1 h0 hB
        obtain ⟨RR, hRR⟩ : ∃ R, stA r = R := ⟨_, rfl⟩
        rw [hRR] at h2 hst hsz H8 HD HB3
        have HRR := Lib.hid hRR
        clear hRR
        go_wp2_with (refine wpList_load_row rfl 25 (.tmp 3) rfl (w.heap.size + 1 + 1) (by rfl) 25 RR (0, 0) _ h2 Tryd.underlying25 rfl H8.out ?_)
        refine bodyPost_ret (v := .agg RR) (results_cell (a := ⟨w.heap.size + 1, 0, none⟩) Tryd.results26 (by rfl) HD.out) rfl ?_
        exact ⟨by rw [HRR.out], HB3.out⟩
end Go.Proofs.YtnnfnjbfjgjgnaaDoor
