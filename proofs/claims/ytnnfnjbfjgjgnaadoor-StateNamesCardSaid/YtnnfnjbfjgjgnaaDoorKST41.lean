/-
  Texts of these proofs, one behind the other: St7.
-/
import Derived.Test.YtnnfnjbfjgjgnaaDoorKST29
import Derived.Test.YtnnfnjbfjgjgnaaDoorKST16
import Derived.Test.YtnnfnjbfjgjgnaaDoorKST09
import Derived.Test.YtnnfnjbfjgjgnaaDoorKST27
import Derived.Test.YtnnfnjbfjgjgnaaDoorKST12
import Derived.Deep.QuietTactic
import Derived.BigQuiet
namespace Go.Proofs.YtnnfnjbfjgjgnaaDoor
open Go.RowKit
set_option linter.unusedVariables false
set_option linter.unusedSimpArgs false
set_option maxRecDepth 100000
def ofZ (z : Nat → Int) (i : Nat) : Int := if i < 5 then z i else if i = 5 then z 5 + 256 * z 6 else z (i + 1)
def ofE (n : Nat) (z : Nat → Int) : Int := if n < 17 then 4 else if 17 < n then 2 else if 1 < z 16 then 3 else 0
def ofR (n : Nat) (z : Nat → Int) : Nat → Int := if ofE n z = 0 then ofZ z else fun _ => 0
/-- The first q of them. -/
def ofT (z : Nat → Int) (q : Nat) : Nat → Int := fun j => if j < q then ofZ z j else 0
theorem ofT_set (z : Nat → Int) (q : Nat) : (rwA (ofT z q)).setIfInBounds q (.int .u16 (ofZ z q)) = rwA (ofT z (q + 1)) := by
  rw [rwA_set]
  exact rwA_congr fun j _ => by
    unfold ofT
    by_cases e : j = q
    · subst e; rw [if_pos rfl, if_pos (by omega)]
    · rw [if_neg e]
      by_cases h : j < q
      · rw [if_pos h, if_pos (by omega)]
      · rw [if_neg h, if_neg (by omega)]
def kO (q : Nat) : Nat := if q ≤ 5 then q else q + 1
theorem stA_zero : stA (fun _ => 0) = #[.int .u8 0, .int .u8 0, .int .u8 0, .int .u8 0, .int .u8 0, .int .u16 0, .int .u8 0, .int .u8 0, .int .u8 0, .int .u8 0, .int .u8 0, .int .u8 0, .int .u8 0, .int .u8 0, .int .u8 0, .bool false] := rfl
theorem slice_rest (ad : Addr) (m d : Nat) (hm : m ≤ d) (W : World) : (Instr.slice 26 (.slice (some ad) (m + 1) (d + 1)) (some (.int .i64 1)) none none).run Tryd.prog W = .ok (.slice (if d = 0 then some ad else some (ad.add 1)) m d) W := by
  have h1 : (1 : Int) ≤ ((m + 1 : Nat) : Int) := by omega
  have h2 : ((m + 1 : Nat) : Int) ≤ ((d + 1 : Nat) : Int) := by omega
  go_simp
  by_cases h : d = 0
  · subst h; obtain rfl : m = 0 := by omega
    simp
  · simp [h]; intro h3; omega
theorem wf_u8_ {z : Int} (h : (Lit.int .u8 z).wf = true) : 0 ≤ z ∧ z ≤ 255 := by simp [Lit.wf, IntKind.min, IntKind.max, IntKind.signed, IntKind.bits] at h; omega
theorem add_zero_ (ad : Addr) : ad.add 0 = ad := by unfold Addr.add; simp
theorem IRow.rest_ {w : World} {ad : Addr} {m d : Nat} {y : Nat → Int} (h : IRow w .u8 (some ad) (m + 1) y) (hm : m ≤ d) : IRow w .u8 (if d = 0 then some ad else some (ad.add 1)) m fun i => y (1 + i) := by
  have := h.from_ (j := 1) (c := d + 1) (by omega) (by omega)
  rw [show m + 1 - 1 = m by omega] at this
  by_cases e : d = 0
  · subst e
    intro i hi
    exact absurd hi (by omega)
  · rw [if_neg (by omega)] at this
    rw [if_neg e]
    exact this
set_option maxHeartbeats 16000000 in
theorem sof_any {w : World} (A : Option Addr) (n c : Nat) (z : Nat → Int) (R : IRow w .u8 A n z) (gc : n ≤ c) : Calls Tryd.prog 8 #[.slice A n c] w fun e w' => e = .returned (.tuple #[.agg (stA (ofR n z)), .int .i64 (ofE n z)]) ∧ Below w.heap.size w w' := by
  have HR := Lib.hid R
  have B1 := Lib.hid ((Below.refl _ w).alloc (Nat.le_refl _) (.cells #[.int .u8 0, .int .u8 0, .int .u8 0, .int .u8 0, .int .u8 0, .int .u16 0, .int .u8 0, .int .u8 0, .int .u8 0, .int .u8 0, .int .u8 0, .int .u8 0, .int .u8 0, .int .u8 0, .int .u8 0, .bool false] 25))
  have hld := (Blk.new w 25 #[.int .u8 0, .int .u8 0, .int .u8 0, .int .u8 0, .int .u8 0, .int .u16 0, .int .u8 0, .int .u8 0, .int .u8 0, .int .u8 0, .int .u8 0, .int .u8 0, .int .u8 0, .int .u8 0, .int .u8 0, .bool false]).run_load (P := Tryd.prog) Tryd.underlying25 rfl size_state
  have HD := Lib.hid hld
  clear R hld
  by_cases h1 : n < 17
  · have e : ofE n z = 4 := if_pos h1
    have e2 : ofR n z = fun _ => 0 := by unfold ofR; rw [if_neg (by rw [e]; decide)]
    rw [e, e2, stA_zero]
    have h1' : (n : Int) < 17 := by omega
    clear e e2
    go_enter Tryd.func8, Tryd.ntmps8
    go_wp2_with fail
    (try simp only [Exit.inBlock, Exit.then])
    refine bodyPost_ret (results_cell_tmp (a := ⟨w.heap.size, 0, none⟩) Tryd.results8 (by rfl) HD.out rfl) rfl ?_
    exact ⟨rfl, B1.out⟩
  · by_cases h2 : 17 < n
    · have e : ofE n z = 2 := by unfold ofE; rw [if_neg h1, if_pos h2]
      have e2 : ofR n z = fun _ => 0 := by unfold ofR; rw [if_neg (by rw [e]; decide)]
      rw [e, e2, stA_zero]
      have h1' : ¬ (n : Int) < 17 := by omega
      have h2' : (17 : Int) < n := by omega
      clear e e2
      go_enter Tryd.func8, Tryd.ntmps8
      go_wp2_with fail
      (try simp only [Exit.inBlock, Exit.then])
      refine bodyPost_ret (results_cell_tmp (a := ⟨w.heap.size, 0, none⟩) Tryd.results8 (by rfl) HD.out rfl) rfl ?_
      exact ⟨rfl, B1.out⟩
    · obtain rfl : n = 17 := by omega
      have B2 : Hid (Below w.heap.size w ((w.alloc (.cells #[.int .u8 0, .int .u8 0, .int .u8 0, .int .u8 0, .int .u8 0, .int .u16 0, .int .u8 0, .int .u8 0, .int .u8 0, .int .u8 0, .int .u8 0, .int .u8 0, .int .u8 0, .int .u8 0, .int .u8 0, .bool false] 25)).alloc (.cells #[.int .u16 0, .int .u16 0, .int .u16 0, .int .u16 0, .int .u16 0, .int .u16 0, .int .u16 0, .int .u16 0, .int .u16 0, .int .u16 0, .int .u16 0, .int .u16 0, .int .u16 0, .int .u16 0, .int .u16 0, .int .u16 0] 48))) := Lib.hid (B1.out.alloc (by simp) _)
      have K0 : Hid (Blk ((w.alloc (.cells #[.int .u8 0, .int .u8 0, .int .u8 0, .int .u8 0, .int .u8 0, .int .u16 0, .int .u8 0, .int .u8 0, .int .u8 0, .int .u8 0, .int .u8 0, .int .u8 0, .int .u8 0, .int .u8 0, .int .u8 0, .bool false] 25)).alloc (.cells #[.int .u16 0, .int .u16 0, .int .u16 0, .int .u16 0, .int .u16 0, .int .u16 0, .int .u16 0, .int .u16 0, .int .u16 0, .int .u16 0, .int .u16 0, .int .u16 0, .int .u16 0, .int .u16 0, .int .u16 0, .int .u16 0] 48)) w.heap.size 25 #[.int .u8 0, .int .u8 0, .int .u8 0, .int .u8 0, .int .u8 0, .int .u16 0, .int .u8 0, .int .u8 0, .int .u8 0, .int .u8 0, .int .u8 0, .int .u8 0, .int .u8 0, .int .u8 0, .int .u8 0, .bool false]) := Lib.hid ((Blk.new w _ _).alloc _)
      have K1 : Hid (Blk ((w.alloc (.cells #[.int .u8 0, .int .u8 0, .int .u8 0, .int .u8 0, .int .u8 0, .int .u16 0, .int .u8 0, .int .u8 0, .int .u8 0, .int .u8 0, .int .u8 0, .int .u8 0, .int .u8 0, .int .u8 0, .int .u8 0, .bool false] 25)).alloc (.cells #[.int .u16 0, .int .u16 0, .int .u16 0, .int .u16 0, .int .u16 0, .int .u16 0, .int .u16 0, .int .u16 0, .int .u16 0, .int .u16 0, .int .u16 0, .int .u16 0, .int .u16 0, .int .u16 0, .int .u16 0, .int .u16 0] 48)) (w.heap.size + 1) 48 (rwA (ofT z 0))) := Lib.hid (Blk.new_ (by simp))
      obtain ⟨E, hE⟩ : ∃ E, ofE 17 z = E := ⟨_, rfl⟩
      obtain ⟨X, hX⟩ : ∃ X, stA (ofR 17 z) = X := ⟨_, rfl⟩
      rw [hE, hX]
      have HE := Lib.hid (And.intro hE hX)
      clear h1 h2 B1 HD hE hX
      go_enter Tryd.func8, Tryd.ntmps8
      go_upto_region 6 with fail
      generalize (w.alloc _).alloc _ = w2 at *
      go_wp2_with fail
      go_loopw [0, 16] (fun v i wr => ∃ (q m d : Nat) (A' : Option Addr), q ≤ 16 ∧ i = .int .i64 q ∧ kO q + m = 17 ∧ v = .slice A' m d ∧ m ≤ d ∧ IRow w .u8 A' m (fun i => z (kO q + i)) ∧ Blk wr (w.heap.size + 1) 48 (rwA (ofT z q)) ∧ Blk wr w.heap.size 25 #[.int .u8 0, .int .u8 0, .int .u8 0, .int .u8 0, .int .u8 0, .int .u16 0, .int .u8 0, .int .u8 0, .int .u8 0, .int .u8 0, .int .u8 0, .int .u8 0, .int .u8 0, .int .u8 0, .int .u8 0, .bool false] ∧ Below w.heap.size w wr) (fun _ i _ => 16 - (intOf i).toNat)
      case atStart => exact ⟨0, 17, c, A, by omega, rfl, rfl, rfl, gc, by have := HR.out; simpa [kO] using this, K1.out, K0.out, B2.out⟩
      case round =>
        clear K0 K1 B2
        obtain ⟨q, m0, d0, A', hq, rfl, hk, rfl, hmd, hI, h1, h0, hB⟩ := hrel
        by_cases hlt : q < 16
        · obtain ⟨m, rfl⟩ : ∃ m, m0 = m + 1 := ⟨m0 - 1, by unfold kO at hk; split at hk <;> omega⟩
          obtain ⟨d, rfl⟩ : ∃ d, d0 = d + 1 := ⟨d0 - 1, by omega⟩
          obtain ⟨ad, rfl, hl, hc, hw⟩ := hI 0 (by omega)
          rw [add_zero_] at hc
          obtain ⟨x0, x1⟩ := wf_u8_ hw
          dsimp only at x0 x1 hc
          have hI2 := hI.rest_ (d := d) (by omega)
          have hsl := slice_rest ad m d (by omega)
          have q0 : (0 : Int) ≤ q := by omega
          have q1 : (q : Int) < 16 := by omega
          have m1 : (0 : Int) < ((m + 1 : Nat) : Int) := by omega
          have cd : wr.cell? ad = some (.int .u8 (z (kO q + 0))) := (hB.cell hl).trans hc
          have cx : wr.cell? ⟨w.heap.size + 1, q, none⟩ = some (.int .u16 (ofT z q q)) := (h1.cell q).trans (rwA_at _ _ hlt)
          have fx := h1.frozen q
          obtain ⟨x, hx⟩ : ∃ x, z (kO q + 0) = x := ⟨_, rfl⟩
          rw [hx] at x0 x1 cd
          have e1 : IntKind.u16.wrap x = x := IntWalk.u16_in _ (by omega)
          obtain ⟨A2, hA2⟩ : ∃ A2, (if d = 0 then some ad else some (ad.add 1)) = A2 := ⟨_, rfl⟩
          rw [hA2] at hsl hI2
          have hne : ad.block ≠ w.heap.size + 1 := by omega
          have cd2 : (wr.setCell ⟨w.heap.size + 1, q, none⟩ (.int .u16 x)).cell? ad = some (.int .u8 x) := (World.cell?_setCell_other _ _ _ _ (fun e => hne (by rw [← e]))).trans cd
          have HC := Lib.hid cd
          have HC2 := Lib.hid cd2
          have H0 := Lib.hid (h0.far (p := ⟨w.heap.size + 1, q, none⟩) (show w.heap.size ≠ w.heap.size + 1 by omega) (.int .u16 x))
          have HB := Lib.hid (hB.setCell (p := ⟨w.heap.size + 1, q, none⟩) (by show w.heap.size ≤ w.heap.size + 1; omega) (.int .u16 x))
          have H1 := Lib.hid (h1.set_ q (.int .u16 x))
          have HI := Lib.hid hI2
          have HX := Lib.hid hx
          have HK := Lib.hid (And.intro hk hmd)
          clear hI hI2 hc hw hA2 cd cd2 h1 h0 hB hx hl hne
          by_cases h5 : q = 5
          · subst h5
            have hk5 : m = 11 := by have := HK.out.1; rw [show kO 5 = 5 from rfl] at this; omega
            subst hk5
            obtain ⟨d2, rfl⟩ : ∃ d2, d = d2 + 1 := ⟨d - 1, by have := HK.out.2; omega⟩
            obtain ⟨ad2, rfl, hl2, hc2, hw2⟩ := HI.out 0 (by omega)
            rw [add_zero_] at hc2
            obtain ⟨y0, y1⟩ := wf_u8_ hw2
            dsimp only at y0 y1 hc2
            have hsl2 := slice_rest ad2 10 d2 (by have := HK.out.2; omega)
            have hI3 := HI.out.rest_ (d := d2) (by have := HK.out.2; omega)
            obtain ⟨A3, hA3⟩ : ∃ A3, (if d2 = 0 then some ad2 else some (ad2.add 1)) = A3 := ⟨_, rfl⟩
            rw [hA3] at hsl2 hI3
            have HI3 := Lib.hid hI3
            obtain ⟨y, hy⟩ : ∃ y, z (kO 5 + (1 + 0)) = y := ⟨_, rfl⟩
            rw [hy] at y0 y1 hc2
            have HY := Lib.hid hy
            have hcd := (HB.out.cell hl2).trans hc2
            have HCD := Lib.hid hcd
            have hl3 : ad2.block ≠ w.heap.size + 1 := by omega
            have hcd2 : ((wr.setCell ⟨w.heap.size + 1, 5, none⟩ (.int .u16 x)).drew.drew.setCell ⟨w.heap.size + 1, 5, none⟩ (.int .u16 (x + 256 * y))).cell? ad2 = some (.int .u8 y) := (World.cell?_setCell_other _ _ _ _ (fun e => hl3 (by rw [← e]))).trans hcd
            have HCD2 := Lib.hid hcd2
            have cx2 : (wr.setCell ⟨w.heap.size + 1, 5, none⟩ (.int .u16 x)).drew.drew.cell? ⟨w.heap.size + 1, 5, none⟩ = some (.int .u16 x) := (H1.out.cell 5).trans (by rw [rwA_set]; exact (rwA_at _ _ (by omega)).trans (by simp))
            have fx2 : (wr.setCell ⟨w.heap.size + 1, 5, none⟩ (.int .u16 x)).drew.drew.frozen? ⟨w.heap.size + 1, 5, none⟩ = false := H1.out.frozen 5
            have CX2 := Lib.hid cx2
            have FX2 := Lib.hid fx2
            have H12 := Lib.hid ((H1.out.drew_.drew_).set_ 5 (.int .u16 (x + 256 * y)))
            have H02 := Lib.hid ((H0.out.drew_.drew_).far (p := ⟨w.heap.size + 1, 5, none⟩) (show w.heap.size ≠ w.heap.size + 1 by omega) (.int .u16 (x + 256 * y)))
            have HB2 := Lib.hid ((HB.out.drew.drew).setCell (p := ⟨w.heap.size + 1, 5, none⟩) (by show w.heap.size ≤ w.heap.size + 1; omega) (.int .u16 (x + 256 * y)))
            have hlo := fun W => slo_any x x0 x1 W
            have hwd := fun W => word_any x y W
            rw [wordI_eq x y x0 x1 y0 y1] at hwd
            have HLO := Lib.hid hlo
            have HWD := Lib.hid hwd
            clear hc2 hw2 hA3 hI3 hy hcd hl3 hcd2 cx2 fx2 hl2 hlo hwd
            go_upto_region 9 with fail
            refine rg_begin (S := fun w' => w'.cell? ad = some (.int .u8 x)) 10 #[false, false, false, false, false, false, false, false, false, false] (by kernel_rfl) (by kernel_rfl) (by kernel_rfl) ?_ (fun hHeld => ?_)
            · exact HC.out
            refine rg_take (i := 0) (d := some 19) (l := #[true, false, false, false, false, false, false, false, false, false]) (fuel := 9) (v := ?_) rfl (by kernel_rfl) (by kernel_rfl) (by kernel_rfl) (by kernel_rfl) (by kernel_rfl) (fun _ _ _ h => h) (by kernel_rfl) ?_ (by assumption) ?_
            rotate_left 1
            · (intro wS hSw; (try dsimp only at hSw); go_simp; try with_reducible rfl)
            try simp only [Act.put, List.setIfInBounds_toArray, List.set_cons_zero, List.set_cons_succ]
            refine rg_take (i := 1) (d := some 20) (l := #[true, true, false, false, false, false, false, false, false, false]) (fuel := 8) (v := ?_) rfl (by kernel_rfl) (by kernel_rfl) (by kernel_rfl) (by kernel_rfl) (by kernel_rfl) (fun _ _ _ h => h) (by kernel_rfl) ?_ (by assumption) ?_
            rotate_left 1
            · (intro wS hSw; (try dsimp only at hSw); go_simp; try with_reducible rfl)
            try simp only [Act.put, List.setIfInBounds_toArray, List.set_cons_zero, List.set_cons_succ]
            refine rg_take (i := 2) (d := some 21) (l := #[true, true, true, false, false, false, false, false, false, false]) (fuel := 7) (v := ?_) rfl (by kernel_rfl) (by kernel_rfl) (by kernel_rfl) (by kernel_rfl) (by kernel_rfl) (fun _ _ _ h => h) (by kernel_rfl) ?_ (by assumption) ?_
            rotate_left 1
            · (intro wS hSw; (try dsimp only at hSw); go_simp; try with_reducible rfl)
            try simp only [Act.put, List.setIfInBounds_toArray, List.set_cons_zero, List.set_cons_succ]
            refine rg_take (i := 3) (d := some 22) (l := #[true, true, true, true, false, false, false, false, false, false]) (fuel := 6) (v := ?_) rfl (by kernel_rfl) (by kernel_rfl) (by kernel_rfl) (by kernel_rfl) (by kernel_rfl) (fun _ _ _ h => h) (by kernel_rfl) ?_ (by assumption) ?_
            rotate_left 1
            · (intro wS hSw; (try dsimp only at hSw); go_simp; try with_reducible rfl)
            try simp only [Act.put, List.setIfInBounds_toArray, List.set_cons_zero, List.set_cons_succ]
            refine rg_take (i := 4) (d := some 23) (l := #[true, true, true, true, true, false, false, false, false, false]) (fuel := 5) (v := ?_) rfl (by kernel_rfl) (by kernel_rfl) (by kernel_rfl) (by kernel_rfl) (by kernel_rfl) (fun _ _ _ h => h) (by kernel_rfl) ?_ (by assumption) ?_
            rotate_left 1
            · (intro wS hSw; (try dsimp only at hSw); go_simp; try with_reducible rfl)
            try simp only [Act.put, List.setIfInBounds_toArray, List.set_cons_zero, List.set_cons_succ]
            refine rg_take (i := 5) (d := some 24) (l := #[true, true, true, true, true, true, false, false, false, false]) (fuel := 4) (v := ?_) rfl (by kernel_rfl) (by kernel_rfl) (by kernel_rfl) (by kernel_rfl) (by kernel_rfl) (fun _ _ _ h => h) (by kernel_rfl) ?_ (by assumption) ?_
            rotate_left 1
            · (intro wS hSw; (try dsimp only at hSw); go_simp; try with_reducible rfl)
            try simp only [Act.put, List.setIfInBounds_toArray, List.set_cons_zero, List.set_cons_succ]
            refine rg_take (i := 6) (d := some 25) (l := #[true, true, true, true, true, true, true, false, false, false]) (fuel := 3) (v := ?_) rfl (by kernel_rfl) (by kernel_rfl) (by kernel_rfl) (by kernel_rfl) (by kernel_rfl) (fun _ _ _ h => h) (by kernel_rfl) ?_ (by assumption) ?_
            rotate_left 1
            · (intro wS hSw; (try dsimp only at hSw); go_simp; try with_reducible rfl)
            try simp only [Act.put, List.setIfInBounds_toArray, List.set_cons_zero, List.set_cons_succ]
            refine rg_take (i := 7) (d := some 26) (l := #[true, true, true, true, true, true, true, true, false, false]) (fuel := 2) (v := ?_) rfl (by kernel_rfl) (by kernel_rfl) (by kernel_rfl) (by kernel_rfl) (by kernel_rfl) (fun _ _ _ h => h) (by kernel_rfl) ?_ (by assumption) ?_
            rotate_left 1
            · (intro wS hSw; (try dsimp only at hSw); go_simp; try with_reducible rfl)
            try simp only [Act.put, List.setIfInBounds_toArray, List.set_cons_zero, List.set_cons_succ]
            refine rg_next (i := 8) (l := #[true, true, true, true, true, true, true, true, true, false]) (fuel := 1) (by kernel_rfl) rfl (by kernel_rfl) (by kernel_rfl) (fun K hK => ?_)
            go_simp
            skip
            first | (refine hK.out _ _ ?_ (fun hHeld => ?_)) | (go_wp2_with fail; refine hK.out _ _ ?_ (fun hHeld => ?_))
            · (try dsimp only); exact HC2.out
            clear hK K
            try simp only [Act.put, List.setIfInBounds_toArray, List.set_cons_zero, List.set_cons_succ]
            refine rg_take (i := 9) (d := some 0) (l := #[true, true, true, true, true, true, true, true, true, true]) (fuel := 0) (v := ?_) rfl (by kernel_rfl) (by kernel_rfl) (by kernel_rfl) (by kernel_rfl) (by kernel_rfl) (fun _ _ _ h => h) (by kernel_rfl) ?_ (by assumption) ?_
            rotate_left 1
            · (intro wS hSw; (try dsimp only at hSw); go_simp; try with_reducible rfl)
            try simp only [Act.put, List.setIfInBounds_toArray, List.set_cons_zero, List.set_cons_succ]
            refine wpAnyH_done (by kernel_rfl) ?_ _
            clear cx fx hHeld
            go_upto_region 11 with fail
            have cx2 := CX2.out
            have fx2 := FX2.out
            refine rg_begin (S := fun w' => w'.cell? ad2 = some (.int .u8 y)) 14 #[false, false, false, false, false, false, false, false, false, false, false, false, false, false] (by kernel_rfl) (by kernel_rfl) (by kernel_rfl) ?_ (fun hHeld => ?_)
            · exact HCD.out
            refine rg_take (i := 0) (d := some 29) (l := #[true, false, false, false, false, false, false, false, false, false, false, false, false, false]) (fuel := 13) (v := ?_) rfl (by kernel_rfl) (by kernel_rfl) (by kernel_rfl) (by kernel_rfl) (by kernel_rfl) (fun _ _ _ h => h) (by kernel_rfl) ?_ (by assumption) ?_
            rotate_left 1
            · (intro wS hSw; (try dsimp only at hSw); go_simp; try with_reducible rfl)
            try simp only [Act.put, List.setIfInBounds_toArray, List.set_cons_zero, List.set_cons_succ]
            refine rg_take (i := 1) (d := some 30) (l := #[true, true, false, false, false, false, false, false, false, false, false, false, false, false]) (fuel := 12) (v := ?_) rfl (by kernel_rfl) (by kernel_rfl) (by kernel_rfl) (by kernel_rfl) (by kernel_rfl) (fun _ _ _ h => h) (by kernel_rfl) ?_ (by assumption) ?_
            rotate_left 1
            · (intro wS hSw; (try dsimp only at hSw); go_simp; try with_reducible rfl)
            try simp only [Act.put, List.setIfInBounds_toArray, List.set_cons_zero, List.set_cons_succ]
            refine rg_take (i := 2) (d := some 31) (l := #[true, true, true, false, false, false, false, false, false, false, false, false, false, false]) (fuel := 11) (v := ?_) rfl (by kernel_rfl) (by kernel_rfl) (by kernel_rfl) (by kernel_rfl) (by kernel_rfl) (fun _ _ _ h => h) (by kernel_rfl) ?_ (by assumption) ?_
            rotate_left 1
            · (intro wS hSw; (try dsimp only at hSw); go_simp; try with_reducible rfl)
            try simp only [Act.put, List.setIfInBounds_toArray, List.set_cons_zero, List.set_cons_succ]
            refine rg_take (i := 5) (d := some 34) (l := #[true, true, true, false, false, true, false, false, false, false, false, false, false, false]) (fuel := 10) (v := ?_) rfl (by kernel_rfl) (by kernel_rfl) (by kernel_rfl) (by kernel_rfl) (by kernel_rfl) (fun _ _ _ h => h) (by kernel_rfl) ?_ (by assumption) ?_
            rotate_left 1
            · (intro wS hSw; (try dsimp only at hSw); go_simp; try with_reducible rfl)
            try simp only [Act.put, List.setIfInBounds_toArray, List.set_cons_zero, List.set_cons_succ]
            refine rg_take (i := 6) (d := some 35) (l := #[true, true, true, false, false, true, true, false, false, false, false, false, false, false]) (fuel := 9) (v := ?_) rfl (by kernel_rfl) (by kernel_rfl) (by kernel_rfl) (by kernel_rfl) (by kernel_rfl) (fun _ _ _ h => h) (by kernel_rfl) ?_ (by assumption) ?_
            rotate_left 1
            · (intro wS hSw; (try dsimp only at hSw); go_simp; try with_reducible rfl)
            try simp only [Act.put, List.setIfInBounds_toArray, List.set_cons_zero, List.set_cons_succ]
            refine rg_take (i := 7) (d := some 36) (l := #[true, true, true, false, false, true, true, true, false, false, false, false, false, false]) (fuel := 8) (v := ?_) rfl (by kernel_rfl) (by kernel_rfl) (by kernel_rfl) (by kernel_rfl) (by kernel_rfl) (fun _ _ _ h => h) (by kernel_rfl) ?_ (by assumption) ?_
            rotate_left 1
            · (intro wS hSw; (try dsimp only at hSw); go_simp; try with_reducible rfl)
            try simp only [Act.put, List.setIfInBounds_toArray, List.set_cons_zero, List.set_cons_succ]
            refine rg_take (i := 9) (d := some 38) (l := #[true, true, true, false, false, true, true, true, false, true, false, false, false, false]) (fuel := 7) (v := ?_) rfl (by kernel_rfl) (by kernel_rfl) (by kernel_rfl) (by kernel_rfl) (by kernel_rfl) (fun _ _ _ h => h) (by kernel_rfl) ?_ (by assumption) ?_
            rotate_left 1
            · (intro wS hSw; (try dsimp only at hSw); go_simp; try with_reducible rfl)
            try simp only [Act.put, List.setIfInBounds_toArray, List.set_cons_zero, List.set_cons_succ]
            refine rg_take (i := 10) (d := some 39) (l := #[true, true, true, false, false, true, true, true, false, true, true, false, false, false]) (fuel := 6) (v := ?_) rfl (by kernel_rfl) (by kernel_rfl) (by kernel_rfl) (by kernel_rfl) (by kernel_rfl) (fun _ _ _ h => h) (by kernel_rfl) ?_ (by assumption) ?_
            rotate_left 1
            · (intro wS hSw; (try dsimp only at hSw); go_simp; try with_reducible rfl)
            try simp only [Act.put, List.setIfInBounds_toArray, List.set_cons_zero, List.set_cons_succ]
            refine rg_next (i := 3) (l := #[true, true, true, true, false, true, true, true, false, true, true, false, false, false]) (fuel := 5) (by kernel_rfl) rfl (by kernel_rfl) (by kernel_rfl) (fun K hK => ?_)
            go_simp
            skip
            first | (refine hK.out _ _ ?_ (fun hHeld => ?_)) | (go_wp2_with fail; refine hK.out _ _ ?_ (fun hHeld => ?_))
            · (try dsimp only); exact HCD.out
            clear hK K
            try simp only [Act.put, List.setIfInBounds_toArray, List.set_cons_zero, List.set_cons_succ]
            refine rg_next (i := 4) (l := #[true, true, true, true, true, true, true, true, false, true, true, false, false, false]) (fuel := 4) (by kernel_rfl) rfl (by kernel_rfl) (by kernel_rfl) (fun K hK => ?_)
            go_simp
            go_at_call 24
            refine (HLO.out _).mono ?_
            rintro e w' ⟨rfl, rfl⟩
            first | (refine hK.out _ _ ?_ (fun hHeld => ?_)) | (go_wp2_with fail; refine hK.out _ _ ?_ (fun hHeld => ?_))
            · (try dsimp only); exact HCD.out
            clear hK K
            try simp only [Act.put, List.setIfInBounds_toArray, List.set_cons_zero, List.set_cons_succ]
            refine rg_next (i := 8) (l := #[true, true, true, true, true, true, true, true, true, true, true, false, false, false]) (fuel := 3) (by kernel_rfl) rfl (by kernel_rfl) (by kernel_rfl) (fun K hK => ?_)
            go_simp
            go_at_call 23
            refine (HWD.out _).mono ?_
            rintro e w' ⟨rfl, rfl⟩
            first | (refine hK.out _ _ ?_ (fun hHeld => ?_)) | (go_wp2_with fail; refine hK.out _ _ ?_ (fun hHeld => ?_))
            · (try dsimp only); exact HCD.out
            clear hK K
            try simp only [Act.put, List.setIfInBounds_toArray, List.set_cons_zero, List.set_cons_succ]
            refine rg_take (i := 11) (d := some 40) (l := #[true, true, true, true, true, true, true, true, true, true, true, true, false, false]) (fuel := 2) (v := ?_) rfl (by kernel_rfl) (by kernel_rfl) (by kernel_rfl) (by kernel_rfl) (by kernel_rfl) (fun _ _ _ h => h) (by kernel_rfl) ?_ (by assumption) ?_
            rotate_left 1
            · (intro wS hSw; (try dsimp only at hSw); go_simp; try with_reducible rfl)
            try simp only [Act.put, List.setIfInBounds_toArray, List.set_cons_zero, List.set_cons_succ]
            refine rg_next (i := 12) (l := #[true, true, true, true, true, true, true, true, true, true, true, true, true, false]) (fuel := 1) (by kernel_rfl) rfl (by kernel_rfl) (by kernel_rfl) (fun K hK => ?_)
            go_simp
            skip
            first | (refine hK.out _ _ ?_ (fun hHeld => ?_)) | (go_wp2_with fail; refine hK.out _ _ ?_ (fun hHeld => ?_))
            · (try dsimp only); exact HCD2.out
            clear hK K
            try simp only [Act.put, List.setIfInBounds_toArray, List.set_cons_zero, List.set_cons_succ]
            refine rg_take (i := 13) (d := some 0) (l := #[true, true, true, true, true, true, true, true, true, true, true, true, true, true]) (fuel := 0) (v := ?_) rfl (by kernel_rfl) (by kernel_rfl) (by kernel_rfl) (by kernel_rfl) (by kernel_rfl) (fun _ _ _ h => h) (by kernel_rfl) ?_ (by assumption) ?_
            rotate_left 1
            · (intro wS hSw; (try dsimp only at hSw); go_simp; try with_reducible rfl)
            try simp only [Act.put, List.setIfInBounds_toArray, List.set_cons_zero, List.set_cons_succ]
            refine wpAnyH_done (by kernel_rfl) ?_ _
            clear cx2 fx2 hHeld
            go_wp2_with fail
            go_roundw
            case rel =>
              refine ⟨6, 10, d2, A3, by omega, by go_num, rfl, rfl, by have := HK.out.2; omega, ?_, ?_, H02.out, HB2.out⟩
              · exact HI3.out.congr fun i _ => by congr 1; unfold kO; simp; omega
              · have := H12.out
                rw [rwA_set, rwA_set] at this
                rw [show rwA (ofT z 6) = _ from rwA_congr fun j _ => ?_]
                · exact this
                · have hx5 : z 5 = x := HX.out
                  have hy6 : z 6 = y := HY.out
                  unfold ofT
                  by_cases e : j = 5
                  · subst e; rw [if_pos (by omega), if_pos rfl]; show z 5 + 256 * z 6 = _; rw [hx5, hy6]
                  · rw [if_neg e]
                    by_cases h : j < 5
                    · rw [if_pos (by omega), if_neg e, if_pos h]
                    · rw [if_neg (by omega), if_neg e, if_neg h]
            case measure => simp [intOf]
          · have e5 : ((q : Int) == 5) = false := by simp; omega
            go_upto_region 9 with fail
            refine rg_begin (S := fun w' => w'.cell? ad = some (.int .u8 x)) 10 #[false, false, false, false, false, false, false, false, false, false] (by kernel_rfl) (by kernel_rfl) (by kernel_rfl) ?_ (fun hHeld => ?_)
            · exact HC.out
            refine rg_take (i := 0) (d := some 19) (l := #[true, false, false, false, false, false, false, false, false, false]) (fuel := 9) (v := ?_) rfl (by kernel_rfl) (by kernel_rfl) (by kernel_rfl) (by kernel_rfl) (by kernel_rfl) (fun _ _ _ h => h) (by kernel_rfl) ?_ (by assumption) ?_
            rotate_left 1
            · (intro wS hSw; (try dsimp only at hSw); go_simp; try with_reducible rfl)
            try simp only [Act.put, List.setIfInBounds_toArray, List.set_cons_zero, List.set_cons_succ]
            refine rg_take (i := 1) (d := some 20) (l := #[true, true, false, false, false, false, false, false, false, false]) (fuel := 8) (v := ?_) rfl (by kernel_rfl) (by kernel_rfl) (by kernel_rfl) (by kernel_rfl) (by kernel_rfl) (fun _ _ _ h => h) (by kernel_rfl) ?_ (by assumption) ?_
            rotate_left 1
            · (intro wS hSw; (try dsimp only at hSw); go_simp; try with_reducible rfl)
            try simp only [Act.put, List.setIfInBounds_toArray, List.set_cons_zero, List.set_cons_succ]
            refine rg_take (i := 2) (d := some 21) (l := #[true, true, true, false, false, false, false, false, false, false]) (fuel := 7) (v := ?_) rfl (by kernel_rfl) (by kernel_rfl) (by kernel_rfl) (by kernel_rfl) (by kernel_rfl) (fun _ _ _ h => h) (by kernel_rfl) ?_ (by assumption) ?_
            rotate_left 1
            · (intro wS hSw; (try dsimp only at hSw); go_simp; try with_reducible rfl)
            try simp only [Act.put, List.setIfInBounds_toArray, List.set_cons_zero, List.set_cons_succ]
            refine rg_take (i := 3) (d := some 22) (l := #[true, true, true, true, false, false, false, false, false, false]) (fuel := 6) (v := ?_) rfl (by kernel_rfl) (by kernel_rfl) (by kernel_rfl) (by kernel_rfl) (by kernel_rfl) (fun _ _ _ h => h) (by kernel_rfl) ?_ (by assumption) ?_
            rotate_left 1
            · (intro wS hSw; (try dsimp only at hSw); go_simp; try with_reducible rfl)
            try simp only [Act.put, List.setIfInBounds_toArray, List.set_cons_zero, List.set_cons_succ]
            refine rg_take (i := 4) (d := some 23) (l := #[true, true, true, true, true, false, false, false, false, false]) (fuel := 5) (v := ?_) rfl (by kernel_rfl) (by kernel_rfl) (by kernel_rfl) (by kernel_rfl) (by kernel_rfl) (fun _ _ _ h => h) (by kernel_rfl) ?_ (by assumption) ?_
            rotate_left 1
            · (intro wS hSw; (try dsimp only at hSw); go_simp; try with_reducible rfl)
            try simp only [Act.put, List.setIfInBounds_toArray, List.set_cons_zero, List.set_cons_succ]
            refine rg_take (i := 5) (d := some 24) (l := #[true, true, true, true, true, true, false, false, false, false]) (fuel := 4) (v := ?_) rfl (by kernel_rfl) (by kernel_rfl) (by kernel_rfl) (by kernel_rfl) (by kernel_rfl) (fun _ _ _ h => h) (by kernel_rfl) ?_ (by assumption) ?_
            rotate_left 1
            · (intro wS hSw; (try dsimp only at hSw); go_simp; try with_reducible rfl)
            try simp only [Act.put, List.setIfInBounds_toArray, List.set_cons_zero, List.set_cons_succ]
            refine rg_take (i := 6) (d := some 25) (l := #[true, true, true, true, true, true, true, false, false, false]) (fuel := 3) (v := ?_) rfl (by kernel_rfl) (by kernel_rfl) (by kernel_rfl) (by kernel_rfl) (by kernel_rfl) (fun _ _ _ h => h) (by kernel_rfl) ?_ (by assumption) ?_
            rotate_left 1
            · (intro wS hSw; (try dsimp only at hSw); go_simp; try with_reducible rfl)
            try simp only [Act.put, List.setIfInBounds_toArray, List.set_cons_zero, List.set_cons_succ]
            refine rg_take (i := 7) (d := some 26) (l := #[true, true, true, true, true, true, true, true, false, false]) (fuel := 2) (v := ?_) rfl (by kernel_rfl) (by kernel_rfl) (by kernel_rfl) (by kernel_rfl) (by kernel_rfl) (fun _ _ _ h => h) (by kernel_rfl) ?_ (by assumption) ?_
            rotate_left 1
            · (intro wS hSw; (try dsimp only at hSw); go_simp; try with_reducible rfl)
            try simp only [Act.put, List.setIfInBounds_toArray, List.set_cons_zero, List.set_cons_succ]
            refine rg_next (i := 8) (l := #[true, true, true, true, true, true, true, true, true, false]) (fuel := 1) (by kernel_rfl) rfl (by kernel_rfl) (by kernel_rfl) (fun K hK => ?_)
            go_simp
            skip
            first | (refine hK.out _ _ ?_ (fun hHeld => ?_)) | (go_wp2_with fail; refine hK.out _ _ ?_ (fun hHeld => ?_))
            · (try dsimp only); exact HC2.out
            clear hK K
            try simp only [Act.put, List.setIfInBounds_toArray, List.set_cons_zero, List.set_cons_succ]
            refine rg_take (i := 9) (d := some 0) (l := #[true, true, true, true, true, true, true, true, true, true]) (fuel := 0) (v := ?_) rfl (by kernel_rfl) (by kernel_rfl) (by kernel_rfl) (by kernel_rfl) (by kernel_rfl) (fun _ _ _ h => h) (by kernel_rfl) ?_ (by assumption) ?_
            rotate_left 1
            · (intro wS hSw; (try dsimp only at hSw); go_simp; try with_reducible rfl)
            try simp only [Act.put, List.setIfInBounds_toArray, List.set_cons_zero, List.set_cons_succ]
            refine wpAnyH_done (by kernel_rfl) ?_ _
            clear cx fx hHeld
            go_wp2_with fail
            go_roundw
            case rel =>
              refine ⟨q + 1, m, d, A2, by omega, by go_num, by have := HK.out.1; unfold kO at this ⊢; split at this <;> split <;> omega, rfl, by have := HK.out.2; omega, ?_, ?_, H0.out, HB.out.drew⟩
              · exact HI.out.congr fun i _ => by congr 1; unfold kO; split <;> split <;> omega
              · rw [← ofT_set]
                have e : ofZ z q = x := by
                  rw [← HX.out]; unfold ofZ kO
                  by_cases h : q < 5
                  · rw [if_pos h, if_pos (by omega)]
                    try rfl
                  · rw [if_neg h, if_neg h5, if_neg (by omega)]
                    try rfl
                rw [e]; exact H1.out
            case measure => simp [intOf]; omega
        · obtain rfl : q = 16 := by omega
          have e16 : rwA (ofT z 16) = rwA (ofZ z) := rwA_congr fun j hj => by unfold ofT; rw [if_pos hj]
          rw [e16] at h1
          have zb : ∀ i, i < 17 → 0 ≤ z i ∧ z i ≤ 255 := fun i hi => by obtain ⟨_, _, _, _, hw⟩ := HR.out i hi; exact wf_u8_ hw
          have c15 : wr.cell? ⟨w.heap.size + 1, 15, none⟩ = some (.int .u16 (z 16)) := (h1.cell 15).trans (rwA_at _ _ (by omega))
          have hm := fun W => smost_any 15 W
          rw [show mostP 15 = 1 from rfl, show ((15 : Nat) : Int) = 15 from rfl] at hm
          have z16 := zb 16 (by omega)
          have HZB := Lib.hid zb
          have H1 := Lib.hid h1
          have H0 := Lib.hid h0
          have HB := Lib.hid hB
          obtain ⟨x, hx⟩ : ∃ x, z 16 = x := ⟨_, rfl⟩
          have HX := Lib.hid hx
          rw [hx] at c15 z16
          clear e16 h1 h0 hB zb hx hI hmd hk
          by_cases h3 : 1 < x
          · have hE : E = 3 := by rw [← HE.out.1]; unfold ofE; rw [if_neg (by decide), if_neg (by decide), if_pos (by rw [HX.out]; exact h3)]
            have hXX : X = #[.int .u8 0, .int .u8 0, .int .u8 0, .int .u8 0, .int .u8 0, .int .u16 0, .int .u8 0, .int .u8 0, .int .u8 0, .int .u8 0, .int .u8 0, .int .u8 0, .int .u8 0, .int .u8 0, .int .u8 0, .bool false] := by rw [← HE.out.2]; unfold ofR; rw [if_neg (by rw [HE.out.1, hE]; decide)]; rfl
            subst hE hXX
            go_wp2_with fail
            go_quiet ((go_at_call 25; exact Calls.quiet_of_same (flipW (hm _))))
            have h0 := H0.out.drewN nq
            have c0 : (wr.drewN nq).cell? ⟨w.heap.size, 0, none⟩ = some (.int .u8 0) := h0.cell 0
            have f0 : (wr.drewN nq).frozen? ⟨w.heap.size, 0, none⟩ = false := h0.frozen 0
            have c1 : (wr.drewN nq).cell? ⟨w.heap.size, 1, none⟩ = some (.int .u8 0) := h0.cell 1
            have f1 : (wr.drewN nq).frozen? ⟨w.heap.size, 1, none⟩ = false := h0.frozen 1
            have c2 : (wr.drewN nq).cell? ⟨w.heap.size, 2, none⟩ = some (.int .u8 0) := h0.cell 2
            have f2 : (wr.drewN nq).frozen? ⟨w.heap.size, 2, none⟩ = false := h0.frozen 2
            have c3 : (wr.drewN nq).cell? ⟨w.heap.size, 3, none⟩ = some (.int .u8 0) := h0.cell 3
            have f3 : (wr.drewN nq).frozen? ⟨w.heap.size, 3, none⟩ = false := h0.frozen 3
            have c4 : (wr.drewN nq).cell? ⟨w.heap.size, 4, none⟩ = some (.int .u8 0) := h0.cell 4
            have f4 : (wr.drewN nq).frozen? ⟨w.heap.size, 4, none⟩ = false := h0.frozen 4
            have c5 : (wr.drewN nq).cell? ⟨w.heap.size, 5, none⟩ = some (.int .u16 0) := h0.cell 5
            have f5 : (wr.drewN nq).frozen? ⟨w.heap.size, 5, none⟩ = false := h0.frozen 5
            have c6 : (wr.drewN nq).cell? ⟨w.heap.size, 6, none⟩ = some (.int .u8 0) := h0.cell 6
            have f6 : (wr.drewN nq).frozen? ⟨w.heap.size, 6, none⟩ = false := h0.frozen 6
            have c7 : (wr.drewN nq).cell? ⟨w.heap.size, 7, none⟩ = some (.int .u8 0) := h0.cell 7
            have f7 : (wr.drewN nq).frozen? ⟨w.heap.size, 7, none⟩ = false := h0.frozen 7
            have c8 : (wr.drewN nq).cell? ⟨w.heap.size, 8, none⟩ = some (.int .u8 0) := h0.cell 8
            have f8 : (wr.drewN nq).frozen? ⟨w.heap.size, 8, none⟩ = false := h0.frozen 8
            have c9 : (wr.drewN nq).cell? ⟨w.heap.size, 9, none⟩ = some (.int .u8 0) := h0.cell 9
            have f9 : (wr.drewN nq).frozen? ⟨w.heap.size, 9, none⟩ = false := h0.frozen 9
            have c10 : (wr.drewN nq).cell? ⟨w.heap.size, 10, none⟩ = some (.int .u8 0) := h0.cell 10
            have f10 : (wr.drewN nq).frozen? ⟨w.heap.size, 10, none⟩ = false := h0.frozen 10
            have c11 : (wr.drewN nq).cell? ⟨w.heap.size, 11, none⟩ = some (.int .u8 0) := h0.cell 11
            have f11 : (wr.drewN nq).frozen? ⟨w.heap.size, 11, none⟩ = false := h0.frozen 11
            have c12 : (wr.drewN nq).cell? ⟨w.heap.size, 12, none⟩ = some (.int .u8 0) := h0.cell 12
            have f12 : (wr.drewN nq).frozen? ⟨w.heap.size, 12, none⟩ = false := h0.frozen 12
            have c13 : (wr.drewN nq).cell? ⟨w.heap.size, 13, none⟩ = some (.int .u8 0) := h0.cell 13
            have f13 : (wr.drewN nq).frozen? ⟨w.heap.size, 13, none⟩ = false := h0.frozen 13
            have c14 : (wr.drewN nq).cell? ⟨w.heap.size, 14, none⟩ = some (.int .u8 0) := h0.cell 14
            have f14 : (wr.drewN nq).frozen? ⟨w.heap.size, 14, none⟩ = false := h0.frozen 14
            have c15 : (wr.drewN nq).cell? ⟨w.heap.size, 15, none⟩ = some (.bool false) := h0.cell 15
            have f15 : (wr.drewN nq).frozen? ⟨w.heap.size, 15, none⟩ = false := h0.frozen 15
            have hld := (h0.zw).run_load (P := Tryd.prog) Tryd.underlying25 rfl size_state
            have HD := Lib.hid hld
            have HB3 := Lib.hid (below_zw (below_drewN HB.out nq) (show w.heap.size ≤ w.heap.size by omega))
            clear hld h0
            go_wp2_with fail
            (try simp only [Exit.inBlock, Exit.then])
            refine bodyPost_ret (results_cell_tmp (a := ⟨w.heap.size, 0, none⟩) Tryd.results8 (by rfl) HD.out rfl) rfl ?_
            exact ⟨rfl, HB3.out⟩
          · have hE : E = 0 := by rw [← HE.out.1]; unfold ofE; rw [if_neg (by decide), if_neg (by decide), if_neg (by rw [HX.out]; exact h3)]
            have hXX : stA (ofZ z) = X := by rw [← HE.out.2]; unfold ofR; rw [if_pos (by rw [HE.out.1, hE])]
            have HXX := Lib.hid hXX
            have hok : StOk (ofZ z) := fun i hi => by
              have hle := fun j (hj : j < 17) => HZB.out j hj
              unfold mostP ofZ
              by_cases e1 : i = 5
              · subst e1; simp only [if_true, if_neg (show ¬ (5 : Nat) < 5 by omega)]; have := hle 5 (by omega); have := hle 6 (by omega); omega
              · by_cases e2 : i = 15
                · subst e2; simp only [if_neg e1, if_true, if_neg (show ¬ (15 : Nat) < 5 by omega)]; have := hle 16 (by omega); have := HX.out; show 0 ≤ z 16 ∧ z 16 ≤ 1; omega
                · by_cases e3 : i < 5
                  · simp only [if_neg e1, if_neg e2, if_pos e3]; exact hle i (by omega)
                  · simp only [if_neg e1, if_neg e2, if_neg e3]; exact hle (i + 1) (by omega)
            have HOK := Lib.hid hok
            subst hE
            have h11 := H1.out
            have hs1 : (Tryd.prog.info? 48).map (·.size) = some (rwA (ofZ z)).size := by rw [rwA_size]; exact size_row
            have HS1 := Lib.hid hs1
            have hsr := rwA_size (ofZ z)
            clear hXX hok hs1
            go_wp2_with fail
            go_quiet ((go_at_call 25; exact Calls.quiet_of_same (flipW (hm _))))
            have h12 := h11.drewN nq
            clear h11 c15
            go_wp2_with (refine wpList_load_row rfl 48 (.tmp 4) rfl (w.heap.size + 1) (by rfl) 48 (rwA (ofZ z)) (0, 0) _ h12 Tryd.underlying48 rfl HS1.out ?_)
            refine (sst_any (ofZ z) HOK.out _).mono ?_
            rintro e w5 ⟨rfl, hb⟩
            have k5 := (H0.out.drewN nq).below hb (H0.out.drewN nq).lt
            have hst := k5.run_store (P := Tryd.prog) (stA (ofZ z)) rfl (stA_one _)
            have hld := (k5.row (stA (ofZ z))).run_load (P := Tryd.prog) Tryd.underlying25 rfl size_state
            have HD := Lib.hid hld
            have hB4 := below_drewN HB.out nq
            have B5 := Lib.hid (below_setRow (hB4.trans (hb.mono hB4.size)) (show w.heap.size ≤ w.heap.size by omega) (stA (ofZ z)))
            have hsR := stA_size (ofZ z)
            clear hld k5 hb h12 hB4
            go_wp2_with fail
            (try simp only [Exit.inBlock, Exit.then])
            refine bodyPost_ret (results_cell_tmp (a := ⟨w.heap.size, 0, none⟩) Tryd.results8 (by rfl) HD.out rfl) rfl ?_
            exact ⟨by rw [← HXX.out]; rfl, B5.out⟩
end Go.Proofs.YtnnfnjbfjgjgnaaDoor
