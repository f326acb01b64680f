/-
  For every input MovesApply returns true, and each argument reads behind the call as it read before. The one condition: when the call begins the package-level variables that the row lists hold what the program lays in them (TIED: the card shows it of the text of the project, pruned to the packages that this seat loads).
-/
import Derived.Test.YtdfjpdcnjjgljaaDoorRows
import Derived.Test.YtdfjpdcnjjgljaaDoorKMV01
import Derived.SevenTiedAt
import Derived.ProofKit
import Derived.LaidMore
import Derived.OpenShut
import Derived.Stop.Joined
import Derived.Test.YtdfjpdcnjjgljaaDoorCards
import Derived.Test.YtdfjpdcnjjgljaaDoorTie
import Derived.Test.YtdfjpdcnjjgljaaDoorKMV20
namespace Go.Proofs.YtdfjpdcnjjgljaaDoor.movesApply
open Go.ChangeShapes Go.WideShapes Go.ChangeAt Go.RowKit
open Go.ChangeMaps (open_string)

set_option linter.unusedVariables false
set_option linter.unusedSimpArgs false
set_option maxRecDepth 100000 in
set_option maxHeartbeats 8000000 in
theorem walk {W : World} (k : Int) (wk : (Lit.int .u8 k).wf = true) (f : Int) (wf : (Lit.int .u16 f).wf = true) (t : Int) (wt : (Lit.int .u16 t).wf = true) (l : Int) (wl : (Lit.int .u16 l).wf = true) (A : Option Addr) (n c : Nat) (z : Nat → Int) (gc : n ≤ c) (mc : c ≤ maxLen) (R : IRow W .u8 A n z) (hT : Tabs W) :
    Calls Tryd.prog 8 #[.int .u8 k, .int .u16 f, .int .u16 t, .int .u16 l, .slice A n c] W fun e w' => e = .returned (.bool true) ∧ Below W.heap.size W w' := by
  obtain ⟨k0, k1⟩ := bounds_u8 wk
  obtain ⟨f0, f1⟩ := bounds_u16 wf
  obtain ⟨t0, t1⟩ := bounds_u16 wt
  obtain ⟨K, rfl⟩ : ∃ K : Nat, k = K := ⟨k.toNat, by omega⟩
  obtain ⟨l0, l1⟩ := bounds_u16 wl
  have HT := Lib.hid hT
  have HR := Lib.hid R
  have hns : (n : Int) ≤ 9223372036854775807 := by unfold maxLen at mc; omega
  clear hT R mc wk wf wt wl
  by_cases hbig : 70000 < n
  · have h1 : (70000 : Int) < n := by omega
    go_enter Tryd.func8, Tryd.ntmps8
    go_wp2_with fail
    refine (live26 HT.out).mono ?_
    rintro e w0 ⟨rfl, b0⟩
    have HB0 := Lib.hid b0
    clear b0
    go_wp2_with fail
    go_ret
    exact ⟨rfl, HB0.out⟩
  · have h1 : ¬ (70000 : Int) < n := by omega
    by_cases hk : 5 ≤ K
    · have hA := fun W => vapply_kind K hk (by omega) f t l A n c W
      have h2 : (4 : Int) < K := by omega
      go_enter Tryd.func8, Tryd.ntmps8
      go_wp2_with fail
      refine (live26 HT.out).mono ?_
      rintro e w0 ⟨rfl, b0⟩
      have HB0 := Lib.hid b0
      clear b0
      go_wp2_with (go_at_call 34; refine (hA _).mono ?_; rintro e w' ⟨rfl, rfl⟩)
      go_ret
      exact ⟨rfl, HB0.out⟩
    · have h2 : ¬ (4 : Int) < K := by omega
      by_cases hn : n = 0 ∨ 65536 < n
      · have hA := fun W => vapply_len K (by omega) f t l A n c hn W
        rcases hn with rfl | h
        · skip
          go_enter Tryd.func8, Tryd.ntmps8
          go_wp2_with fail
          refine (live26 HT.out).mono ?_
          rintro e w0 ⟨rfl, b0⟩
          have HB0 := Lib.hid b0
          clear b0
          go_wp2_with (go_at_call 34; refine (hA _).mono ?_; rintro e w' ⟨rfl, rfl⟩)
          go_ret
          exact ⟨rfl, HB0.out⟩
        · have h3 : ((n : Int) == 0) = false := by simp; omega
          have h4 : (65536 : Int) < n := by omega
          go_enter Tryd.func8, Tryd.ntmps8
          go_wp2_with fail
          refine (live26 HT.out).mono ?_
          rintro e w0 ⟨rfl, b0⟩
          have HB0 := Lib.hid b0
          clear b0
          go_wp2_with (go_at_call 34; refine (hA _).mono ?_; rintro e w' ⟨rfl, rfl⟩)
          go_ret
          exact ⟨rfl, HB0.out⟩
      · have h3 : ((n : Int) == 0) = false := by simp; omega
        have h4 : ¬ (65536 : Int) < n := by omega
        have hn0 : 0 < n := by omega
        have hn6 : ¬ n = 0 := by omega
        have hk5 : K < 5 := by omega
        obtain ⟨ad, rfl⟩ : ∃ ad, A = some ad := by obtain ⟨ad, e, _⟩ := HR.out 0 hn0; exact ⟨ad, e⟩
        have hbd : ∀ j, j < n → 0 ≤ z j ∧ z j ≤ 255 := fun j hj => by
          obtain ⟨a, _, _, _, hw⟩ := HR.out j hj
          exact bounds_u8 hw
        have HBD := Lib.hid hbd
        clear hbd
        have hA := fun W Q => vapply_ok K hk5 f t l f0 f1 t0 t1 l0 l1 ad n c z hn0 (by omega) W Q
        have hC := fun W => rvcount_any l l0 l1 W
        obtain ⟨c0, c1⟩ := cntP_bd l l0 l1
        unfold ApplyR at hA
        obtain ⟨m, hm⟩ : ∃ m : Nat, cntP l = (m : Int) := ⟨(cntP l).toNat, by omega⟩
        rw [hm] at hC c0 c1
        rw [show (cntP l).toNat = m by omega] at hA
        clear hm hn
        go_enter Tryd.func8, Tryd.ntmps8
        go_wp2_with fail
        refine (live26 HT.out).mono ?_
        rintro e w0 ⟨rfl, b0⟩
        have HB0 := Lib.hid b0
        clear b0
        go_wp2_with fail
        refine (hA _ (HR.out.keep HB0.out)).mono ?_
        rintro e w1 ⟨g1, c1', rfl, hc1, hm1, R1, hg1, b⟩
        have HB1 := Lib.hid (HB0.out.trans (b.mono HB0.out.size))
        have HR1 := Lib.hid R1
        clear b R1 hA
        obtain ⟨g, cap, C, w2, hrun, hg, hgc, hcm, hC2, hCz, hb2⟩ := vclone_run (w := w1) 26 ad n c z hn0 (by omega) (HR.out.keep HB1.out)
        have HC2 := Lib.hid hC2
        have HCZ := Lib.hid hCz
        have HB2 := Lib.hid hb2
        have s1 := HB1.out.size
        clear hC2 hCz hb2
        go_wp2_with (at_builtin; refine wpList_append_run rfl (.tmp 55) (.tmp 56) 26 rfl rfl rfl hrun ?_)
        go_loopw [14] (fun i wr => ∃ q : Nat, (q : Int) ≤ m ∧ i = .int .i64 q ∧ (∃ D, Blk wr g 5 D ∧ ∀ j, j < n → D[j]? = some (.int .u8 (mvM K f t n z (List.range q) j))) ∧ Below w1.heap.size w1 wr) (fun i _ => m - (intOf i).toNat)
        case atStart => exact ⟨0, by omega, rfl, ⟨C, HC2.out, HCZ.out⟩, HB2.out⟩
        case round =>
          obtain ⟨q, hq, rfl, ⟨D, hD, hDz⟩, hB⟩ := hrel
          have HBW := Lib.hid hB
          by_cases hlt : (q : Int) < m
          · have q0 : (0 : Int) ≤ q := by omega
            have hR := fun W => rvat_any K hk5 f t (q : Int) f0 f1 t0 t1 q0 (by omega) W
            have EM := Lib.hid (show mvM K f t n z (List.range (q + 1)) = _ by rw [List.range_succ, mvM_snoc])
            obtain ⟨p0, p1⟩ := mvF_bd K f (q : Int)
            obtain ⟨r0, r1⟩ := mvT_bd K t (q : Int) t0 t1
            generalize mvF K f (q : Int) = p at *
            generalize mvT K t (q : Int) = r at *
            obtain ⟨p, rfl⟩ := Int.eq_ofNat_of_zero_le p0
            obtain ⟨r, rfl⟩ := Int.eq_ofNat_of_zero_le r0
            have ep : ((p : Nat) : Int).tmod (n : Int) = ((p % n : Nat) : Int) := by rw [Int.tmod_eq_emod_of_nonneg (by omega)]; rfl
            have er : ((r : Nat) : Int).tmod (n : Int) = ((r % n : Nat) : Int) := by rw [Int.tmod_eq_emod_of_nonneg (by omega)]; rfl
            obtain ⟨i, hi⟩ : ∃ i, p % n = i := ⟨_, rfl⟩
            obtain ⟨j, hj⟩ : ∃ j, r % n = j := ⟨_, rfl⟩
            have i1 : i < n := by rw [← hi]; exact Nat.mod_lt _ hn0
            have j1 : j < n := by rw [← hj]; exact Nat.mod_lt _ hn0
            rw [hi] at ep
            rw [hj] at er
            have HI := Lib.hid hi
            have HJ := Lib.hid hj
            have w1' : IntKind.i64.wrap ((p : Nat) : Int) = p := IntWalk.i64_in _ (by omega)
            have w2' : IntKind.i64.wrap ((r : Nat) : Int) = r := IntWalk.i64_in _ (by omega)
            have i2 : (i : Int) < n := by omega
            have j2 : (j : Int) < n := by omega
            have i3 : (0 : Int) ≤ i := by omega
            have j3 : (0 : Int) ≤ j := by omega
            have HD := Lib.hid hD
            have HDZ := Lib.hid hDz
            have hsz := (Array.getElem?_eq_some_iff.1 (hDz j j1)).1
            have cg : wr.cell? ⟨g, i, none⟩ = some (.int .u8 (mvM K f t n z (List.range q) i)) := by rw [hD.cell]; exact hDz i i1
            clear hi hj hD hDz p0 p1 r0 r1 hB
            go_wp2_with (first
              | (go_at_call 32; refine (hC _).mono ?_; rintro e w' ⟨rfl, rfl⟩)
              | (go_at_call 31; refine (hR _).mono ?_; rintro e w' ⟨rfl, rfl⟩))
            have cj : wr.drew.cell? ⟨g, j, none⟩ = some (.int .u8 (mvM K f t n z (List.range q) j)) := (HD.out.cell j).trans (HDZ.out j j1)
            have fj : wr.drew.frozen? ⟨g, j, none⟩ = false := HD.out.frozen j
            generalize hv : mvM K f t n z (List.range q) i = v at *
            have B1 : Blk (wr.setCell ⟨g, j, none⟩ (.int .u8 v)) g 5 (D.setIfInBounds j (.int .u8 v)) := Blk.set_ HD.out j _
            have BI : (wr.setCell ⟨g, j, none⟩ (.int .u8 v)).cell? ⟨g, i, none⟩ = some (.int .u8 v) := by rw [B1.cell i, Array.getElem?_setIfInBounds]; split; (first | rfl | (rw [if_pos (by omega)])); rw [HDZ.out i i1, hv]
            have BLW := Lib.hid ((HBW.out.setCell (p := ⟨g, j, none⟩) hg (.int .u8 v)).drew)
            refine rg_begin (S := fun w' => w'.cell? ⟨g, i, none⟩ = some (.int .u8 v)) 16 #[false, false, false, false, false, false, false, false, false, false, false, false, false, false, false, false] (by kernel_rfl) (by kernel_rfl) (by kernel_rfl) ?_ (fun hHeld => ?_)
            · exact cg
            refine rg_take (i := 0) (d := some 72) (l := #[true, false, false, false, false, false, false, false, false, false, false, false, false, false, false, false]) (fuel := 15) (v := ?_) rfl (by kernel_rfl) (by kernel_rfl) (by kernel_rfl) (by kernel_rfl) (by kernel_rfl) (fun _ _ _ h => h) (by kernel_rfl) ?_ (by assumption) ?_
            rotate_left 1
            · (intro wS hSw; (try dsimp only at hSw); go_simp; try with_reducible rfl)
            try simp only [Act.put, List.setIfInBounds_toArray, List.set_cons_zero, List.set_cons_succ]
            refine rg_take (i := 1) (d := some 73) (l := #[true, true, false, false, false, false, false, false, false, false, false, false, false, false, false, false]) (fuel := 14) (v := ?_) rfl (by kernel_rfl) (by kernel_rfl) (by kernel_rfl) (by kernel_rfl) (by kernel_rfl) (fun _ _ _ h => h) (by kernel_rfl) ?_ (by assumption) ?_
            rotate_left 1
            · (intro wS hSw; (try dsimp only at hSw); go_simp; try with_reducible rfl)
            try simp only [Act.put, List.setIfInBounds_toArray, List.set_cons_zero, List.set_cons_succ]
            refine rg_take (i := 2) (d := some 74) (l := #[true, true, true, false, false, false, false, false, false, false, false, false, false, false, false, false]) (fuel := 13) (v := ?_) rfl (by kernel_rfl) (by kernel_rfl) (by kernel_rfl) (by kernel_rfl) (by kernel_rfl) (fun _ _ _ h => h) (by kernel_rfl) ?_ (by assumption) ?_
            rotate_left 1
            · (intro wS hSw; (try dsimp only at hSw); go_simp; try with_reducible rfl)
            try simp only [Act.put, List.setIfInBounds_toArray, List.set_cons_zero, List.set_cons_succ]
            refine rg_take (i := 3) (d := some 75) (l := #[true, true, true, true, false, false, false, false, false, false, false, false, false, false, false, false]) (fuel := 12) (v := ?_) rfl (by kernel_rfl) (by kernel_rfl) (by kernel_rfl) (by kernel_rfl) (by kernel_rfl) (fun _ _ _ h => h) (by kernel_rfl) ?_ (by assumption) ?_
            rotate_left 1
            · (intro wS hSw; (try dsimp only at hSw); go_simp; try with_reducible rfl)
            try simp only [Act.put, List.setIfInBounds_toArray, List.set_cons_zero, List.set_cons_succ]
            refine rg_take (i := 4) (d := some 76) (l := #[true, true, true, true, true, false, false, false, false, false, false, false, false, false, false, false]) (fuel := 11) (v := ?_) rfl (by kernel_rfl) (by kernel_rfl) (by kernel_rfl) (by kernel_rfl) (by kernel_rfl) (fun _ _ _ h => h) (by kernel_rfl) ?_ (by assumption) ?_
            rotate_left 1
            · (intro wS hSw; (try dsimp only at hSw); go_simp; try with_reducible rfl)
            try simp only [Act.put, List.setIfInBounds_toArray, List.set_cons_zero, List.set_cons_succ]
            refine rg_take (i := 5) (d := some 77) (l := #[true, true, true, true, true, true, false, false, false, false, false, false, false, false, false, false]) (fuel := 10) (v := ?_) rfl (by kernel_rfl) (by kernel_rfl) (by kernel_rfl) (by kernel_rfl) (by kernel_rfl) (fun _ _ _ h => h) (by kernel_rfl) ?_ (by assumption) ?_
            rotate_left 1
            · (intro wS hSw; (try dsimp only at hSw); go_simp; try with_reducible rfl)
            try simp only [Act.put, List.setIfInBounds_toArray, List.set_cons_zero, List.set_cons_succ]
            refine rg_take (i := 6) (d := some 78) (l := #[true, true, true, true, true, true, true, false, false, false, false, false, false, false, false, false]) (fuel := 9) (v := ?_) rfl (by kernel_rfl) (by kernel_rfl) (by kernel_rfl) (by kernel_rfl) (by kernel_rfl) (fun _ _ _ h => h) (by kernel_rfl) ?_ (by assumption) ?_
            rotate_left 1
            · (intro wS hSw; (try dsimp only at hSw); go_simp; try with_reducible rfl)
            try simp only [Act.put, List.setIfInBounds_toArray, List.set_cons_zero, List.set_cons_succ]
            refine rg_take (i := 7) (d := some 79) (l := #[true, true, true, true, true, true, true, true, false, false, false, false, false, false, false, false]) (fuel := 8) (v := ?_) rfl (by kernel_rfl) (by kernel_rfl) (by kernel_rfl) (by kernel_rfl) (by kernel_rfl) (fun _ _ _ h => h) (by kernel_rfl) ?_ (by assumption) ?_
            rotate_left 1
            · (intro wS hSw; (try dsimp only at hSw); go_simp; try with_reducible rfl)
            try simp only [Act.put, List.setIfInBounds_toArray, List.set_cons_zero, List.set_cons_succ]
            refine rg_take (i := 8) (d := some 80) (l := #[true, true, true, true, true, true, true, true, true, false, false, false, false, false, false, false]) (fuel := 7) (v := ?_) rfl (by kernel_rfl) (by kernel_rfl) (by kernel_rfl) (by kernel_rfl) (by kernel_rfl) (fun _ _ _ h => h) (by kernel_rfl) ?_ (by assumption) ?_
            rotate_left 1
            · (intro wS hSw; (try dsimp only at hSw); go_simp; try with_reducible rfl)
            try simp only [Act.put, List.setIfInBounds_toArray, List.set_cons_zero, List.set_cons_succ]
            refine rg_take (i := 9) (d := some 81) (l := #[true, true, true, true, true, true, true, true, true, true, false, false, false, false, false, false]) (fuel := 6) (v := ?_) rfl (by kernel_rfl) (by kernel_rfl) (by kernel_rfl) (by kernel_rfl) (by kernel_rfl) (fun _ _ _ h => h) (by kernel_rfl) ?_ (by assumption) ?_
            rotate_left 1
            · (intro wS hSw; (try dsimp only at hSw); go_simp; try with_reducible rfl)
            try simp only [Act.put, List.setIfInBounds_toArray, List.set_cons_zero, List.set_cons_succ]
            refine rg_take (i := 10) (d := some 82) (l := #[true, true, true, true, true, true, true, true, true, true, true, false, false, false, false, false]) (fuel := 5) (v := ?_) rfl (by kernel_rfl) (by kernel_rfl) (by kernel_rfl) (by kernel_rfl) (by kernel_rfl) (fun _ _ _ h => h) (by kernel_rfl) ?_ (by assumption) ?_
            rotate_left 1
            · (intro wS hSw; (try dsimp only at hSw); go_simp; try with_reducible rfl)
            try simp only [Act.put, List.setIfInBounds_toArray, List.set_cons_zero, List.set_cons_succ]
            refine rg_take (i := 11) (d := some 83) (l := #[true, true, true, true, true, true, true, true, true, true, true, true, false, false, false, false]) (fuel := 4) (v := ?_) rfl (by kernel_rfl) (by kernel_rfl) (by kernel_rfl) (by kernel_rfl) (by kernel_rfl) (fun _ _ _ h => h) (by kernel_rfl) ?_ (by assumption) ?_
            rotate_left 1
            · (intro wS hSw; (try dsimp only at hSw); go_simp; try with_reducible rfl)
            try simp only [Act.put, List.setIfInBounds_toArray, List.set_cons_zero, List.set_cons_succ]
            refine rg_take (i := 12) (d := some 84) (l := #[true, true, true, true, true, true, true, true, true, true, true, true, true, false, false, false]) (fuel := 3) (v := ?_) rfl (by kernel_rfl) (by kernel_rfl) (by kernel_rfl) (by kernel_rfl) (by kernel_rfl) (fun _ _ _ h => h) (by kernel_rfl) ?_ (by assumption) ?_
            rotate_left 1
            · (intro wS hSw; (try dsimp only at hSw); go_simp; try with_reducible rfl)
            try simp only [Act.put, List.setIfInBounds_toArray, List.set_cons_zero, List.set_cons_succ]
            refine rg_take (i := 13) (d := some 85) (l := #[true, true, true, true, true, true, true, true, true, true, true, true, true, true, false, false]) (fuel := 2) (v := ?_) rfl (by kernel_rfl) (by kernel_rfl) (by kernel_rfl) (by kernel_rfl) (by kernel_rfl) (fun _ _ _ h => h) (by kernel_rfl) ?_ (by assumption) ?_
            rotate_left 1
            · (intro wS hSw; (try dsimp only at hSw); go_simp; try with_reducible rfl)
            try simp only [Act.put, List.setIfInBounds_toArray, List.set_cons_zero, List.set_cons_succ]
            refine rg_take (i := 14) (d := some 86) (l := #[true, true, true, true, true, true, true, true, true, true, true, true, true, true, true, false]) (fuel := 1) (v := ?_) rfl (by kernel_rfl) (by kernel_rfl) (by kernel_rfl) (by kernel_rfl) (by kernel_rfl) (fun _ _ _ h => h) (by kernel_rfl) ?_ (by assumption) ?_
            rotate_left 1
            · (intro wS hSw; (try dsimp only at hSw); go_simp; try with_reducible rfl)
            try simp only [Act.put, List.setIfInBounds_toArray, List.set_cons_zero, List.set_cons_succ]
            refine rg_next (i := 15) (l := #[true, true, true, true, true, true, true, true, true, true, true, true, true, true, true, true]) (fuel := 0) (by kernel_rfl) rfl (by kernel_rfl) (by kernel_rfl) (fun K hK => ?_)
            go_simp
            skip
            first | (refine hK.out _ _ ?_ (fun hHeld => ?_)) | (go_wp2_with fail; refine hK.out _ _ ?_ (fun hHeld => ?_))
            · (try dsimp only); exact BI
            clear hK K
            try simp only [Act.put, List.setIfInBounds_toArray, List.set_cons_zero, List.set_cons_succ]
            refine wpAnyH_done (by kernel_rfl) ?_ _
            go_wp2_with fail
            go_roundw
            case rel =>
              refine ⟨q + 1, by omega, by go_num, ⟨_, B1, fun jj hjj => ?_⟩, BLW.out⟩
              rw [EM.out, Array.getElem?_setIfInBounds]
              simp only [Int.toNat_natCast, HI.out, HJ.out, hv]
              by_cases e : jj = j
              · rw [if_pos e.symm, if_pos e, if_pos (by omega)]
              · rw [if_neg (fun x => e x.symm), if_neg e]; exact HDZ.out jj hjj
            case measure => simp [intOf]; omega
          · obtain rfl : q = m := by omega
            have R2 : IRow wr .u8 (some ⟨g, 0, none⟩) n (mvM K f t n z (List.range q)) := fun j hj => by
              have h5 := mvM_bd K f t n z hn0 HBD.out (List.range q) j hj
              refine ⟨⟨g, 0, none⟩, rfl, hD.lt, ?_, by simp [Lit.wf, IntKind.min, IntKind.max, IntKind.signed, IntKind.bits]; omega⟩
              rw [add_zero_block, hD.cell]
              exact hDz j hj
            have HR2 := Lib.hid R2
            clear R2 hD hDz
            have hqq : ¬ (q : Int) < q := by omega
            go_wp2_with (go_at_call 32; refine (hC _).mono ?_; rintro e w' ⟨rfl, rfl⟩)
            refine (asame2 (by unfold maxLen; omega) (HR1.out.keep hB) HR2.out (fun i _ => rfl)).mono ?_
            rintro e w5 ⟨rfl, b⟩
            have HB5 := Lib.hid (HB1.out.trans ((hB.trans (b.mono hB.size)).mono s1))
            clear b hB
            go_wp2_with fail
            go_ret
            exact ⟨rfl, HB5.out⟩

theorem own : ownKnob Tryd.prog.godebug = none := by kernel_rfl
theorem laidOut : laidOutB Tryd.prog = true := by kernel_rfl
theorem door_met (os : Os) (args : Array Value) : laidMetH Tryd.prog laid2 ((World.doorLaid Tryd.prog 400 os).forCall (fun _ _ => 0) ⟨#[], args, []⟩).memory :=
  laidMetH_of_parts3 (fuel := 8) (laidMet_of_run' 8 (by kernel_rfl) (by kernel_rfl)) (by kernel_rfl) (by kernel_rfl)
set_option maxRecDepth 100000 in
theorem lifted (os : Os) (started : os.Started) (H : Type) (enc : TypeId × Value → H) :
    ReturnsInHanded {} Tryd.checked os 8 .any (fun w args => (Rows.movesApplySpec.pre enc Tryd.prog Tryd.f8 [] false w args ∧ laidMetH Tryd.prog laid2 w) ∧ sizedMet enc Tryd.prog Tryd.f8 (OpenSpec.ofChange Rows.movesApplySpec) false w args)
      (Rows.movesApplySpec.post enc Tryd.prog Tryd.f8 false true false false) := by
  refine returnsInHanded_of_change_and (C := Tryd.checked) (X := fun w _ => laidMetH Tryd.prog laid2 w) (fun _ _ _ hh h => h.of_heap hh) own started (by kernel_rfl) Tryd.func8
    (ChangeSpec.witness_shaped (enc := enc) (C := Tryd.checked) (os := os) (X := fun w _ => laidMetH Tryd.prog laid2 w) false (World.doorLaid Tryd.prog 400 os) #[.int .u8 0, .int .u16 0, .int .u16 0, .int .u16 0, .slice none 0 0] 8 rfl (World.shaped_of_RefB (by kernel_rfl) (by kernel_rfl)) (by kernel_rfl) (by kernel_rfl) (by kernel_rfl) (door_met os _)) ?_
  intro W base args ds gs before hval0 hW _ _ hL0 _
  have hL : laidMetH Tryd.prog laid2 W := hL0
  rw [MakeChecks.laidMetH_plain _ _ _ (by kernel_rfl)] at hL
  have HT := of_laid hL
  have hval : ∀ (j : Nat) t v, Tryd.f8.params[j]? = some t → args[j]? = some v → Value.okWide Tryd.prog W .any base t v := hval0
  have hW' := hW
  obtain ⟨p, q, hA0, hV, rfl, _, _⟩ := hW
  have hA : DataW.TrodAll enc Tryd.prog W 0 (fun _ => true) true Tryd.f8.params.toList args.toList ds p := hA0
  rw [Tryd.params8] at hA hval
  obtain ⟨v0, vs0, d0, ds0, p0, q0, hargs, rfl, rfl, h0, r0⟩ := trodAll_cons hA
  obtain ⟨v1, vs1, d1, ds1, p1, q1, rfl, rfl, rfl, h1, r1⟩ := trodAll_cons r0
  obtain ⟨v2, vs2, d2, ds2, p2, q2, rfl, rfl, rfl, h2, r2⟩ := trodAll_cons r1
  obtain ⟨v3, vs3, d3, ds3, p3, q3, rfl, rfl, rfl, h3, r3⟩ := trodAll_cons r2
  obtain ⟨v4, vs4, d4, ds4, p4, q4, rfl, rfl, rfl, h4, r4⟩ := trodAll_cons r3
  obtain ⟨rfl, rfl, rfl⟩ := trodAll_nil r4
  obtain rfl : args = #[v0, v1, v2, v3, v4] := by cases args; simp_all
  obtain ⟨rfl, rfl⟩ := trodVars_none hV
  obtain ⟨a0, rfl, rfl, rfl, w0⟩ := open_int Tryd.underlying5 (hval 0 5 v0 rfl rfl) h0
  obtain ⟨a1, rfl, rfl, rfl, w1⟩ := open_int Tryd.underlying22 (hval 1 22 v1 rfl rfl) h1
  obtain ⟨a2, rfl, rfl, rfl, w2⟩ := open_int Tryd.underlying22 (hval 2 22 v2 rfl rfl) h2
  obtain ⟨a3, rfl, rfl, rfl, w3⟩ := open_int Tryd.underlying22 (hval 3 22 v3 rfl rfl) h3
  obtain ⟨A4, n4, c4, z4, rfl, g4, m4, R4⟩ := slice_ints Tryd.underlying26 Tryd.underlying5 (by kernel_rfl) (hval 4 26 v4 rfl rfl) h4
  clear hA0 hval0
  refine (walk a0 w0 a1 w1 a2 w2 a3 w3 A4 n4 c4 z4 g4 m4 R4 HT).mono fun e W' ⟨he, hg⟩ => ?_
  subst he
  exact ⟨_, rfl, law_post rfl Tryd.underlying4 laidOut (by kernel_rfl) rfl hW' rfl hg⟩

theorem over : Rows.movesApplyRow.holds Tryd.pinned (OpenSpec.ofChange Rows.movesApplySpec) :=
  OpenClaim.holds_of_wide 8 Tryd.f8 rfl rfl rfl rfl rfl rfl rfl ⟨rfl, rfl, rfl, rfl, rfl⟩ rfl rfl rfl rfl rfl (by kernel_rfl) Tryd.func8 (by kernel_rfl)
    (of_decide_eq_true (by kernel_rfl)) (by unfold Func.isWrapper; first | (rw [if_pos (by decide +kernel)]; kernel_rfl) | (rw [if_neg (by decide +kernel)]; exact ⟨rfl, rfl⟩))
    (fun os started H enc _ => lifted os started H enc)

theorem proved : Rows.MovesApplyCardSaid :=
  Claim7.holds_tied_plain_at .later [] [.data] true _ false
    over (fun _ h => by cases h) (by kernel_rfl) (fun _ h => by cases h) movesApply_row_tie rfl ⟨rfl, rfl⟩ (by kernel_rfl) rfl
    (fun f fn hf hfn => by
      obtain rfl : f = 8 := Option.some.inj ((show Tryd.prog.funcNamed "gannet/gannetlaw26.MovesApply" = some 8 by kernel_rfl).symm.trans hf) |>.symm
      obtain rfl : fn = Tryd.f8 := (Option.some.inj (Tryd.func8.symm.trans hfn)).symm
      exact ⟨by kernel_rfl, fun j t ht => by
        rw [Tryd.params8] at ht
        have hm : t ∈ [5, 22, 22, 22, 26] := by simpa using Array.mem_of_getElem? ht
        have hall : ([5, 22, 22, 22, 26].all fun u => !Tryd.prog.wantsStandIn u) = true := by kernel_rfl
        exact (show Tryd.prog.wantsStandIn t = false by simpa using List.all_eq_true.1 hall t hm)⟩)
    (by kernel_rfl)
#print axioms proved
end Go.Proofs.YtdfjpdcnjjgljaaDoor.movesApply
