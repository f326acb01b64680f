/-
  For every input TimingBounds returns true, and each argument reads behind the call as it read before. The one condition: when the call begins the package-level variables that the row lists hold what the program lays in them (TIED: the card shows it of the text of the project, pruned to the packages that this seat loads).
-/
import Derived.Test.YtmbbcfdeielopaaDoorRRRRRows
import Derived.Test.YtmbbcfdeielopaaDoorRRRRKTM01
import Derived.SevenTiedAt
import Derived.ProofKit
import Derived.LaidMore
import Derived.OpenShut
import Derived.Stop.Joined
import Derived.Test.YtmbbcfdeielopaaDoorRRRRCards
import Derived.Test.YtmbbcfdeielopaaDoorRRRRTie
import Derived.Test.YtmbbcfdeielopaaDoorRRRRKTM39
import Derived.Test.YtmbbcfdeielopaaDoorRRRRKTM10
import Derived.Test.YtmbbcfdeielopaaDoorRRRRKTM40
namespace Go.Proofs.YtmbbcfdeielopaaDoorRRRR.timingBounds
open Go.ChangeShapes Go.WideShapes Go.ChangeAt Go.RowKit
open Go.ChangeMaps (open_string)

set_option linter.unusedVariables false
set_option linter.unusedSimpArgs false
set_option maxRecDepth 100000 in
set_option maxHeartbeats 8000000 in
theorem walk (b : Int) (wb : (Lit.int .u8 b).wf = true) (T D K : Bool) (n : Int) (wn : (Lit.int .i64 n).wf = true) (A : Option Addr) (q c : Nat) (zl : Nat → Int) (gc : q ≤ c) (mc : c ≤ maxLen) {W : World} (R : IRow W .u8 A q zl) (hT : Tabs W) :
    Calls Tryd.prog 5 #[.int .u8 b, .agg (fcA T D K n), .slice A q c] W fun e w' => e = .returned (.bool true) ∧ Below W.heap.size W w' := by
  obtain ⟨b0, b1⟩ := bounds_u8 wb
  obtain ⟨b, rfl⟩ : ∃ m : Nat, b = m := ⟨b.toNat, by omega⟩
  have hb256 : b < 256 := by omega
  have hLs := fun W => tlist_own b hb256 T D K n W
  have hfx := tmL_facts b hb256 T D K n
  generalize tmL b T D K n = L at hLs hfx
  obtain ⟨f1, f2, f3, f4⟩ := hfx
  have HR := Lib.hid R
  have HF4x := Lib.hid f4
  have HF3x := Lib.hid f3
  unfold maxLen at mc
  have hq63 : (q : Int) ≤ 9223372036854775807 := by omega
  clear wb wn R b0 b1 hb256 f4 f3
  have K0 : Hid (Blk (W.alloc (.cells (fcA T D K n) 23)) W.heap.size 23 (fcA T D K n)) := Lib.hid (Blk.new W _ _)
  have HB0 : Hid (Below W.heap.size W (W.alloc (.cells (fcA T D K n) 23))) := Lib.hid ((Below.refl _ W).alloc (Nat.le_refl _) _)
  have HF4 : Hid ((Tryd.prog.info? 23).map (·.size) = some (fcA T D K n).size) := Lib.hid (by kernel_rfl)
  obtain ⟨g, hg⟩ : ∃ g, W.heap.size = g := ⟨_, rfl⟩
  obtain ⟨W0, hw0⟩ : ∃ W0, W.alloc (.cells (fcA T D K n) 23) = W0 := ⟨_, rfl⟩
  rw [hw0] at K0 HB0
  rw [hg] at K0
  have HG := Lib.hid hg
  have HW0 := Lib.hid hw0
  clear hw0 hT
  by_cases h1 : (300 : Int) < q
  · skip
    go_enter Tryd.func5, Tryd.ntmps5
    go_upto_region 1 with fail
    rw [HW0.out]
    have hg0 : W.heap.size = g := HG.out
    clear hg
    (try rw [hg0])
    clear hg0
    go_wp2_with fail
    refine (live29_any _).mono ?_
    rintro e W1 ⟨rfl, hb⟩
    have K1 := Lib.hid (K0.out.below hb K0.out.lt)
    have HB1 := Lib.hid (HB0.out.trans (hb.mono HB0.out.size))
    clear hb K0 HB0
    have d0 : W1.cell? ⟨g, 0, none⟩ = some (.bool T) := K1.out.cell 0
    have d1 : W1.cell? ⟨g, 1, none⟩ = some (.bool D) := K1.out.cell 1
    have d2 : W1.cell? ⟨g, 2, none⟩ = some (.bool K) := K1.out.cell 2
    have d3 : W1.cell? ⟨g, 3, none⟩ = some (.int .i64 n) := K1.out.cell 3
    go_wp2_with fail
    go_ret
    exact ⟨rfl, HB1.out⟩
  by_cases h2 : (1000 : Int) < n ∧ n ≠ 65536
  · obtain ⟨g1, g2x⟩ := h2
    have g2 : ((n : Int) != 65536) = true := by simpa using g2x
    clear g2x
    go_enter Tryd.func5, Tryd.ntmps5
    go_upto_region 1 with fail
    rw [HW0.out]
    have hg0 : W.heap.size = g := HG.out
    clear hg
    (try rw [hg0])
    clear hg0
    go_wp2_with fail
    refine (live29_any _).mono ?_
    rintro e W1 ⟨rfl, hb⟩
    have K1 := Lib.hid (K0.out.below hb K0.out.lt)
    have HB1 := Lib.hid (HB0.out.trans (hb.mono HB0.out.size))
    clear hb K0 HB0
    have d0 : W1.cell? ⟨g, 0, none⟩ = some (.bool T) := K1.out.cell 0
    have d1 : W1.cell? ⟨g, 1, none⟩ = some (.bool D) := K1.out.cell 1
    have d2 : W1.cell? ⟨g, 2, none⟩ = some (.bool K) := K1.out.cell 2
    have d3 : W1.cell? ⟨g, 3, none⟩ = some (.int .i64 n) := K1.out.cell 3
    go_wp2_with fail
    go_ret
    exact ⟨rfl, HB1.out⟩
  have hq3 : q ≤ 300 := by omega
  have hn12 : n ≤ 1000 ∨ (1000 < n ∧ n = 65536) := by omega
  clear h2
  rcases hn12 with g1x | ⟨g1, g2x⟩
  · have g1 : ¬ (1000 : Int) < n := by omega
    clear g1x
    go_enter Tryd.func5, Tryd.ntmps5
    go_upto_region 1 with fail
    rw [HW0.out]
    have hg0 : W.heap.size = g := HG.out
    clear hg
    (try rw [hg0])
    clear hg0
    go_wp2_with fail
    refine (live29_any _).mono ?_
    rintro e W1 ⟨rfl, hb⟩
    have K1 := Lib.hid (K0.out.below hb K0.out.lt)
    have HB1 := Lib.hid (HB0.out.trans (hb.mono HB0.out.size))
    clear hb K0 HB0
    have d0 : W1.cell? ⟨g, 0, none⟩ = some (.bool T) := K1.out.cell 0
    have d1 : W1.cell? ⟨g, 1, none⟩ = some (.bool D) := K1.out.cell 1
    have d2 : W1.cell? ⟨g, 2, none⟩ = some (.bool K) := K1.out.cell 2
    have d3 : W1.cell? ⟨g, 3, none⟩ = some (.int .i64 n) := K1.out.cell 3
    have kk := K1.out
    go_wp2_with (first | (refine wpList_load_row rfl 23 (.tmp 4) rfl g (by rfl) 23 (fcA T D K n) (0, 0) _ kk Tryd.underlying23 rfl HF4.out ?_) | (refine wpList_load_row_want (by rfl) 23 (.tmp 4) rfl g (by rfl) 23 (fcA T D K n) (0, 0) _ kk Tryd.underlying23 rfl HF4.out ?_))
    refine (hLs _).mono ?_
    rintro e W2 ⟨v, rfl, ⟨B, cap, rfl, RL⟩, hb⟩
    have HB2 := Lib.hid (HB1.out.trans (hb.mono HB1.out.size))
    have HQ := Lib.hid (HR.out.keep HB2.out)
    have HRL := Lib.hid RL
    obtain ⟨ad, rfl, hal, hc0, hw0⟩ := RL 0 (by omega)
    have hc1 : W2.cell? ad = some (.int .u8 0) := by
      have := hc0
      dsimp only at this
      rw [HF3x.out] at this
      simpa [Addr.add] using this
    clear hb d0 d1 d2 d3 kk K1 HB1 RL hal hc0 hw0
    go_wp2_with (go_at_call 17; refine (tlongest_any _).mono ?_; rintro e w' ⟨rfl, rfl⟩)
    go_loop [8] (fun i => ∃ j : Nat, 1 ≤ j ∧ j ≤ L.length ∧ i = .int .i64 j) (fun i => L.length - (intOf i).toNat)
    case atStart => exact ⟨1, by omega, by omega, rfl⟩
    case round =>
      obtain ⟨j, hj1, hj2, rfl⟩ := hrel
      by_cases hlt : j < L.length
      · obtain ⟨ad2, he2, hal, hc, hw⟩ := HRL.out j hlt
        injection he2 with he2
        subst he2
        obtain ⟨x1, x2⟩ := HF4x.out j hj1 hlt
        obtain ⟨x, hx⟩ : ∃ x, (kdL L).getD j 0 = x := ⟨_, rfl⟩
        dsimp only at hc
        rw [hx] at hc x1 x2
        have e0 : (x == 0) = false := by simp; omega
        have e7 : ¬ (7 : Int) < x := by omega
        clear hx hal hw
        go_wp2_with fail
        go_round
        case rel => exact ⟨j + 1, by omega, by omega, by go_num⟩
        case measure => simp [intOf]; omega
      · have hje : j = L.length := by omega
        subst hje
        clear hlt hj2 hc1
        go_wp2_with fail
        go_loopw [9, 10] (fun m i wr => ∃ k : Nat, k ≤ q ∧ i = .int .i64 k ∧ m = .int .i64 (bigM zl k) ∧ Below W.heap.size W wr) (fun _ i _ => q - (intOf i).toNat)
        case atStart => exact ⟨0, by omega, rfl, rfl, HB2.out⟩
        case round =>
          obtain ⟨k, hk, rfl, rfl, hB⟩ := hrel
          have HBk := Lib.hid hB
          clear hB
          have hwf : ∀ i, i < q → 0 ≤ zl i ∧ zl i ≤ 255 := fun i hi => by obtain ⟨_, _, _, _, h⟩ := HR.out i hi; exact bounds_u8 h
          have HBD := Lib.hid (bigM_bd zl q hwf k hk)
          by_cases hkq : k < q
          · obtain ⟨ad2, rfl, hal, hc, hw⟩ := HR.out k hkq
            obtain ⟨z0, z1⟩ := bounds_u8 hw
            have hc2 : wr.cell? (ad2.add k) = some (.int .u8 (zl k)) := (HBk.out.cell (by rw [block_of_add]; exact hal)).trans hc
            obtain ⟨u, hu⟩ : ∃ u : Nat, zl k = (u : Int) := ⟨(zl k).toNat, by omega⟩
            have hu256 : u < 256 := by omega
            have hS : Hid (bigM zl (k + 1) = if bigM zl k < cntM u then cntM u else bigM zl k) := Lib.hid (by show (if bigM zl k < cntM (zl k).toNat then cntM (zl k).toNat else bigM zl k) = _; rw [hu]; rfl)
            have hLt := fun W => rlet_any u hu256 true true true 0 (fun _ => by omega) W
            have hRo := fun W => rof_any u hu256 W
            unfold rV at hRo
            obtain ⟨cn1, cn2⟩ := cnt_facts u hu256
            have hcb := cntM_bd u hu256
            have hsz := mkS_size (tmL u true true true 0)
            rw [hu] at hc2 z0 z1
            generalize opM u = m at hRo cn1 cn2
            generalize mkS (opN u) = S at hRo
            generalize opZ u = z at hRo
            generalize (opY u : Int) = y at hRo
            generalize opK u = kn at hRo
            have hfl := fun (W : World) => (show (Instr.field 28 (.agg #[.string S, .int .u8 (m : Int), .int .i64 z, .int .i64 y, .bool kn]) 1).run Tryd.prog W = .ok (.int .u8 (m : Int)) W by kernel_rfl)
            generalize mkS (tmL u true true true 0) = X at hLt hsz
            rw [← hsz] at cn2
            obtain ⟨M, hM⟩ : ∃ M, bigM zl k = M := ⟨_, rfl⟩
            have HBDk := HBD.out
            rw [hM] at HBDk
            obtain ⟨C, hC⟩ : ∃ C, cntM u = C := ⟨_, rfl⟩
            rw [hC] at cn1 cn2 hcb
            have HMM := Lib.hid hM
            have HCC := Lib.hid hC
            have HC1 := Lib.hid cn1
            have HC2 := Lib.hid cn2
            obtain ⟨m0, m1⟩ := HBDk
            obtain ⟨C0, C1⟩ := hcb
            rw [hM]
            clear hal hc hw hu hsz hM hC cn1 cn2 hwf
            by_cases h19 : m = 19
            · have e19 : ((m : Int) == 19) = true := by simp; omega
              have hCv : C = 393233 := HC1.out h19
              have HCV := Lib.hid hCv
              clear h19 hCv
              by_cases hlt : M < 393233
              all_goals
                go_wp2_with fail
                refine (hLt _).mono ?_
                rintro e W4 ⟨rfl, hb⟩
                have HB4 := Lib.hid (HBk.out.trans (hb.mono HBk.out.size))
                have hc4 : W4.cell? (ad2.add k) = some (.int .u8 (u : Int)) := (hb.cell (cell_lt hc2)).trans hc2
                clear hb
                go_wp2_with fail
                refine (hRo _).mono ?_
                rintro e W5 ⟨rfl, hb⟩
                have HB5 := Lib.hid (HB4.out.trans (hb.mono HB4.out.size))
                clear hb hc4
                go_wp2_with fail
                go_roundw
                case rel => exact ⟨k + 1, by omega, by go_num, by rw [hS.out, HMM.out, HCC.out, HCV.out]; first | rw [if_pos (by omega)] | rw [if_neg (by omega)], HB5.out⟩
                case measure => simp [intOf]; omega
            · have e19 : ((m : Int) == 19) = false := by simp; omega
              have hCv : C = (X.size : Int) := HC2.out h19
              have HCV := Lib.hid hCv
              have hX : (X.size : Int) ≤ 400000 := by omega
              clear h19 hCv
              by_cases hlt : M < (X.size : Int)
              all_goals
                go_wp2_with fail
                refine (hLt _).mono ?_
                rintro e W4 ⟨rfl, hb⟩
                have HB4 := Lib.hid (HBk.out.trans (hb.mono HBk.out.size))
                have hc4 : W4.cell? (ad2.add k) = some (.int .u8 (u : Int)) := (hb.cell (cell_lt hc2)).trans hc2
                clear hb
                go_wp2_with fail
                refine (hRo _).mono ?_
                rintro e W5 ⟨rfl, hb⟩
                have HB5 := Lib.hid (HB4.out.trans (hb.mono HB4.out.size))
                clear hb hc4
                go_wp2_with fail
                go_roundw
                case rel => exact ⟨k + 1, by omega, by go_num, by rw [hS.out, HMM.out, HCC.out, HCV.out]; first | rw [if_pos (by omega)] | rw [if_neg (by omega)], HB5.out⟩
                case measure => simp [intOf]; omega
          · obtain rfl : k = q := by omega
            have hRk := HR.out.keep HBk.out
            have hbe := tbehind_any A k c zl (by omega) wr hRk
            obtain ⟨M, hM⟩ : ∃ M, bigM zl k = M := ⟨_, rfl⟩
            have HBDk := HBD.out
            rw [hM] at HBDk hbe ⊢
            obtain ⟨m0, m1⟩ := HBDk
            clear hM hRk hwf
            go_wp2_with fail
            refine hbe.mono ?_
            rintro e W4 ⟨rfl, hb⟩
            have HB4 := Lib.hid (HBk.out.trans (hb.mono HBk.out.size))
            clear hb
            go_wp2_with fail
            go_ret
            exact ⟨rfl, HB4.out⟩
  · have g2 : ((n : Int) != 65536) = false := by simp [g2x]
    clear g2x
    go_enter Tryd.func5, Tryd.ntmps5
    go_upto_region 1 with fail
    rw [HW0.out]
    have hg0 : W.heap.size = g := HG.out
    clear hg
    (try rw [hg0])
    clear hg0
    go_wp2_with fail
    refine (live29_any _).mono ?_
    rintro e W1 ⟨rfl, hb⟩
    have K1 := Lib.hid (K0.out.below hb K0.out.lt)
    have HB1 := Lib.hid (HB0.out.trans (hb.mono HB0.out.size))
    clear hb K0 HB0
    have d0 : W1.cell? ⟨g, 0, none⟩ = some (.bool T) := K1.out.cell 0
    have d1 : W1.cell? ⟨g, 1, none⟩ = some (.bool D) := K1.out.cell 1
    have d2 : W1.cell? ⟨g, 2, none⟩ = some (.bool K) := K1.out.cell 2
    have d3 : W1.cell? ⟨g, 3, none⟩ = some (.int .i64 n) := K1.out.cell 3
    have kk := K1.out
    go_wp2_with (first | (refine wpList_load_row rfl 23 (.tmp 4) rfl g (by rfl) 23 (fcA T D K n) (0, 0) _ kk Tryd.underlying23 rfl HF4.out ?_) | (refine wpList_load_row_want (by rfl) 23 (.tmp 4) rfl g (by rfl) 23 (fcA T D K n) (0, 0) _ kk Tryd.underlying23 rfl HF4.out ?_))
    refine (hLs _).mono ?_
    rintro e W2 ⟨v, rfl, ⟨B, cap, rfl, RL⟩, hb⟩
    have HB2 := Lib.hid (HB1.out.trans (hb.mono HB1.out.size))
    have HQ := Lib.hid (HR.out.keep HB2.out)
    have HRL := Lib.hid RL
    obtain ⟨ad, rfl, hal, hc0, hw0⟩ := RL 0 (by omega)
    have hc1 : W2.cell? ad = some (.int .u8 0) := by
      have := hc0
      dsimp only at this
      rw [HF3x.out] at this
      simpa [Addr.add] using this
    clear hb d0 d1 d2 d3 kk K1 HB1 RL hal hc0 hw0
    go_wp2_with (go_at_call 17; refine (tlongest_any _).mono ?_; rintro e w' ⟨rfl, rfl⟩)
    go_loop [8] (fun i => ∃ j : Nat, 1 ≤ j ∧ j ≤ L.length ∧ i = .int .i64 j) (fun i => L.length - (intOf i).toNat)
    case atStart => exact ⟨1, by omega, by omega, rfl⟩
    case round =>
      obtain ⟨j, hj1, hj2, rfl⟩ := hrel
      by_cases hlt : j < L.length
      · obtain ⟨ad2, he2, hal, hc, hw⟩ := HRL.out j hlt
        injection he2 with he2
        subst he2
        obtain ⟨x1, x2⟩ := HF4x.out j hj1 hlt
        obtain ⟨x, hx⟩ : ∃ x, (kdL L).getD j 0 = x := ⟨_, rfl⟩
        dsimp only at hc
        rw [hx] at hc x1 x2
        have e0 : (x == 0) = false := by simp; omega
        have e7 : ¬ (7 : Int) < x := by omega
        clear hx hal hw
        go_wp2_with fail
        go_round
        case rel => exact ⟨j + 1, by omega, by omega, by go_num⟩
        case measure => simp [intOf]; omega
      · have hje : j = L.length := by omega
        subst hje
        clear hlt hj2 hc1
        go_wp2_with fail
        go_loopw [9, 10] (fun m i wr => ∃ k : Nat, k ≤ q ∧ i = .int .i64 k ∧ m = .int .i64 (bigM zl k) ∧ Below W.heap.size W wr) (fun _ i _ => q - (intOf i).toNat)
        case atStart => exact ⟨0, by omega, rfl, rfl, HB2.out⟩
        case round =>
          obtain ⟨k, hk, rfl, rfl, hB⟩ := hrel
          have HBk := Lib.hid hB
          clear hB
          have hwf : ∀ i, i < q → 0 ≤ zl i ∧ zl i ≤ 255 := fun i hi => by obtain ⟨_, _, _, _, h⟩ := HR.out i hi; exact bounds_u8 h
          have HBD := Lib.hid (bigM_bd zl q hwf k hk)
          by_cases hkq : k < q
          · obtain ⟨ad2, rfl, hal, hc, hw⟩ := HR.out k hkq
            obtain ⟨z0, z1⟩ := bounds_u8 hw
            have hc2 : wr.cell? (ad2.add k) = some (.int .u8 (zl k)) := (HBk.out.cell (by rw [block_of_add]; exact hal)).trans hc
            obtain ⟨u, hu⟩ : ∃ u : Nat, zl k = (u : Int) := ⟨(zl k).toNat, by omega⟩
            have hu256 : u < 256 := by omega
            have hS : Hid (bigM zl (k + 1) = if bigM zl k < cntM u then cntM u else bigM zl k) := Lib.hid (by show (if bigM zl k < cntM (zl k).toNat then cntM (zl k).toNat else bigM zl k) = _; rw [hu]; rfl)
            have hLt := fun W => rlet_any u hu256 true true true 0 (fun _ => by omega) W
            have hRo := fun W => rof_any u hu256 W
            unfold rV at hRo
            obtain ⟨cn1, cn2⟩ := cnt_facts u hu256
            have hcb := cntM_bd u hu256
            have hsz := mkS_size (tmL u true true true 0)
            rw [hu] at hc2 z0 z1
            generalize opM u = m at hRo cn1 cn2
            generalize mkS (opN u) = S at hRo
            generalize opZ u = z at hRo
            generalize (opY u : Int) = y at hRo
            generalize opK u = kn at hRo
            have hfl := fun (W : World) => (show (Instr.field 28 (.agg #[.string S, .int .u8 (m : Int), .int .i64 z, .int .i64 y, .bool kn]) 1).run Tryd.prog W = .ok (.int .u8 (m : Int)) W by kernel_rfl)
            generalize mkS (tmL u true true true 0) = X at hLt hsz
            rw [← hsz] at cn2
            obtain ⟨M, hM⟩ : ∃ M, bigM zl k = M := ⟨_, rfl⟩
            have HBDk := HBD.out
            rw [hM] at HBDk
            obtain ⟨C, hC⟩ : ∃ C, cntM u = C := ⟨_, rfl⟩
            rw [hC] at cn1 cn2 hcb
            have HMM := Lib.hid hM
            have HCC := Lib.hid hC
            have HC1 := Lib.hid cn1
            have HC2 := Lib.hid cn2
            obtain ⟨m0, m1⟩ := HBDk
            obtain ⟨C0, C1⟩ := hcb
            rw [hM]
            clear hal hc hw hu hsz hM hC cn1 cn2 hwf
            by_cases h19 : m = 19
            · have e19 : ((m : Int) == 19) = true := by simp; omega
              have hCv : C = 393233 := HC1.out h19
              have HCV := Lib.hid hCv
              clear h19 hCv
              by_cases hlt : M < 393233
              all_goals
                go_wp2_with fail
                refine (hLt _).mono ?_
                rintro e W4 ⟨rfl, hb⟩
                have HB4 := Lib.hid (HBk.out.trans (hb.mono HBk.out.size))
                have hc4 : W4.cell? (ad2.add k) = some (.int .u8 (u : Int)) := (hb.cell (cell_lt hc2)).trans hc2
                clear hb
                go_wp2_with fail
                refine (hRo _).mono ?_
                rintro e W5 ⟨rfl, hb⟩
                have HB5 := Lib.hid (HB4.out.trans (hb.mono HB4.out.size))
                clear hb hc4
                go_wp2_with fail
                go_roundw
                case rel => exact ⟨k + 1, by omega, by go_num, by rw [hS.out, HMM.out, HCC.out, HCV.out]; first | rw [if_pos (by omega)] | rw [if_neg (by omega)], HB5.out⟩
                case measure => simp [intOf]; omega
            · have e19 : ((m : Int) == 19) = false := by simp; omega
              have hCv : C = (X.size : Int) := HC2.out h19
              have HCV := Lib.hid hCv
              have hX : (X.size : Int) ≤ 400000 := by omega
              clear h19 hCv
              by_cases hlt : M < (X.size : Int)
              all_goals
                go_wp2_with fail
                refine (hLt _).mono ?_
                rintro e W4 ⟨rfl, hb⟩
                have HB4 := Lib.hid (HBk.out.trans (hb.mono HBk.out.size))
                have hc4 : W4.cell? (ad2.add k) = some (.int .u8 (u : Int)) := (hb.cell (cell_lt hc2)).trans hc2
                clear hb
                go_wp2_with fail
                refine (hRo _).mono ?_
                rintro e W5 ⟨rfl, hb⟩
                have HB5 := Lib.hid (HB4.out.trans (hb.mono HB4.out.size))
                clear hb hc4
                go_wp2_with fail
                go_roundw
                case rel => exact ⟨k + 1, by omega, by go_num, by rw [hS.out, HMM.out, HCC.out, HCV.out]; first | rw [if_pos (by omega)] | rw [if_neg (by omega)], HB5.out⟩
                case measure => simp [intOf]; omega
          · obtain rfl : k = q := by omega
            have hRk := HR.out.keep HBk.out
            have hbe := tbehind_any A k c zl (by omega) wr hRk
            obtain ⟨M, hM⟩ : ∃ M, bigM zl k = M := ⟨_, rfl⟩
            have HBDk := HBD.out
            rw [hM] at HBDk hbe ⊢
            obtain ⟨m0, m1⟩ := HBDk
            clear hM hRk hwf
            go_wp2_with fail
            refine hbe.mono ?_
            rintro e W4 ⟨rfl, hb⟩
            have HB4 := Lib.hid (HBk.out.trans (hb.mono HBk.out.size))
            clear hb
            go_wp2_with fail
            go_ret
            exact ⟨rfl, HB4.out⟩

theorem own : ownKnob Tryd.prog.godebug = none := by kernel_rfl
theorem laidOut : laidOutB Tryd.prog = true := by kernel_rfl
set_option maxRecDepth 100000 in
theorem lifted (os : Os) (started : os.Started) (H : Type) (enc : TypeId × Value → H) :
    ReturnsInHanded {} Tryd.checked os 5 .any (fun w args => (Rows.timingBoundsSpec.pre enc Tryd.prog Tryd.f5 [] false w args ∧ laidMetH Tryd.prog laid2 w) ∧ sizedMet enc Tryd.prog Tryd.f5 (OpenSpec.ofChange Rows.timingBoundsSpec) false w args)
      (Rows.timingBoundsSpec.post enc Tryd.prog Tryd.f5 false true false false) := by
  refine returnsInHanded_of_change_and (C := Tryd.checked) (X := fun w _ => laidMetH Tryd.prog laid2 w) (fun _ _ _ hh h => h.of_heap hh) own started (by kernel_rfl) Tryd.func5
    (ChangeSpec.witness_shaped (enc := enc) (C := Tryd.checked) (os := os) (X := fun w _ => laidMetH Tryd.prog laid2 w) false (World.laidAll Tryd.prog os laid2) #[.int .u8 0, .agg #[.bool false, .bool false, .bool false, .int .i64 0], .slice none 0 0] 8 (World.laidAll_os _ _ _) (World.shaped_of_ZipB (by kernel_rfl) (by kernel_rfl)) (by kernel_rfl) (by kernel_rfl) (by kernel_rfl) (by rw [MakeChecks.laidMetH_plain _ _ _ (by kernel_rfl)]; exact laidMet_laidAll _ (by kernel_rfl) (by kernel_rfl))) ?_
  intro W base args ds gs before hval0 hW _ _ hL0 _
  have hL : laidMetH Tryd.prog laid2 W := hL0
  rw [MakeChecks.laidMetH_plain _ _ _ (by kernel_rfl)] at hL
  have HT := of_laid hL
  have hval : ∀ (j : Nat) t v, Tryd.f5.params[j]? = some t → args[j]? = some v → Value.okWide Tryd.prog W .any base t v := hval0
  have hW' := hW
  obtain ⟨p, q, hA0, hV, rfl, _, _⟩ := hW
  have hA : DataW.TrodAll enc Tryd.prog W 0 (fun _ => true) true Tryd.f5.params.toList args.toList ds p := hA0
  rw [Tryd.params5] at hA hval
  obtain ⟨v0, vs0, d0, ds0, p0, q0, hargs, rfl, rfl, h0, r0⟩ := trodAll_cons hA
  obtain ⟨v1, vs1, d1, ds1, p1, q1, rfl, rfl, rfl, h1, r1⟩ := trodAll_cons r0
  obtain ⟨v2, vs2, d2, ds2, p2, q2, rfl, rfl, rfl, h2, r2⟩ := trodAll_cons r1
  obtain ⟨rfl, rfl, rfl⟩ := trodAll_nil r2
  obtain rfl : args = #[v0, v1, v2] := by cases args; simp_all
  obtain ⟨rfl, rfl⟩ := trodVars_none hV
  obtain ⟨a0, rfl, rfl, rfl, w0⟩ := open_int Tryd.underlying5 (hval 0 5 v0 rfl rfl) h0
  obtain ⟨T1, D1, K1, n1, rfl, w1⟩ := facts_value Tryd.underlying23 (by kernel_rfl) (by kernel_rfl) Tryd.underlying4 Tryd.underlying4 Tryd.underlying4 Tryd.underlying3 (hval 1 23 v1 rfl rfl) h1
  obtain ⟨A2, n2, c2, z2, rfl, g2, m2, R2⟩ := slice_ints Tryd.underlying25 Tryd.underlying5 (by kernel_rfl) (hval 2 25 v2 rfl rfl) h2
  clear hA0 hval0
  refine (walk a0 w0 T1 D1 K1 n1 w1 A2 n2 c2 z2 g2 m2 R2 HT).mono fun e W' ⟨he, hg⟩ => ?_
  subst he
  exact ⟨_, rfl, law_post rfl Tryd.underlying4 laidOut (by kernel_rfl) rfl hW' rfl hg⟩

theorem over : Rows.timingBoundsRow.holds Tryd.pinned (OpenSpec.ofChange Rows.timingBoundsSpec) :=
  OpenClaim.holds_of_wide 5 Tryd.f5 rfl rfl rfl rfl rfl rfl rfl ⟨rfl, rfl, rfl, rfl, rfl⟩ rfl rfl rfl rfl rfl (by kernel_rfl) Tryd.func5 (by kernel_rfl)
    (of_decide_eq_true (by kernel_rfl)) (by unfold Func.isWrapper; first | (rw [if_pos (by decide +kernel)]; kernel_rfl) | (rw [if_neg (by decide +kernel)]; exact ⟨rfl, rfl⟩))
    (fun os started H enc _ => lifted os started H enc)

theorem proved : Rows.TimingBoundsCardSaid :=
  Claim7.holds_tied_plain_at .later [] [.data, .pinned] true _ false
    over (fun _ h => by cases h) (by kernel_rfl) (fun _ h => by cases h) timingBounds_row_tie rfl ⟨rfl, rfl⟩ (by kernel_rfl) rfl
    (fun f fn hf hfn => by
      obtain rfl : f = 5 := Option.some.inj ((show Tryd.prog.funcNamed "gannet/gannetlaw29.TimingBounds" = some 5 by kernel_rfl).symm.trans hf) |>.symm
      obtain rfl : fn = Tryd.f5 := (Option.some.inj (Tryd.func5.symm.trans hfn)).symm
      exact ⟨by kernel_rfl, fun j t ht => by
        rw [Tryd.params5] at ht
        have hm : t ∈ [5, 23, 25] := by simpa using Array.mem_of_getElem? ht
        have hall : ([5, 23, 25].all fun u => !Tryd.prog.wantsStandIn u) = true := by kernel_rfl
        exact (show Tryd.prog.wantsStandIn t = false by simpa using List.all_eq_true.1 hall t hm)⟩)
    (by kernel_rfl)
#print axioms proved
end Go.Proofs.YtmbbcfdeielopaaDoorRRRR.timingBounds
