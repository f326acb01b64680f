/-
  For every input MovesCopies returns true, and each argument reads behind the call as it read before. The one condition: when the call begins the package-level variables that the row lists hold what the program lays in them (TIED: the card shows it of the text of the project, pruned to the packages that this seat loads).
-/
import Derived.Test.YtdfjpdcnjjgljaaDoorRows
import Derived.Test.YtdfjpdcnjjgljaaDoorKMC01
import Derived.SevenTiedAt
import Derived.ProofKit
import Derived.LaidMore
import Derived.OpenShut
import Derived.Stop.Joined
import Derived.Test.YtdfjpdcnjjgljaaDoorCards
import Derived.Test.YtdfjpdcnjjgljaaDoorTie
import Derived.Test.YtdfjpdcnjjgljaaDoorKMC20
import Derived.Test.YtdfjpdcnjjgljaaDoorKMC22
import Derived.Test.YtdfjpdcnjjgljaaDoorKMC09
namespace Go.Proofs.YtdfjpdcnjjgljaaDoor.movesCopies
open Go.ChangeShapes Go.WideShapes Go.ChangeAt Go.RowKit
open Go.ChangeMaps (open_string)

set_option linter.unusedVariables false
set_option linter.unusedSimpArgs false
set_option maxRecDepth 100000 in
set_option maxHeartbeats 8000000 in
theorem walk {W : World} (d : Bool) (f : Int) (wf : (Lit.int .u8 f).wf = true) (t : Int) (wt : (Lit.int .u8 t).wf = true) (l : Int) (wl : (Lit.int .u8 l).wf = true) (z : Nat → Int) (uz : ∀ i, (Lit.int .u8 (z i)).wf = true) (hT : Tabs W) :
    Calls Tryd.prog 9 #[.bool d, .int .u8 f, .int .u8 t, .int .u8 l, .agg (vArr 256 fun i => .int .u8 (z i))] W fun e w' => e = .returned (.bool true) ∧ Below W.heap.size W w' := by
  obtain ⟨f0, f1⟩ := bounds_u8 wf
  obtain ⟨t0, t1⟩ := bounds_u8 wt
  obtain ⟨l0, l1⟩ := bounds_u8 wl
  obtain ⟨F, rfl⟩ : ∃ K : Nat, f = K := ⟨f.toNat, by omega⟩
  obtain ⟨T, rfl⟩ : ∃ K : Nat, t = K := ⟨t.toNat, by omega⟩
  obtain ⟨n, rfl⟩ : ∃ K : Nat, l = K := ⟨l.toNat, by omega⟩
  obtain ⟨FN, hFN⟩ : ∃ K : Nat, F + n = K := ⟨_, rfl⟩
  obtain ⟨TN, hTN⟩ : ∃ K : Nat, T + n = K := ⟨_, rfl⟩
  have HT := Lib.hid hT
  have HU := Lib.hid uz
  have c1 : IntKind.i64.wrap (F : Int) = F := IntWalk.i64_in _ (by omega)
  have c2 : IntKind.i64.wrap (T : Int) = T := IntWalk.i64_in _ (by omega)
  have c3 : IntKind.i64.wrap (n : Int) = n := IntWalk.i64_in _ (by omega)
  have c4 : IntKind.i64.wrap ((F : Int) + n) = FN := (IntWalk.i64_in _ (by omega)).trans (by omega)
  have c5 : IntKind.i64.wrap ((T : Int) + n) = TN := (IntWalk.i64_in _ (by omega)).trans (by omega)
  have c6 : IntKind.u16.wrap (F : Int) = F := by rw [v16_mod]; omega
  have c7 : IntKind.u16.wrap (T : Int) = T := by rw [v16_mod]; omega
  have c8 : IntKind.u16.wrap (n : Int) = n := by rw [v16_mod]; omega
  clear hT uz wf wt wl
  by_cases hn : n = 0
  · subst hn
    go_enter Tryd.func9, Tryd.ntmps9
    go_wp2_with fail
    refine (live26 (HT.out.below ((Below.refl _ W).alloc (Nat.le_refl _) _))).mono ?_
    rintro e w0 ⟨rfl, b0⟩
    have HBX := Lib.hid ((Blk.new W 62 (vArr 256 fun i => .int .u8 (z i))).below b0 (by simp))
    have HB0 := Lib.hid (((Below.refl W.heap.size W).alloc (Nat.le_refl _) (.cells (vArr 256 fun i => .int .u8 (z i)) 62)).trans (b0.mono (by simp)))
    clear b0
    go_wp2_with fail
    go_ret
    exact ⟨rfl, HB0.out⟩
  have n1 : ((n : Int) == 0) = false := by simp; omega
  by_cases hf : 256 < FN
  · have h1 : (256 : Int) < FN := by omega
    go_enter Tryd.func9, Tryd.ntmps9
    go_wp2_with fail
    refine (live26 (HT.out.below ((Below.refl _ W).alloc (Nat.le_refl _) _))).mono ?_
    rintro e w0 ⟨rfl, b0⟩
    have HBX := Lib.hid ((Blk.new W 62 (vArr 256 fun i => .int .u8 (z i))).below b0 (by simp))
    have HB0 := Lib.hid (((Below.refl W.heap.size W).alloc (Nat.le_refl _) (.cells (vArr 256 fun i => .int .u8 (z i)) 62)).trans (b0.mono (by simp)))
    clear b0
    go_wp2_with fail
    go_ret
    exact ⟨rfl, HB0.out⟩
  have h1 : ¬ (256 : Int) < FN := by omega
  by_cases ht : 256 < TN
  · have h2 : (256 : Int) < TN := by omega
    go_enter Tryd.func9, Tryd.ntmps9
    go_wp2_with fail
    refine (live26 (HT.out.below ((Below.refl _ W).alloc (Nat.le_refl _) _))).mono ?_
    rintro e w0 ⟨rfl, b0⟩
    have HBX := Lib.hid ((Blk.new W 62 (vArr 256 fun i => .int .u8 (z i))).below b0 (by simp))
    have HB0 := Lib.hid (((Below.refl W.heap.size W).alloc (Nat.le_refl _) (.cells (vArr 256 fun i => .int .u8 (z i)) 62)).trans (b0.mono (by simp)))
    clear b0
    go_wp2_with fail
    go_ret
    exact ⟨rfl, HB0.out⟩
  have h2 : ¬ (256 : Int) < TN := by omega
  cases d
  · skip
    go_enter Tryd.func9, Tryd.ntmps9
    go_wp2_with fail
    refine (live26 (HT.out.below ((Below.refl _ W).alloc (Nat.le_refl _) _))).mono ?_
    rintro e w0 ⟨rfl, b0⟩
    have HBX := Lib.hid ((Blk.new W 62 (vArr 256 fun i => .int .u8 (z i))).below b0 (by simp))
    have HB0 := Lib.hid (((Below.refl W.heap.size W).alloc (Nat.le_refl _) (.cells (vArr 256 fun i => .int .u8 (z i)) 62)).trans (b0.mono (by simp)))
    clear b0
    go_wp2_with fail
    have hrow : IRow w0 .u8 (some ⟨W.heap.size, 0, none⟩) 256 z := fun j hj => ⟨_, rfl, HBX.out.lt, by rw [add_zero_block, HBX.out.cell, vArr_at _ _ _ hj], HU.out j⟩
    have hap : Calls Tryd.prog 34 #[.int .u8 0, .int .u16 (F : Int), .int .u16 (T : Int), .int .u16 (n : Int), .slice (some ⟨W.heap.size, 0, none⟩) 256 256] w0 _ := vapply_ok 0 (by omega) (F : Int) (T : Int) (n : Int) (by omega) (by omega) (by omega) (by omega) (by omega) (by omega) ⟨W.heap.size, 0, none⟩ 256 256 z (by omega) (by omega) w0 hrow
    unfold ApplyR at hap
    rw [cntP_nat _ (by omega)] at hap
    clear hrow
    refine hap.mono ?_
    rintro e w1 ⟨g1, c1, rfl, hc1, hm1, R1, hg1, b⟩
    have HB1 := Lib.hid (HB0.out.trans (b.mono HB0.out.size))
    have hx1 := HBX.out.below b HBX.out.lt
    have HCM : Hid (∀ j, j < 256 → ∀ wr, Below w1.heap.size w1 wr → wr.cell? ⟨W.heap.size, j, none⟩ = some (.int .u8 (z j))) := Lib.hid fun j hj wr hB => ((hx1.below hB hx1.lt).cell j).trans (vArr_at _ _ _ hj)
    have HR1 := Lib.hid R1
    clear b R1 hap hx1
    by_cases hA : F < T
    · have hA1 : (F : Int) < T := by omega
      by_cases hA2 : T < FN
      · have hA3 : (T : Int) < FN := by omega
        have hc := cop_up F T n (by omega) (by omega) z true (by simp)
        generalize mvM 0 (F : Int) (T : Int) 256 z (List.range n) = V at *
        have HC := Lib.hid hc
        have HCL : Hid (∀ j, j < 256 → ∀ wr, Below w1.heap.size w1 wr → wr.cell? ⟨g1, j, none⟩ = some (.int .u8 (V j))) := Lib.hid fun j hj wr hB => by
          obtain ⟨ad, ea, hal, hac, _⟩ := HR1.out j hj
          cases ea
          rw [add_zero_block] at hac
          have hal : g1 < w1.heap.size := hal
          exact (hB.cell (p := ⟨g1, j, none⟩) hal).trans hac
        clear hc
        go_wp2_with fail
        go_loopw [18] (fun i wr => ∃ p : Nat, p ≤ 256 ∧ i = .int .i64 p ∧ Below w1.heap.size w1 wr) (fun i _ => 256 - (intOf i).toNat)
        case atStart => exact ⟨0, by omega, rfl, Below.refl _ _⟩
        case round =>
          obtain ⟨p, hp, rfl, hB⟩ := hrel
          have HBP := Lib.hid hB
          by_cases hlt : p < 256
          · have p0 : (0 : Int) ≤ p := by omega
            have p1 : (p : Int) < 256 := by omega
            have cl := HCL.out p hlt wr hB
            have cm := HCM.out p hlt wr hB
            have hcp := HC.out p hlt
            by_cases hin1 : T ≤ p
            · have i1 : (T : Int) ≤ p := by omega
              by_cases hin2 : p < TN
              · have i2 : (p : Int) < TN := by omega
                rw [if_pos ⟨hin1, by omega⟩] at hcp
                obtain ⟨FP, hFP⟩ : ∃ K : Nat, F + p = K := ⟨_, rfl⟩
                obtain ⟨j, hj⟩ : ∃ K : Nat, F + p - T = K := ⟨_, rfl⟩
                have j1 : IntKind.i64.wrap ((F : Int) + p) = FP := (IntWalk.i64_in _ (by omega)).trans (by omega)
                have j2 : IntKind.i64.wrap ((FP : Int) - T) = j := (IntWalk.i64_in _ (by omega)).trans (by omega)
                have j3 : (0 : Int) ≤ j := by omega
                have j4 : (j : Int) < 256 := by omega
                have cj := HCM.out j (by omega) wr hB
                have exx : (V p != V p) = false := by simp
                clear hcp hB
                go_wp2_with fail
                go_roundw
                case rel => exact ⟨p + 1, by omega, by go_num, HBP.out⟩
                case measure => simp [intOf]; omega
              · have i2 : ¬ (p : Int) < TN := by omega
                rw [if_neg (by omega)] at hcp
                rw [hcp] at cl
                have exx : (z p != z p) = false := by simp
                clear hcp hB
                go_wp2_with fail
                go_roundw
                case rel => exact ⟨p + 1, by omega, by go_num, HBP.out⟩
                case measure => simp [intOf]; omega

            · have i1 : ¬ (T : Int) ≤ p := by omega
              rw [if_neg (by omega)] at hcp
              rw [hcp] at cl
              have exx : (z p != z p) = false := by simp
              clear hcp hB
              go_wp2_with fail
              go_roundw
              case rel => exact ⟨p + 1, by omega, by go_num, HBP.out⟩
              case measure => simp [intOf]; omega

          · obtain rfl : p = 256 := by omega
            clear hB
            go_wp2_with fail
            go_ret
            exact ⟨rfl, HB1.out.trans (HBP.out.mono HB1.out.size)⟩
      · have hA3 : ¬ (T : Int) < FN := by omega
        have hc := cop_up F T n (by omega) (by omega) z false (fun _ => by omega)
        generalize mvM 0 (F : Int) (T : Int) 256 z (List.range n) = V at *
        have HC := Lib.hid hc
        have HCL : Hid (∀ j, j < 256 → ∀ wr, Below w1.heap.size w1 wr → wr.cell? ⟨g1, j, none⟩ = some (.int .u8 (V j))) := Lib.hid fun j hj wr hB => by
          obtain ⟨ad, ea, hal, hac, _⟩ := HR1.out j hj
          cases ea
          rw [add_zero_block] at hac
          have hal : g1 < w1.heap.size := hal
          exact (hB.cell (p := ⟨g1, j, none⟩) hal).trans hac
        clear hc
        go_wp2_with fail
        go_loopw [18] (fun i wr => ∃ p : Nat, p ≤ 256 ∧ i = .int .i64 p ∧ Below w1.heap.size w1 wr) (fun i _ => 256 - (intOf i).toNat)
        case atStart => exact ⟨0, by omega, rfl, Below.refl _ _⟩
        case round =>
          obtain ⟨p, hp, rfl, hB⟩ := hrel
          have HBP := Lib.hid hB
          by_cases hlt : p < 256
          · have p0 : (0 : Int) ≤ p := by omega
            have p1 : (p : Int) < 256 := by omega
            have cl := HCL.out p hlt wr hB
            have cm := HCM.out p hlt wr hB
            have hcp := HC.out p hlt
            by_cases hin1 : T ≤ p
            · have i1 : (T : Int) ≤ p := by omega
              by_cases hin2 : p < TN
              · have i2 : (p : Int) < TN := by omega
                rw [if_pos ⟨hin1, by omega⟩] at hcp
                obtain ⟨FP, hFP⟩ : ∃ K : Nat, F + p = K := ⟨_, rfl⟩
                obtain ⟨j, hj⟩ : ∃ K : Nat, F + p - T = K := ⟨_, rfl⟩
                have j1 : IntKind.i64.wrap ((F : Int) + p) = FP := (IntWalk.i64_in _ (by omega)).trans (by omega)
                have j2 : IntKind.i64.wrap ((FP : Int) - T) = j := (IntWalk.i64_in _ (by omega)).trans (by omega)
                have j3 : (0 : Int) ≤ j := by omega
                have j4 : (j : Int) < 256 := by omega
                have cj := HCM.out j (by omega) wr hB
                rw [hcp rfl, hj] at cl
                have exx : (z j != z j) = false := by simp
                clear hcp hB
                go_wp2_with fail
                go_roundw
                case rel => exact ⟨p + 1, by omega, by go_num, HBP.out⟩
                case measure => simp [intOf]; omega
              · have i2 : ¬ (p : Int) < TN := by omega
                rw [if_neg (by omega)] at hcp
                rw [hcp] at cl
                have exx : (z p != z p) = false := by simp
                clear hcp hB
                go_wp2_with fail
                go_roundw
                case rel => exact ⟨p + 1, by omega, by go_num, HBP.out⟩
                case measure => simp [intOf]; omega

            · have i1 : ¬ (T : Int) ≤ p := by omega
              rw [if_neg (by omega)] at hcp
              rw [hcp] at cl
              have exx : (z p != z p) = false := by simp
              clear hcp hB
              go_wp2_with fail
              go_roundw
              case rel => exact ⟨p + 1, by omega, by go_num, HBP.out⟩
              case measure => simp [intOf]; omega

          · obtain rfl : p = 256 := by omega
            clear hB
            go_wp2_with fail
            go_ret
            exact ⟨rfl, HB1.out.trans (HBP.out.mono HB1.out.size)⟩
    · have hA1 : ¬ (F : Int) < T := by omega
      have hc := cop_up F T n (by omega) (by omega) z false (fun _ => by omega)
      generalize mvM 0 (F : Int) (T : Int) 256 z (List.range n) = V at *
      have HC := Lib.hid hc
      have HCL : Hid (∀ j, j < 256 → ∀ wr, Below w1.heap.size w1 wr → wr.cell? ⟨g1, j, none⟩ = some (.int .u8 (V j))) := Lib.hid fun j hj wr hB => by
        obtain ⟨ad, ea, hal, hac, _⟩ := HR1.out j hj
        cases ea
        rw [add_zero_block] at hac
        have hal : g1 < w1.heap.size := hal
        exact (hB.cell (p := ⟨g1, j, none⟩) hal).trans hac
      clear hc
      go_wp2_with fail
      go_loopw [18] (fun i wr => ∃ p : Nat, p ≤ 256 ∧ i = .int .i64 p ∧ Below w1.heap.size w1 wr) (fun i _ => 256 - (intOf i).toNat)
      case atStart => exact ⟨0, by omega, rfl, Below.refl _ _⟩
      case round =>
        obtain ⟨p, hp, rfl, hB⟩ := hrel
        have HBP := Lib.hid hB
        by_cases hlt : p < 256
        · have p0 : (0 : Int) ≤ p := by omega
          have p1 : (p : Int) < 256 := by omega
          have cl := HCL.out p hlt wr hB
          have cm := HCM.out p hlt wr hB
          have hcp := HC.out p hlt
          by_cases hin1 : T ≤ p
          · have i1 : (T : Int) ≤ p := by omega
            by_cases hin2 : p < TN
            · have i2 : (p : Int) < TN := by omega
              rw [if_pos ⟨hin1, by omega⟩] at hcp
              obtain ⟨FP, hFP⟩ : ∃ K : Nat, F + p = K := ⟨_, rfl⟩
              obtain ⟨j, hj⟩ : ∃ K : Nat, F + p - T = K := ⟨_, rfl⟩
              have j1 : IntKind.i64.wrap ((F : Int) + p) = FP := (IntWalk.i64_in _ (by omega)).trans (by omega)
              have j2 : IntKind.i64.wrap ((FP : Int) - T) = j := (IntWalk.i64_in _ (by omega)).trans (by omega)
              have j3 : (0 : Int) ≤ j := by omega
              have j4 : (j : Int) < 256 := by omega
              have cj := HCM.out j (by omega) wr hB
              rw [hcp rfl, hj] at cl
              have exx : (z j != z j) = false := by simp
              clear hcp hB
              go_wp2_with fail
              go_roundw
              case rel => exact ⟨p + 1, by omega, by go_num, HBP.out⟩
              case measure => simp [intOf]; omega
            · have i2 : ¬ (p : Int) < TN := by omega
              rw [if_neg (by omega)] at hcp
              rw [hcp] at cl
              have exx : (z p != z p) = false := by simp
              clear hcp hB
              go_wp2_with fail
              go_roundw
              case rel => exact ⟨p + 1, by omega, by go_num, HBP.out⟩
              case measure => simp [intOf]; omega

          · have i1 : ¬ (T : Int) ≤ p := by omega
            rw [if_neg (by omega)] at hcp
            rw [hcp] at cl
            have exx : (z p != z p) = false := by simp
            clear hcp hB
            go_wp2_with fail
            go_roundw
            case rel => exact ⟨p + 1, by omega, by go_num, HBP.out⟩
            case measure => simp [intOf]; omega

        · obtain rfl : p = 256 := by omega
          clear hB
          go_wp2_with fail
          go_ret
          exact ⟨rfl, HB1.out.trans (HBP.out.mono HB1.out.size)⟩
  · obtain ⟨FM, hFM⟩ : ∃ K : Nat, K + 1 = FN := ⟨FN - 1, by omega⟩
    obtain ⟨TM, hTM⟩ : ∃ K : Nat, K + 1 = TN := ⟨TN - 1, by omega⟩
    have c9 : IntKind.i64.wrap ((FN : Int) - 1) = FM := (IntWalk.i64_in _ (by omega)).trans (by omega)
    have c10 : IntKind.i64.wrap ((TN : Int) - 1) = TM := (IntWalk.i64_in _ (by omega)).trans (by omega)
    have c11 : IntKind.u16.wrap (FM : Int) = FM := by rw [v16_mod]; omega
    have c12 : IntKind.u16.wrap (TM : Int) = TM := by rw [v16_mod]; omega
    go_enter Tryd.func9, Tryd.ntmps9
    go_wp2_with fail
    refine (live26 (HT.out.below ((Below.refl _ W).alloc (Nat.le_refl _) _))).mono ?_
    rintro e w0 ⟨rfl, b0⟩
    have HBX := Lib.hid ((Blk.new W 62 (vArr 256 fun i => .int .u8 (z i))).below b0 (by simp))
    have HB0 := Lib.hid (((Below.refl W.heap.size W).alloc (Nat.le_refl _) (.cells (vArr 256 fun i => .int .u8 (z i)) 62)).trans (b0.mono (by simp)))
    clear b0
    go_wp2_with fail
    have hrow : IRow w0 .u8 (some ⟨W.heap.size, 0, none⟩) 256 z := fun j hj => ⟨_, rfl, HBX.out.lt, by rw [add_zero_block, HBX.out.cell, vArr_at _ _ _ hj], HU.out j⟩
    have hap : Calls Tryd.prog 34 #[.int .u8 1, .int .u16 (FM : Int), .int .u16 (TM : Int), .int .u16 (n : Int), .slice (some ⟨W.heap.size, 0, none⟩) 256 256] w0 _ := vapply_ok 1 (by omega) (FM : Int) (TM : Int) (n : Int) (by omega) (by omega) (by omega) (by omega) (by omega) (by omega) ⟨W.heap.size, 0, none⟩ 256 256 z (by omega) (by omega) w0 hrow
    unfold ApplyR at hap
    rw [cntP_nat _ (by omega)] at hap
    clear hrow
    refine hap.mono ?_
    rintro e w1 ⟨g1, c1, rfl, hc1, hm1, R1, hg1, b⟩
    have HB1 := Lib.hid (HB0.out.trans (b.mono HB0.out.size))
    have hx1 := HBX.out.below b HBX.out.lt
    have HCM : Hid (∀ j, j < 256 → ∀ wr, Below w1.heap.size w1 wr → wr.cell? ⟨W.heap.size, j, none⟩ = some (.int .u8 (z j))) := Lib.hid fun j hj wr hB => ((hx1.below hB hx1.lt).cell j).trans (vArr_at _ _ _ hj)
    have HR1 := Lib.hid R1
    clear b R1 hap hx1
    by_cases hA : T < F
    · have hA1 : (T : Int) < F := by omega
      by_cases hA2 : F < TN
      · have hA3 : (F : Int) < TN := by omega
        have hc := cop_down F T n (by omega) (by omega) z true (by simp)
        rw [show (F : Int) + n - 1 = (FM : Int) by omega, show (T : Int) + n - 1 = (TM : Int) by omega] at hc
        generalize mvM 1 (FM : Int) (TM : Int) 256 z (List.range n) = V at *
        have HC := Lib.hid hc
        have HCL : Hid (∀ j, j < 256 → ∀ wr, Below w1.heap.size w1 wr → wr.cell? ⟨g1, j, none⟩ = some (.int .u8 (V j))) := Lib.hid fun j hj wr hB => by
          obtain ⟨ad, ea, hal, hac, _⟩ := HR1.out j hj
          cases ea
          rw [add_zero_block] at hac
          have hal : g1 < w1.heap.size := hal
          exact (hB.cell (p := ⟨g1, j, none⟩) hal).trans hac
        clear hc
        go_wp2_with fail
        go_loopw [18] (fun i wr => ∃ p : Nat, p ≤ 256 ∧ i = .int .i64 p ∧ Below w1.heap.size w1 wr) (fun i _ => 256 - (intOf i).toNat)
        case atStart => exact ⟨0, by omega, rfl, Below.refl _ _⟩
        case round =>
          obtain ⟨p, hp, rfl, hB⟩ := hrel
          have HBP := Lib.hid hB
          by_cases hlt : p < 256
          · have p0 : (0 : Int) ≤ p := by omega
            have p1 : (p : Int) < 256 := by omega
            have cl := HCL.out p hlt wr hB
            have cm := HCM.out p hlt wr hB
            have hcp := HC.out p hlt
            by_cases hin1 : T ≤ p
            · have i1 : (T : Int) ≤ p := by omega
              by_cases hin2 : p < TN
              · have i2 : (p : Int) < TN := by omega
                rw [if_pos ⟨hin1, by omega⟩] at hcp
                obtain ⟨FP, hFP⟩ : ∃ K : Nat, F + p = K := ⟨_, rfl⟩
                obtain ⟨j, hj⟩ : ∃ K : Nat, F + p - T = K := ⟨_, rfl⟩
                have j1 : IntKind.i64.wrap ((F : Int) + p) = FP := (IntWalk.i64_in _ (by omega)).trans (by omega)
                have j2 : IntKind.i64.wrap ((FP : Int) - T) = j := (IntWalk.i64_in _ (by omega)).trans (by omega)
                have j3 : (0 : Int) ≤ j := by omega
                have j4 : (j : Int) < 256 := by omega
                have cj := HCM.out j (by omega) wr hB
                have exx : (V p != V p) = false := by simp
                clear hcp hB
                go_wp2_with fail
                go_roundw
                case rel => exact ⟨p + 1, by omega, by go_num, HBP.out⟩
                case measure => simp [intOf]; omega
              · have i2 : ¬ (p : Int) < TN := by omega
                rw [if_neg (by omega)] at hcp
                rw [hcp] at cl
                have exx : (z p != z p) = false := by simp
                clear hcp hB
                go_wp2_with fail
                go_roundw
                case rel => exact ⟨p + 1, by omega, by go_num, HBP.out⟩
                case measure => simp [intOf]; omega

            · have i1 : ¬ (T : Int) ≤ p := by omega
              rw [if_neg (by omega)] at hcp
              rw [hcp] at cl
              have exx : (z p != z p) = false := by simp
              clear hcp hB
              go_wp2_with fail
              go_roundw
              case rel => exact ⟨p + 1, by omega, by go_num, HBP.out⟩
              case measure => simp [intOf]; omega

          · obtain rfl : p = 256 := by omega
            clear hB
            go_wp2_with fail
            go_ret
            exact ⟨rfl, HB1.out.trans (HBP.out.mono HB1.out.size)⟩
      · have hA3 : ¬ (F : Int) < TN := by omega
        have hc := cop_down F T n (by omega) (by omega) z false (fun _ => by omega)
        rw [show (F : Int) + n - 1 = (FM : Int) by omega, show (T : Int) + n - 1 = (TM : Int) by omega] at hc
        generalize mvM 1 (FM : Int) (TM : Int) 256 z (List.range n) = V at *
        have HC := Lib.hid hc
        have HCL : Hid (∀ j, j < 256 → ∀ wr, Below w1.heap.size w1 wr → wr.cell? ⟨g1, j, none⟩ = some (.int .u8 (V j))) := Lib.hid fun j hj wr hB => by
          obtain ⟨ad, ea, hal, hac, _⟩ := HR1.out j hj
          cases ea
          rw [add_zero_block] at hac
          have hal : g1 < w1.heap.size := hal
          exact (hB.cell (p := ⟨g1, j, none⟩) hal).trans hac
        clear hc
        go_wp2_with fail
        go_loopw [18] (fun i wr => ∃ p : Nat, p ≤ 256 ∧ i = .int .i64 p ∧ Below w1.heap.size w1 wr) (fun i _ => 256 - (intOf i).toNat)
        case atStart => exact ⟨0, by omega, rfl, Below.refl _ _⟩
        case round =>
          obtain ⟨p, hp, rfl, hB⟩ := hrel
          have HBP := Lib.hid hB
          by_cases hlt : p < 256
          · have p0 : (0 : Int) ≤ p := by omega
            have p1 : (p : Int) < 256 := by omega
            have cl := HCL.out p hlt wr hB
            have cm := HCM.out p hlt wr hB
            have hcp := HC.out p hlt
            by_cases hin1 : T ≤ p
            · have i1 : (T : Int) ≤ p := by omega
              by_cases hin2 : p < TN
              · have i2 : (p : Int) < TN := by omega
                rw [if_pos ⟨hin1, by omega⟩] at hcp
                obtain ⟨FP, hFP⟩ : ∃ K : Nat, F + p = K := ⟨_, rfl⟩
                obtain ⟨j, hj⟩ : ∃ K : Nat, F + p - T = K := ⟨_, rfl⟩
                have j1 : IntKind.i64.wrap ((F : Int) + p) = FP := (IntWalk.i64_in _ (by omega)).trans (by omega)
                have j2 : IntKind.i64.wrap ((FP : Int) - T) = j := (IntWalk.i64_in _ (by omega)).trans (by omega)
                have j3 : (0 : Int) ≤ j := by omega
                have j4 : (j : Int) < 256 := by omega
                have cj := HCM.out j (by omega) wr hB
                rw [hcp rfl, hj] at cl
                have exx : (z j != z j) = false := by simp
                clear hcp hB
                go_wp2_with fail
                go_roundw
                case rel => exact ⟨p + 1, by omega, by go_num, HBP.out⟩
                case measure => simp [intOf]; omega
              · have i2 : ¬ (p : Int) < TN := by omega
                rw [if_neg (by omega)] at hcp
                rw [hcp] at cl
                have exx : (z p != z p) = false := by simp
                clear hcp hB
                go_wp2_with fail
                go_roundw
                case rel => exact ⟨p + 1, by omega, by go_num, HBP.out⟩
                case measure => simp [intOf]; omega

            · have i1 : ¬ (T : Int) ≤ p := by omega
              rw [if_neg (by omega)] at hcp
              rw [hcp] at cl
              have exx : (z p != z p) = false := by simp
              clear hcp hB
              go_wp2_with fail
              go_roundw
              case rel => exact ⟨p + 1, by omega, by go_num, HBP.out⟩
              case measure => simp [intOf]; omega

          · obtain rfl : p = 256 := by omega
            clear hB
            go_wp2_with fail
            go_ret
            exact ⟨rfl, HB1.out.trans (HBP.out.mono HB1.out.size)⟩
    · have hA1 : ¬ (T : Int) < F := by omega
      have hc := cop_down F T n (by omega) (by omega) z false (fun _ => by omega)
      rw [show (F : Int) + n - 1 = (FM : Int) by omega, show (T : Int) + n - 1 = (TM : Int) by omega] at hc
      generalize mvM 1 (FM : Int) (TM : Int) 256 z (List.range n) = V at *
      have HC := Lib.hid hc
      have HCL : Hid (∀ j, j < 256 → ∀ wr, Below w1.heap.size w1 wr → wr.cell? ⟨g1, j, none⟩ = some (.int .u8 (V j))) := Lib.hid fun j hj wr hB => by
        obtain ⟨ad, ea, hal, hac, _⟩ := HR1.out j hj
        cases ea
        rw [add_zero_block] at hac
        have hal : g1 < w1.heap.size := hal
        exact (hB.cell (p := ⟨g1, j, none⟩) hal).trans hac
      clear hc
      go_wp2_with fail
      go_loopw [18] (fun i wr => ∃ p : Nat, p ≤ 256 ∧ i = .int .i64 p ∧ Below w1.heap.size w1 wr) (fun i _ => 256 - (intOf i).toNat)
      case atStart => exact ⟨0, by omega, rfl, Below.refl _ _⟩
      case round =>
        obtain ⟨p, hp, rfl, hB⟩ := hrel
        have HBP := Lib.hid hB
        by_cases hlt : p < 256
        · have p0 : (0 : Int) ≤ p := by omega
          have p1 : (p : Int) < 256 := by omega
          have cl := HCL.out p hlt wr hB
          have cm := HCM.out p hlt wr hB
          have hcp := HC.out p hlt
          by_cases hin1 : T ≤ p
          · have i1 : (T : Int) ≤ p := by omega
            by_cases hin2 : p < TN
            · have i2 : (p : Int) < TN := by omega
              rw [if_pos ⟨hin1, by omega⟩] at hcp
              obtain ⟨FP, hFP⟩ : ∃ K : Nat, F + p = K := ⟨_, rfl⟩
              obtain ⟨j, hj⟩ : ∃ K : Nat, F + p - T = K := ⟨_, rfl⟩
              have j1 : IntKind.i64.wrap ((F : Int) + p) = FP := (IntWalk.i64_in _ (by omega)).trans (by omega)
              have j2 : IntKind.i64.wrap ((FP : Int) - T) = j := (IntWalk.i64_in _ (by omega)).trans (by omega)
              have j3 : (0 : Int) ≤ j := by omega
              have j4 : (j : Int) < 256 := by omega
              have cj := HCM.out j (by omega) wr hB
              rw [hcp rfl, hj] at cl
              have exx : (z j != z j) = false := by simp
              clear hcp hB
              go_wp2_with fail
              go_roundw
              case rel => exact ⟨p + 1, by omega, by go_num, HBP.out⟩
              case measure => simp [intOf]; omega
            · have i2 : ¬ (p : Int) < TN := by omega
              rw [if_neg (by omega)] at hcp
              rw [hcp] at cl
              have exx : (z p != z p) = false := by simp
              clear hcp hB
              go_wp2_with fail
              go_roundw
              case rel => exact ⟨p + 1, by omega, by go_num, HBP.out⟩
              case measure => simp [intOf]; omega

          · have i1 : ¬ (T : Int) ≤ p := by omega
            rw [if_neg (by omega)] at hcp
            rw [hcp] at cl
            have exx : (z p != z p) = false := by simp
            clear hcp hB
            go_wp2_with fail
            go_roundw
            case rel => exact ⟨p + 1, by omega, by go_num, HBP.out⟩
            case measure => simp [intOf]; omega

        · obtain rfl : p = 256 := by omega
          clear hB
          go_wp2_with fail
          go_ret
          exact ⟨rfl, HB1.out.trans (HBP.out.mono HB1.out.size)⟩


theorem own : ownKnob Tryd.prog.godebug = none := by kernel_rfl
theorem laidOut : laidOutB Tryd.prog = true := by kernel_rfl
theorem door_met (os : Os) (args : Array Value) : laidMetH Tryd.prog laid2 ((World.doorLaid Tryd.prog 400 os).forCall (fun _ _ => 0) ⟨#[], args, []⟩).memory :=
  laidMetH_of_parts3 (fuel := 8) (laidMet_of_run' 8 (by kernel_rfl) (by kernel_rfl)) (by kernel_rfl) (by kernel_rfl)
set_option maxRecDepth 100000 in
theorem lifted (os : Os) (started : os.Started) (H : Type) (enc : TypeId × Value → H) :
    ReturnsInHanded {} Tryd.checked os 9 .any (fun w args => (Rows.movesCopiesSpec.pre enc Tryd.prog Tryd.f9 [] false w args ∧ laidMetH Tryd.prog laid2 w) ∧ sizedMet enc Tryd.prog Tryd.f9 (OpenSpec.ofChange Rows.movesCopiesSpec) false w args)
      (Rows.movesCopiesSpec.post enc Tryd.prog Tryd.f9 false true false false) := by
  refine returnsInHanded_of_change_and (C := Tryd.checked) (X := fun w _ => laidMetH Tryd.prog laid2 w) (fun _ _ _ hh h => h.of_heap hh) own started (by kernel_rfl) Tryd.func9
    (ChangeSpec.witness_shaped (enc := enc) (C := Tryd.checked) (os := os) (X := fun w _ => laidMetH Tryd.prog laid2 w) false (World.doorLaid Tryd.prog 400 os) #[.bool false, .int .u8 0, .int .u8 0, .int .u8 0, .agg #[.int .u8 0, .int .u8 0, .int .u8 0, .int .u8 0, .int .u8 0, .int .u8 0, .int .u8 0, .int .u8 0, .int .u8 0, .int .u8 0, .int .u8 0, .int .u8 0, .int .u8 0, .int .u8 0, .int .u8 0, .int .u8 0, .int .u8 0, .int .u8 0, .int .u8 0, .int .u8 0, .int .u8 0, .int .u8 0, .int .u8 0, .int .u8 0, .int .u8 0, .int .u8 0, .int .u8 0, .int .u8 0, .int .u8 0, .int .u8 0, .int .u8 0, .int .u8 0, .int .u8 0, .int .u8 0, .int .u8 0, .int .u8 0, .int .u8 0, .int .u8 0, .int .u8 0, .int .u8 0, .int .u8 0, .int .u8 0, .int .u8 0, .int .u8 0, .int .u8 0, .int .u8 0, .int .u8 0, .int .u8 0, .int .u8 0, .int .u8 0, .int .u8 0, .int .u8 0, .int .u8 0, .int .u8 0, .int .u8 0, .int .u8 0, .int .u8 0, .int .u8 0, .int .u8 0, .int .u8 0, .int .u8 0, .int .u8 0, .int .u8 0, .int .u8 0, .int .u8 0, .int .u8 0, .int .u8 0, .int .u8 0, .int .u8 0, .int .u8 0, .int .u8 0, .int .u8 0, .int .u8 0, .int .u8 0, .int .u8 0, .int .u8 0, .int .u8 0, .int .u8 0, .int .u8 0, .int .u8 0, .int .u8 0, .int .u8 0, .int .u8 0, .int .u8 0, .int .u8 0, .int .u8 0, .int .u8 0, .int .u8 0, .int .u8 0, .int .u8 0, .int .u8 0, .int .u8 0, .int .u8 0, .int .u8 0, .int .u8 0, .int .u8 0, .int .u8 0, .int .u8 0, .int .u8 0, .int .u8 0, .int .u8 0, .int .u8 0, .int .u8 0, .int .u8 0, .int .u8 0, .int .u8 0, .int .u8 0, .int .u8 0, .int .u8 0, .int .u8 0, .int .u8 0, .int .u8 0, .int .u8 0, .int .u8 0, .int .u8 0, .int .u8 0, .int .u8 0, .int .u8 0, .int .u8 0, .int .u8 0, .int .u8 0, .int .u8 0, .int .u8 0, .int .u8 0, .int .u8 0, .int .u8 0, .int .u8 0, .int .u8 0, .int .u8 0, .int .u8 0, .int .u8 0, .int .u8 0, .int .u8 0, .int .u8 0, .int .u8 0, .int .u8 0, .int .u8 0, .int .u8 0, .int .u8 0, .int .u8 0, .int .u8 0, .int .u8 0, .int .u8 0, .int .u8 0, .int .u8 0, .int .u8 0, .int .u8 0, .int .u8 0, .int .u8 0, .int .u8 0, .int .u8 0, .int .u8 0, .int .u8 0, .int .u8 0, .int .u8 0, .int .u8 0, .int .u8 0, .int .u8 0, .int .u8 0, .int .u8 0, .int .u8 0, .int .u8 0, .int .u8 0, .int .u8 0, .int .u8 0, .int .u8 0, .int .u8 0, .int .u8 0, .int .u8 0, .int .u8 0, .int .u8 0, .int .u8 0, .int .u8 0, .int .u8 0, .int .u8 0, .int .u8 0, .int .u8 0, .int .u8 0, .int .u8 0, .int .u8 0, .int .u8 0, .int .u8 0, .int .u8 0, .int .u8 0, .int .u8 0, .int .u8 0, .int .u8 0, .int .u8 0, .int .u8 0, .int .u8 0, .int .u8 0, .int .u8 0, .int .u8 0, .int .u8 0, .int .u8 0, .int .u8 0, .int .u8 0, .int .u8 0, .int .u8 0, .int .u8 0, .int .u8 0, .int .u8 0, .int .u8 0, .int .u8 0, .int .u8 0, .int .u8 0, .int .u8 0, .int .u8 0, .int .u8 0, .int .u8 0, .int .u8 0, .int .u8 0, .int .u8 0, .int .u8 0, .int .u8 0, .int .u8 0, .int .u8 0, .int .u8 0, .int .u8 0, .int .u8 0, .int .u8 0, .int .u8 0, .int .u8 0, .int .u8 0, .int .u8 0, .int .u8 0, .int .u8 0, .int .u8 0, .int .u8 0, .int .u8 0, .int .u8 0, .int .u8 0, .int .u8 0, .int .u8 0, .int .u8 0, .int .u8 0, .int .u8 0, .int .u8 0, .int .u8 0, .int .u8 0, .int .u8 0, .int .u8 0, .int .u8 0, .int .u8 0, .int .u8 0, .int .u8 0, .int .u8 0, .int .u8 0, .int .u8 0, .int .u8 0, .int .u8 0, .int .u8 0, .int .u8 0, .int .u8 0, .int .u8 0, .int .u8 0]] 8 rfl (World.shaped_of_RefB (by kernel_rfl) (by kernel_rfl)) (by kernel_rfl) (by kernel_rfl) (by kernel_rfl) (door_met os _)) ?_
  intro W base args ds gs before hval0 hW _ _ hL0 _
  have hL : laidMetH Tryd.prog laid2 W := hL0
  rw [MakeChecks.laidMetH_plain _ _ _ (by kernel_rfl)] at hL
  have HT := of_laid hL
  have hval : ∀ (j : Nat) t v, Tryd.f9.params[j]? = some t → args[j]? = some v → Value.okWide Tryd.prog W .any base t v := hval0
  have hW' := hW
  obtain ⟨p, q, hA0, hV, rfl, _, _⟩ := hW
  have hA : DataW.TrodAll enc Tryd.prog W 0 (fun _ => true) true Tryd.f9.params.toList args.toList ds p := hA0
  rw [Tryd.params9] at hA hval
  obtain ⟨v0, vs0, d0, ds0, p0, q0, hargs, rfl, rfl, h0, r0⟩ := trodAll_cons hA
  obtain ⟨v1, vs1, d1, ds1, p1, q1, rfl, rfl, rfl, h1, r1⟩ := trodAll_cons r0
  obtain ⟨v2, vs2, d2, ds2, p2, q2, rfl, rfl, rfl, h2, r2⟩ := trodAll_cons r1
  obtain ⟨v3, vs3, d3, ds3, p3, q3, rfl, rfl, rfl, h3, r3⟩ := trodAll_cons r2
  obtain ⟨v4, vs4, d4, ds4, p4, q4, rfl, rfl, rfl, h4, r4⟩ := trodAll_cons r3
  obtain ⟨rfl, rfl, rfl⟩ := trodAll_nil r4
  obtain rfl : args = #[v0, v1, v2, v3, v4] := by cases args; simp_all
  obtain ⟨rfl, rfl⟩ := trodVars_none hV
  obtain ⟨a0, rfl, rfl, rfl⟩ := open_bool Tryd.underlying4 (hval 0 4 v0 rfl rfl) h0
  obtain ⟨a1, rfl, rfl, rfl, w1⟩ := open_int Tryd.underlying5 (hval 1 5 v1 rfl rfl) h1
  obtain ⟨a2, rfl, rfl, rfl, w2⟩ := open_int Tryd.underlying5 (hval 2 5 v2 rfl rfl) h2
  obtain ⟨a3, rfl, rfl, rfl, w3⟩ := open_int Tryd.underlying5 (hval 3 5 v3 rfl rfl) h3
  obtain ⟨z4, rfl, u4⟩ := array_ints_v Tryd.underlying62 Tryd.underlying5 (by kernel_rfl) (by kernel_rfl) (hval 4 62 v4 rfl rfl) h4
  clear hA0 hval0
  refine (walk a0 a1 w1 a2 w2 a3 w3 z4 u4 HT).mono fun e W' ⟨he, hg⟩ => ?_
  subst he
  exact ⟨_, rfl, law_post rfl Tryd.underlying4 laidOut (by kernel_rfl) rfl hW' rfl hg⟩

theorem over : Rows.movesCopiesRow.holds Tryd.pinned (OpenSpec.ofChange Rows.movesCopiesSpec) :=
  OpenClaim.holds_of_wide 9 Tryd.f9 rfl rfl rfl rfl rfl rfl rfl ⟨rfl, rfl, rfl, rfl, rfl⟩ rfl rfl rfl rfl rfl (by kernel_rfl) Tryd.func9 (by kernel_rfl)
    (of_decide_eq_true (by kernel_rfl)) (by unfold Func.isWrapper; first | (rw [if_pos (by decide +kernel)]; kernel_rfl) | (rw [if_neg (by decide +kernel)]; exact ⟨rfl, rfl⟩))
    (fun os started H enc _ => lifted os started H enc)

theorem proved : Rows.MovesCopiesCardSaid :=
  Claim7.holds_tied_plain_at .later [] [.data] true _ false
    over (fun _ h => by cases h) (by kernel_rfl) (fun _ h => by cases h) movesCopies_row_tie rfl ⟨rfl, rfl⟩ (by kernel_rfl) rfl
    (fun f fn hf hfn => by
      obtain rfl : f = 9 := Option.some.inj ((show Tryd.prog.funcNamed "gannet/gannetlaw26.MovesCopies" = some 9 by kernel_rfl).symm.trans hf) |>.symm
      obtain rfl : fn = Tryd.f9 := (Option.some.inj (Tryd.func9.symm.trans hfn)).symm
      exact ⟨by kernel_rfl, fun j t ht => by
        rw [Tryd.params9] at ht
        have hm : t ∈ [4, 5, 5, 5, 62] := by simpa using Array.mem_of_getElem? ht
        have hall : ([4, 5, 5, 5, 62].all fun u => !Tryd.prog.wantsStandIn u) = true := by kernel_rfl
        exact (show Tryd.prog.wantsStandIn t = false by simpa using List.all_eq_true.1 hall t hm)⟩)
    (by kernel_rfl)
#print axioms proved
end Go.Proofs.YtdfjpdcnjjgljaaDoor.movesCopies
