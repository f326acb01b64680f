/-
  For every input BurstGoes returns true, and each argument reads behind the call as it read before. The one condition: when the call begins the package-level variables that the row lists hold what the program lays in them (TIED: the card shows it of the text of the project, pruned to the packages that this seat loads).
-/
import Derived.Test.YtndhkdcdhpfajaaDoorRows
import Derived.Test.YtndhkdcdhpfajaaDoorG3
import Derived.SevenTiedAt
import Derived.ProofKit
import Derived.LaidMore
import Derived.OpenShut
import Derived.Stop.Joined
import Derived.Test.YtndhkdcdhpfajaaDoorCards
import Derived.Test.YtndhkdcdhpfajaaDoorTie
import Derived.Test.YtndhkdcdhpfajaaDoorBur8
import Derived.Test.YtndhkdcdhpfajaaDoorG14
import Derived.Test.YtndhkdcdhpfajaaDoorG22
namespace Go.Proofs.YtndhkdcdhpfajaaDoor.burstGoes
open Go.ChangeShapes Go.WideShapes Go.ChangeAt Go.RowKit
open Go.ChangeMaps (open_string)

set_option linter.unusedVariables false
set_option linter.unusedSimpArgs false
set_option maxRecDepth 100000 in
set_option maxHeartbeats 16000000 in
theorem walk {W : World} (k : Int) (wk : (Lit.int .u8 k).wf = true) (z : Nat → Int) (uz : ∀ i, (Lit.int .u16 (z i)).wf = true) (A : Option Addr) (n c : Nat) (y : Nat → Int) (gc : n ≤ c) (mc : c ≤ maxLen) (R : IRow W .u8 A n y) (A2 : Option Addr) (n2 c2 : Nat) (y2 : Nat → Int) (gc2 : n2 ≤ c2) (mc2 : c2 ≤ maxLen) (R2 : IRow W .u8 A2 n2 y2) (hT : Tabs W) :
    Calls Tryd.prog 3 #[.int .u8 k, .agg #[.int .u16 (z 0), .int .u16 (z 1), .int .u16 (z 2)], .slice A n c, .slice A2 n2 c2] W fun e w' => e = .returned (.bool true) ∧ Below W.heap.size W w' := by
  obtain ⟨k0, k1⟩ := bounds_u8 wk
  obtain ⟨f0, f1⟩ := bounds_u16 (uz 0)
  obtain ⟨t0, t1⟩ := bounds_u16 (uz 1)
  obtain ⟨l0, l1⟩ := bounds_u16 (uz 2)
  obtain ⟨K, rfl⟩ : ∃ K : Nat, k = K := ⟨k.toNat, by omega⟩
  generalize z 0 = f at *
  generalize z 1 = t at *
  generalize z 2 = l at *
  clear uz wk
  have hns : (n : Int) ≤ 9223372036854775807 := by unfold maxLen at mc; omega
  have hns2 : (n2 : Int) ≤ 9223372036854775807 := by unfold maxLen at mc2; omega
  have al : Below W.heap.size W (W.alloc (.cells #[.int .u16 f, .int .u16 t, .int .u16 l] 23)) := (Below.refl _ W).alloc (Nat.le_refl _) _
  have HGW := Lib.hid hT.1
  have X0 := Lib.hid (Blk.new W 23 #[.int .u16 f, .int .u16 t, .int .u16 l])
  have B0 := Lib.hid al
  have T0 := Lib.hid (hT.below al)
  obtain ⟨w0, hw0⟩ : ∃ w0, W.alloc (.cells #[.int .u16 f, .int .u16 t, .int .u16 l] 23) = w0 := ⟨_, rfl⟩
  obtain ⟨gb, hgb⟩ : ∃ gb, W.heap.size = gb := ⟨_, rfl⟩
  rw [hw0] at X0 B0 T0
  rw [hgb] at X0
  have HW0 := Lib.hid hw0
  have HGB := Lib.hid hgb
  have HRW := Lib.hid R
  have HSW := Lib.hid R2
  clear al hT R R2 mc mc2 hw0 hgb k0 k1
  go_enter Tryd.func3, Tryd.ntmps3
  go_upto_region 1 with fail
  rw [HW0.out, HGB.out]
  go_wp2_with fail
  refine (live31 T0.out).mono ?_
  rintro e w1 ⟨rfl, hb⟩
  have X1 := Lib.hid (X0.out.below hb X0.out.lt)
  have T1 := Lib.hid (T0.out.below hb)
  have B1 := Lib.hid (B0.out.trans (hb.mono B0.out.size))
  clear hb X0 T0 B0
  by_cases hbig : 600 < n ∨ 600 < n2
  · rcases hbig with hbig | hbig
    · have h1 : (600 : Int) < n := by omega
      go_wp2_with fail
      go_ret
      exact ⟨rfl, B1.out⟩
    · have h1 : (600 : Int) < n2 := by omega
      by_cases h2 : (600 : Int) < n
      · go_wp2_with fail
        go_ret
        exact ⟨rfl, B1.out⟩
      · go_wp2_with fail
        go_ret
        exact ⟨rfl, B1.out⟩
  · have h1 : ¬ (600 : Int) < n := by omega
    have h2 : ¬ (600 : Int) < n2 := by omega
    have x0 : w1.cell? ⟨gb, 0, none⟩ = some (.int .u16 f) := X1.out.cell 0
    have x1 : w1.cell? ⟨gb, 1, none⟩ = some (.int .u16 t) := X1.out.cell 1
    have x2 : w1.cell? ⟨gb, 2, none⟩ = some (.int .u16 l) := X1.out.cell 2
    by_cases hk : 5 ≤ K
    · have hN := fun w => bnew_no K f t l f0 f1 t0 t1 hk w
      have h3 : (4 : Int) < K := by omega
      clear hbig f0 f1 t0 t1 l0 l1 hk hns hns2
      go_wp2_with fail
      refine (hN _).mono ?_
      rintro e w2 ⟨rfl, hb⟩
      have B2 := Lib.hid (B1.out.trans (hb.mono B1.out.size))
      clear hb
      go_wp2_with fail
      go_ret
      exact ⟨rfl, B2.out⟩
    · have h3 : ¬ (4 : Int) < K := by omega
      have hN := fun w => bnew_any K f t l f0 f1 t0 t1 l0 l1 (by omega) w
      obtain ⟨q0, q1⟩ := cntP_bd l l0 l1
      obtain ⟨cn, hcn⟩ : ∃ cn : Nat, cntP l = (cn : Int) := ⟨(cntP l).toNat, by omega⟩
      rw [show (cntP l).toNat = cn by omega] at hN
      have hok : (⟨K, f, t, cn, 0, 0, 0⟩ : Bu).ok := ⟨by dsimp only; omega, f0, f1, t0, t1, by dsimp only; omega, by dsimp only; omega, by dsimp only; omega, by dsimp only; omega, by dsimp only; omega, by intro _; rfl⟩
      have HOK := Lib.hid hok
      have HCN := Lib.hid hcn
      have HL0 := Lib.hid l0
      have HL1 := Lib.hid l1
      have HN := Lib.hid hN
      clear hbig f0 f1 t0 t1 l0 l1 hk hok hcn q0 q1 hN
      go_wp2_with fail
      refine (HN.out _).mono ?_
      rintro e w2 ⟨g, hg, rfl, hp, hb⟩
      have HG := Lib.hid (Nat.le_trans B1.out.size hg)
      have HGx := Lib.hid (show gb < g from Nat.lt_of_lt_of_le X1.out.lt hg)
      have P2 := Lib.hid hp
      have X2 := Lib.hid (X1.out.below hb X1.out.lt)
      have T2 := Lib.hid (T1.out.below hb)
      have B2 := Lib.hid (B1.out.trans (hb.mono B1.out.size))
      have x0 : w2.cell? ⟨gb, 0, none⟩ = some (.int .u16 f) := X2.out.cell 0
      have x1 : w2.cell? ⟨gb, 1, none⟩ = some (.int .u16 t) := X2.out.cell 1
      have x2 : w2.cell? ⟨gb, 2, none⟩ = some (.int .u16 l) := X2.out.cell 2
      clear hg hp hb X1 T1 B1
      go_upto_region 9 with fail
      have al : Below w2.heap.size w2 (w2.alloc (.cells #[.int .u8 (K : Int), .int .u16 f, .int .u16 t, .int .u16 l, .int .i64 0, .int .u8 0] 32)) := (Below.refl _ w2).alloc (Nat.le_refl _) _
      have hq : RB (w2.alloc (.cells #[.int .u8 (K : Int), .int .u16 f, .int .u16 t, .int .u16 l, .int .i64 0, .int .u8 0] 32)) w2.heap.size ⟨K, f, t, cn, 0, 0, 0⟩ l := Blk.new w2 _ _
      have BB3 := Lib.hid (BB.mk (P2.out.keep al) hq (T2.out.below al) HOK.out HL0.out HL1.out HCN.out)
      have X3 := Lib.hid (X2.out.below al X2.out.lt)
      have B3 := Lib.hid (B2.out.trans (al.mono B2.out.size))
      have HR := Lib.hid B2.out.size
      have HRx := Lib.hid (show g < w2.heap.size from P2.out.lt)
      clear al hq P2 X2 T2 B2 x0 x1 x2
      generalize World.alloc w2 _ = w3 at *
      generalize w2.heap.size = r at *
      go_wp2_with fail
      refine (balike_any BB3.out).mono ?_
      rintro e w4 ⟨rfl, hb⟩
      have BB4 := Lib.hid (BB3.out.keep hb)
      have X4 := Lib.hid (X3.out.below hb X3.out.lt)
      have B4 := Lib.hid (B3.out.trans (hb.mono B3.out.size))
      have ok4 : (⟨K, f, t, cn, 0, 0, 0⟩ : Bu).like K f t cn := ⟨rfl, rfl, rfl, rfl⟩
      have OK4 := Lib.hid ok4
      have hGn : 0 ∉ [g, r] := by have a := HGW.out; have b := HG.out; have c := HR.out; simp; omega
      have HGN := Lib.hid hGn
      clear hb BB3 X3 B3 ok4 hGn HN
      go_wp2_with fail
      go_loopw [12] (fun i wr => ∃ j : Nat, j ≤ n ∧ i = .int .i64 j ∧ (∃ s, BB wr g r s l ∧ s.like K f t cn) ∧ Kp [g, r] w4 wr) (fun i _ => n - (intOf i).toNat)
      case atStart => exact ⟨0, by omega, rfl, ⟨_, BB4.out, OK4.out⟩, Kp.refl _ _⟩
      case round =>
        obtain ⟨j, hj, rfl, ⟨s, hI, hs⟩, hK⟩ := hrel
        have HI := Lib.hid hI
        have HS := Lib.hid hs
        have HK := Lib.hid hK
        have HBW := Lib.hid (Kp.onto B4.out hK B4.out.size (by have b := HG.out; have c := HR.out; simp; omega))
        have HXr := Lib.hid (X4.out.kp hK (by have b := HGx.out; have c := HRx.out; simp; omega))
        by_cases hlt : j < n
        · obtain ⟨ad, rfl, hl, hc, hw⟩ := HRW.out j hlt
          obtain ⟨v0, v1⟩ := bounds_u8 hw
          have hc0 : wr.cell? (ad.add j) = some (.int .u8 (y j)) := (HBW.out.cell (p := ad.add j) (by rw [block_of_add]; exact hl)).trans hc
          have HL := Lib.hid hl
          have HC := Lib.hid hc
          have i1 : (j : Int) < n := by omega
          clear hI hs hK hl hc hw
          generalize y j = v at *
          go_wp2_with fail
          refine (bstep_any HI.out.p HI.out.o v).mono ?_
          rintro e w5 ⟨rfl, p5, k5⟩
          have P5 := Lib.hid p5
          have K5 := Lib.hid k5
          have hc5 : w5.cell? (ad.add j) = some (.int .u8 v) := by
            have hb5 := Kp.onto HBW.out k5 HBW.out.size (by have b := HG.out; simp; omega)
            exact (hb5.cell (p := ad.add j) (by rw [block_of_add]; exact HL.out)).trans HC.out
          have Q5 := Lib.hid (HI.out.q.kp k5 (by have a := HI.out.ne; simpa using a.symm))
          clear p5 k5 hc0
          go_wp2_with fail
          refine (rbstep_any Q5.out HI.out.o HL0.out HL1.out HI.out.c v).mono ?_
          rintro e w6 ⟨rfl, q6, k6⟩
          have ST := Lib.hid (BB.stepped HI.out v0 v1 P5.out K5.out q6 k6 HGN.out)
          clear q6 k6 hc5
          go_wp2_with fail
          refine (balike_any ST.out.1).mono ?_
          rintro e w7 ⟨rfl, hb⟩
          have BB7 := Lib.hid (ST.out.1.keep hb)
          have K7 := Lib.hid ((HK.out.trans ST.out.2 (fun x hx => .inl hx)).trans (Kp.of_below hb) (fun x hx => .inl hx))
          clear hb
          go_wp2_with fail
          go_roundw
          case rel => exact ⟨j + 1, by omega, by go_num, ⟨_, BB7.out, Bu.like_go HS.out v⟩, K7.out⟩
          case measure => simp [intOf]; omega
        · obtain rfl : j = n := by omega
          clear hlt hj hI hs hK BB4 X4 B4
          go_wp2_with fail
          refine (bclone_any HI.out.p).mono ?_
          rintro e w5 ⟨rfl, p5, hb⟩
          have B5 := Lib.hid (HBW.out.trans (hb.mono HBW.out.size))
          have BB5 := Lib.hid (HI.out.keep hb)
          have X5 := Lib.hid (HXr.out.below hb HXr.out.lt)
          have P5 := Lib.hid p5
          have HZ := Lib.hid (Nat.le_trans HBW.out.size (Nat.le_refl wr.heap.size))
          have gr5 := HI.out.p.lt
          have rr5 := HI.out.q.lt
          have HGg := Lib.hid gr5
          have HRr := Lib.hid rr5
          have ez := HBW.out.size
          have EZ := Lib.hid ez
          clear hb p5 gr5 rr5 ez
          generalize wr.heap.size = g2 at *
          have hs2 := HS.out
          have o0 := HI.out.o
          clear HS
          obtain ⟨sk, sf, stt, sb, m, p, d⟩ := s
          unfold Bu.like at hs2
          dsimp only at hs2
          obtain ⟨rfl, rfl, rfl, rfl⟩ := hs2
          obtain ⟨a, ha⟩ : ∃ a, 6 * m + p = a := ⟨_, rfl⟩
          have HA := Lib.hid ha
          have r4 : w5.cell? ⟨r, 4, none⟩ = some (.int .i64 (a : Int)) := (Blk.cell BB5.out.q 4).trans (by unfold rbC; dsimp only; rw [ha]; rfl)
          have r5 : w5.cell? ⟨r, 5, none⟩ = some (.int .u8 d) := Blk.cell BB5.out.q 5
          have ec : rbC ⟨sk, sf, stt, sb, m, p, d⟩ l = #[.int .u8 (sk : Int), .int .u16 sf, .int .u16 stt, .int .u16 l, .int .i64 (a : Int), .int .u8 d] := by unfold rbC; dsimp only; rw [ha]
          have al : Below w5.heap.size w5 (w5.alloc (.cells #[.int .u8 (sk : Int), .int .u16 sf, .int .u16 stt, .int .u16 l, .int .i64 (a : Int), .int .u8 d] 32)) := (Below.refl _ w5).alloc (Nat.le_refl _) _
          have q6 : RB (w5.alloc (.cells #[.int .u8 (sk : Int), .int .u16 sf, .int .u16 stt, .int .u16 l, .int .i64 (a : Int), .int .u8 d] 32)) w5.heap.size ⟨sk, sf, stt, sb, m, p, d⟩ l := by
            unfold RB rbC
            dsimp only
            rw [ha]
            exact Blk.new w5 _ _
          have B6 := Lib.hid (B5.out.alloc B5.out.size (.cells #[.int .u8 (sk : Int), .int .u16 sf, .int .u16 stt, .int .u16 l, .int .i64 (a : Int), .int .u8 d] 32))
          have BB6 := Lib.hid (BB5.out.keep al)
          have BC6 := Lib.hid (BB.mk (P5.out.keep al) q6 (BB5.out.t.below al) BB5.out.o BB5.out.l0 BB5.out.l1 BB5.out.c)
          have x60 : (w5.alloc (.cells #[.int .u8 (sk : Int), .int .u16 sf, .int .u16 stt, .int .u16 l, .int .i64 (a : Int), .int .u8 d] 32)).cell? ⟨gb, 0, none⟩ = some (.int .u16 sf) := (X5.out.below al X5.out.lt).cell 0
          have x61 : (w5.alloc (.cells #[.int .u8 (sk : Int), .int .u16 sf, .int .u16 stt, .int .u16 l, .int .i64 (a : Int), .int .u8 d] 32)).cell? ⟨gb, 1, none⟩ = some (.int .u16 stt) := (X5.out.below al X5.out.lt).cell 1
          have x62 : (w5.alloc (.cells #[.int .u8 (sk : Int), .int .u16 sf, .int .u16 stt, .int .u16 l, .int .i64 (a : Int), .int .u8 d] 32)).cell? ⟨gb, 2, none⟩ = some (.int .u16 l) := (X5.out.below al X5.out.lt).cell 2
          have r64 : (w5.alloc (.cells #[.int .u8 (sk : Int), .int .u16 sf, .int .u16 stt, .int .u16 l, .int .i64 (a : Int), .int .u8 d] 32)).cell? ⟨r, 4, none⟩ = some (.int .i64 (a : Int)) := (Blk.cell BB6.out.q 4).trans (by rw [ec]; rfl)
          have r65 : (w5.alloc (.cells #[.int .u8 (sk : Int), .int .u16 sf, .int .u16 stt, .int .u16 l, .int .i64 (a : Int), .int .u8 d] 32)).cell? ⟨r, 5, none⟩ = some (.int .u8 d) := Blk.cell BB6.out.q 5
          have hh : (fun w' : World => w'.cell? ⟨gb, 0, none⟩ = some (.int .u16 sf) ∧ w'.cell? ⟨gb, 1, none⟩ = some (.int .u16 stt) ∧ w'.cell? ⟨gb, 2, none⟩ = some (.int .u16 l) ∧ w'.cell? ⟨r, 4, none⟩ = some (.int .i64 (a : Int)) ∧ w'.cell? ⟨r, 5, none⟩ = some (.int .u8 d)) (w5.alloc (.cells #[.int .u8 (sk : Int), .int .u16 sf, .int .u16 stt, .int .u16 l, .int .i64 (a : Int), .int .u8 d] 32)) := ⟨x60, x61, x62, r64, r65⟩
          have HH := Lib.hid hh
          have hh5 : (fun w' : World => w'.cell? ⟨gb, 0, none⟩ = some (.int .u16 sf) ∧ w'.cell? ⟨gb, 1, none⟩ = some (.int .u16 stt) ∧ w'.cell? ⟨gb, 2, none⟩ = some (.int .u16 l) ∧ w'.cell? ⟨r, 4, none⟩ = some (.int .i64 (a : Int)) ∧ w'.cell? ⟨r, 5, none⟩ = some (.int .u8 d)) w5 := ⟨X5.out.cell 0, X5.out.cell 1, X5.out.cell 2, r4, r5⟩
          have HH5 := Lib.hid hh5
          have HR5 := Lib.hid (show r < w5.heap.size from BB5.out.q.lt)
          have HG5 := Lib.hid (show g < w5.heap.size from BB5.out.p.lt)
          have HP5 := Lib.hid (show g2 < w5.heap.size from P5.out.lt)
          have HW5 := Lib.hid B5.out.size
          clear ha ec al q6 x60 x61 x62 r64 r65 hh hh5 r4 r5 x0 x1 x2 o0
          go_upto_region 19 with fail
          refine rg_begin (S := fun w' => w'.cell? ⟨gb, 0, none⟩ = some (.int .u16 sf) ∧ w'.cell? ⟨gb, 1, none⟩ = some (.int .u16 stt) ∧ w'.cell? ⟨gb, 2, none⟩ = some (.int .u16 l) ∧ w'.cell? ⟨r, 4, none⟩ = some (.int .i64 (a : Int)) ∧ w'.cell? ⟨r, 5, none⟩ = some (.int .u8 d)) 18 #[false, false, false, false, false, false, false, false, false, false, false, false, false, false, false, false, false, false] (by kernel_rfl) (by kernel_rfl) (by kernel_rfl) ?_ (fun hHeld => ?_)
          · exact HH5.out
          refine rg_take (i := 0) (d := some 86) (l := #[true, false, false, false, false, false, false, false, false, false, false, false, false, false, false, false, false, false]) (fuel := 17) (v := ?_) rfl (by kernel_rfl) (by kernel_rfl) (by kernel_rfl) (by kernel_rfl) (by kernel_rfl) (fun _ _ _ h => h) (by kernel_rfl) ?_ (by assumption) ?_
          rotate_left 1
          · (intro wS hSw; (try dsimp only at hSw); go_simp; try with_reducible rfl)
          try simp only [Act.put, List.setIfInBounds_toArray, List.set_cons_zero, List.set_cons_succ]
          refine rg_take (i := 1) (d := some 87) (l := #[true, true, false, false, false, false, false, false, false, false, false, false, false, false, false, false, false, false]) (fuel := 16) (v := ?_) rfl (by kernel_rfl) (by kernel_rfl) (by kernel_rfl) (by kernel_rfl) (by kernel_rfl) (fun _ _ _ h => h) (by kernel_rfl) ?_ (by assumption) ?_
          rotate_left 1
          · (intro wS hSw; (try dsimp only at hSw); go_simp; try with_reducible rfl)
          try simp only [Act.put, List.setIfInBounds_toArray, List.set_cons_zero, List.set_cons_succ]
          refine rg_take (i := 2) (d := some 88) (l := #[true, true, true, false, false, false, false, false, false, false, false, false, false, false, false, false, false, false]) (fuel := 15) (v := ?_) rfl (by kernel_rfl) (by kernel_rfl) (by kernel_rfl) (by kernel_rfl) (by kernel_rfl) (fun _ _ _ h => h) (by kernel_rfl) ?_ (by assumption) ?_
          rotate_left 1
          · (intro wS hSw; (try dsimp only at hSw); go_simp; try with_reducible rfl)
          try simp only [Act.put, List.setIfInBounds_toArray, List.set_cons_zero, List.set_cons_succ]
          refine rg_take (i := 3) (d := some 89) (l := #[true, true, true, true, false, false, false, false, false, false, false, false, false, false, false, false, false, false]) (fuel := 14) (v := ?_) rfl (by kernel_rfl) (by kernel_rfl) (by kernel_rfl) (by kernel_rfl) (by kernel_rfl) (fun _ _ _ h => h) (by kernel_rfl) ?_ (by assumption) ?_
          rotate_left 1
          · (intro wS hSw; (try dsimp only at hSw); go_simp; try with_reducible rfl)
          try simp only [Act.put, List.setIfInBounds_toArray, List.set_cons_zero, List.set_cons_succ]
          refine rg_take (i := 4) (d := some 90) (l := #[true, true, true, true, true, false, false, false, false, false, false, false, false, false, false, false, false, false]) (fuel := 13) (v := ?_) rfl (by kernel_rfl) (by kernel_rfl) (by kernel_rfl) (by kernel_rfl) (by kernel_rfl) (fun _ _ _ h => h) (by kernel_rfl) ?_ (by assumption) ?_
          rotate_left 1
          · (intro wS hSw; (try dsimp only at hSw); go_simp; try with_reducible rfl)
          try simp only [Act.put, List.setIfInBounds_toArray, List.set_cons_zero, List.set_cons_succ]
          refine rg_take (i := 5) (d := some 91) (l := #[true, true, true, true, true, true, false, false, false, false, false, false, false, false, false, false, false, false]) (fuel := 12) (v := ?_) rfl (by kernel_rfl) (by kernel_rfl) (by kernel_rfl) (by kernel_rfl) (by kernel_rfl) (fun _ _ _ h => h) (by kernel_rfl) ?_ (by assumption) ?_
          rotate_left 1
          · (intro wS hSw; (try dsimp only at hSw); go_simp; try with_reducible rfl)
          try simp only [Act.put, List.setIfInBounds_toArray, List.set_cons_zero, List.set_cons_succ]
          refine rg_take (i := 6) (d := some 92) (l := #[true, true, true, true, true, true, true, false, false, false, false, false, false, false, false, false, false, false]) (fuel := 11) (v := ?_) rfl (by kernel_rfl) (by kernel_rfl) (by kernel_rfl) (by kernel_rfl) (by kernel_rfl) (fun _ _ _ h => h) (by kernel_rfl) ?_ (by assumption) ?_
          rotate_left 1
          · (intro wS hSw; (try dsimp only at hSw); go_simp; try with_reducible rfl)
          try simp only [Act.put, List.setIfInBounds_toArray, List.set_cons_zero, List.set_cons_succ]
          refine rg_take (i := 7) (d := some 93) (l := #[true, true, true, true, true, true, true, true, false, false, false, false, false, false, false, false, false, false]) (fuel := 10) (v := ?_) rfl (by kernel_rfl) (by kernel_rfl) (by kernel_rfl) (by kernel_rfl) (by kernel_rfl) (fun _ _ _ h => h) (by kernel_rfl) ?_ (by assumption) ?_
          rotate_left 1
          · (intro wS hSw; (try dsimp only at hSw); go_simp; try with_reducible rfl)
          try simp only [Act.put, List.setIfInBounds_toArray, List.set_cons_zero, List.set_cons_succ]
          refine rg_take (i := 8) (d := some 94) (l := #[true, true, true, true, true, true, true, true, true, false, false, false, false, false, false, false, false, false]) (fuel := 9) (v := ?_) rfl (by kernel_rfl) (by kernel_rfl) (by kernel_rfl) (by kernel_rfl) (by kernel_rfl) (fun _ _ _ h => h) (by kernel_rfl) ?_ (by assumption) ?_
          rotate_left 1
          · (intro wS hSw; (try dsimp only at hSw); go_simp; try with_reducible rfl)
          try simp only [Act.put, List.setIfInBounds_toArray, List.set_cons_zero, List.set_cons_succ]
          refine rg_take (i := 9) (d := some 95) (l := #[true, true, true, true, true, true, true, true, true, true, false, false, false, false, false, false, false, false]) (fuel := 8) (v := ?_) rfl (by kernel_rfl) (by kernel_rfl) (by kernel_rfl) (by kernel_rfl) (by kernel_rfl) (fun _ _ _ h => h) (by kernel_rfl) ?_ (by assumption) ?_
          rotate_left 1
          · (intro wS hSw; (try dsimp only at hSw); go_simp; try with_reducible rfl)
          try simp only [Act.put, List.setIfInBounds_toArray, List.set_cons_zero, List.set_cons_succ]
          refine rg_take (i := 10) (d := some 96) (l := #[true, true, true, true, true, true, true, true, true, true, true, false, false, false, false, false, false, false]) (fuel := 7) (v := ?_) rfl (by kernel_rfl) (by kernel_rfl) (by kernel_rfl) (by kernel_rfl) (by kernel_rfl) (fun _ _ _ h => h) (by kernel_rfl) ?_ (by assumption) ?_
          rotate_left 1
          · (intro wS hSw; (try dsimp only at hSw); go_simp; try with_reducible rfl)
          try simp only [Act.put, List.setIfInBounds_toArray, List.set_cons_zero, List.set_cons_succ]
          refine rg_take (i := 11) (d := some 97) (l := #[true, true, true, true, true, true, true, true, true, true, true, true, false, false, false, false, false, false]) (fuel := 6) (v := ?_) rfl (by kernel_rfl) (by kernel_rfl) (by kernel_rfl) (by kernel_rfl) (by kernel_rfl) (fun _ _ _ h => h) (by kernel_rfl) ?_ (by assumption) ?_
          rotate_left 1
          · (intro wS hSw; (try dsimp only at hSw); go_simp; try with_reducible rfl)
          try simp only [Act.put, List.setIfInBounds_toArray, List.set_cons_zero, List.set_cons_succ]
          refine rg_take (i := 12) (d := some 98) (l := #[true, true, true, true, true, true, true, true, true, true, true, true, true, false, false, false, false, false]) (fuel := 5) (v := ?_) rfl (by kernel_rfl) (by kernel_rfl) (by kernel_rfl) (by kernel_rfl) (by kernel_rfl) (fun _ _ _ h => h) (by kernel_rfl) ?_ (by assumption) ?_
          rotate_left 1
          · (intro wS hSw; (try dsimp only at hSw); go_simp; try with_reducible rfl)
          try simp only [Act.put, List.setIfInBounds_toArray, List.set_cons_zero, List.set_cons_succ]
          refine rg_take (i := 13) (d := some 99) (l := #[true, true, true, true, true, true, true, true, true, true, true, true, true, true, false, false, false, false]) (fuel := 4) (v := ?_) rfl (by kernel_rfl) (by kernel_rfl) (by kernel_rfl) (by kernel_rfl) (by kernel_rfl) (fun _ _ _ h => h) (by kernel_rfl) ?_ (by assumption) ?_
          rotate_left 1
          · (intro wS hSw; (try dsimp only at hSw); go_simp; try with_reducible rfl)
          try simp only [Act.put, List.setIfInBounds_toArray, List.set_cons_zero, List.set_cons_succ]
          refine rg_take (i := 14) (d := some 100) (l := #[true, true, true, true, true, true, true, true, true, true, true, true, true, true, true, false, false, false]) (fuel := 3) (v := ?_) rfl (by kernel_rfl) (by kernel_rfl) (by kernel_rfl) (by kernel_rfl) (by kernel_rfl) (fun _ _ _ h => h) (by kernel_rfl) ?_ (by assumption) ?_
          rotate_left 1
          · (intro wS hSw; (try dsimp only at hSw); go_simp; try with_reducible rfl)
          try simp only [Act.put, List.setIfInBounds_toArray, List.set_cons_zero, List.set_cons_succ]
          refine rg_take (i := 15) (d := some 101) (l := #[true, true, true, true, true, true, true, true, true, true, true, true, true, true, true, true, false, false]) (fuel := 2) (v := ?_) rfl (by kernel_rfl) (by kernel_rfl) (by kernel_rfl) (by kernel_rfl) (by kernel_rfl) (fun _ _ _ h => h) (by kernel_rfl) ?_ (by assumption) ?_
          rotate_left 1
          · (intro wS hSw; (try dsimp only at hSw); go_simp; try with_reducible rfl)
          try simp only [Act.put, List.setIfInBounds_toArray, List.set_cons_zero, List.set_cons_succ]
          refine rg_next (i := 16) (l := #[true, true, true, true, true, true, true, true, true, true, true, true, true, true, true, true, true, false]) (fuel := 1) (by kernel_rfl) rfl (by kernel_rfl) (by kernel_rfl) (fun K hK => ?_)
          go_simp
          skip
          first | (refine hK.out _ _ ?_ (fun hHeld => ?_)) | (go_wp2_with fail; refine hK.out _ _ ?_ (fun hHeld => ?_))
          · (try dsimp only); exact HH.out
          clear hK K
          try simp only [Act.put, List.setIfInBounds_toArray, List.set_cons_zero, List.set_cons_succ]
          refine rg_take (i := 17) (d := some 14) (l := #[true, true, true, true, true, true, true, true, true, true, true, true, true, true, true, true, true, true]) (fuel := 0) (v := ?_) rfl (by kernel_rfl) (by kernel_rfl) (by kernel_rfl) (by kernel_rfl) (by kernel_rfl) (fun _ _ _ h => h) (by kernel_rfl) ?_ (by assumption) ?_
          rotate_left 1
          · (intro wS hSw; (try dsimp only at hSw); go_simp; try with_reducible rfl)
          try simp only [Act.put, List.setIfInBounds_toArray, List.set_cons_zero, List.set_cons_succ]
          refine wpAnyH_done (by kernel_rfl) ?_ _
          have C6 : Hid (BB (w5.alloc (.cells #[.int .u8 (sk : Int), .int .u16 sf, .int .u16 stt, .int .u16 l, .int .i64 (a : Int), .int .u8 d] 32)).drew g2 w5.heap.size ⟨sk, sf, stt, sb, m, p, d⟩ l) := Lib.hid BC6.out.drew_
          have D6 : Hid (BB (w5.alloc (.cells #[.int .u8 (sk : Int), .int .u16 sf, .int .u16 stt, .int .u16 l, .int .i64 (a : Int), .int .u8 d] 32)).drew g r ⟨sk, sf, stt, sb, m, p, d⟩ l) := Lib.hid BB6.out.drew_
          have E6 := Lib.hid B6.out.drew
          have hGm : 0 ∉ [g2, w5.heap.size] := by have a := HGW.out; have b := HZ.out; have c := HW5.out; simp; omega
          have HGM := Lib.hid hGm
          have hN1 : g ∉ [g2, w5.heap.size] := by have a := HGg.out; have c := HG5.out; simp; omega
          have hN2 : r ∉ [g2, w5.heap.size] := by have a := HRr.out; have c := HR5.out; simp; omega
          have HN1 := Lib.hid hN1
          have HN2 := Lib.hid hN2
          clear BC6 BB6 B6 HH HH5 X5 P5 BB5 HXr HI HBW HK hGm hN1 hN2 HCN HOK OK4 HW0
          generalize (World.alloc w5 _).drew = w6 at *
          generalize w5.heap.size = r2 at *
          go_wp2_with fail
          go_loopw [15] (fun i wr => ∃ j : Nat, j ≤ n2 ∧ i = .int .i64 j ∧ (∃ s, BB wr g2 r2 s l) ∧ Kp [g2, r2] w6 wr) (fun i _ => n2 - (intOf i).toNat)
          case atStart => exact ⟨0, by omega, rfl, ⟨_, C6.out⟩, Kp.refl _ _⟩
          case round =>
            obtain ⟨jj, hjj, rfl, ⟨s, hI⟩, hK⟩ := hrel
            have HI := Lib.hid hI
            have HK := Lib.hid hK
            have HBW := Lib.hid (Kp.onto E6.out hK E6.out.size (by have b := HZ.out; have c := HW5.out; simp; omega))
            by_cases hlt : jj < n2
            · obtain ⟨ad, rfl, hl, hc, hw⟩ := HSW.out jj hlt
              obtain ⟨v0, v1⟩ := bounds_u8 hw
              have hc0 : wr.cell? (ad.add jj) = some (.int .u8 (y2 jj)) := (HBW.out.cell (p := ad.add jj) (by rw [block_of_add]; exact hl)).trans hc
              have HL := Lib.hid hl
              have HC := Lib.hid hc
              have i1 : (jj : Int) < n2 := by omega
              clear hI hK hl hc hw
              generalize y2 jj = v at *
              go_wp2_with fail
              refine (bstep_any HI.out.p HI.out.o v).mono ?_
              rintro e w7 ⟨rfl, p7, k7⟩
              have P7 := Lib.hid p7
              have K7 := Lib.hid k7
              have hc5 : w7.cell? (ad.add jj) = some (.int .u8 v) := by
                have hb5 := Kp.onto HBW.out k7 HBW.out.size (by have b := HZ.out; simp; omega)
                exact (hb5.cell (p := ad.add jj) (by rw [block_of_add]; exact HL.out)).trans HC.out
              have Q7 := Lib.hid (HI.out.q.kp k7 (by have a := HI.out.ne; simpa using a.symm))
              clear p7 k7 hc0
              go_wp2_with fail
              refine (rbstep_any Q7.out HI.out.o HL0.out HL1.out HI.out.c v).mono ?_
              rintro e w8 ⟨rfl, q8, k8⟩
              have ST := Lib.hid (BB.stepped HI.out v0 v1 P7.out K7.out q8 k8 HGM.out)
              clear q8 k8 hc5
              go_wp2_with fail
              refine (balike_any ST.out.1).mono ?_
              rintro e w9 ⟨rfl, hb⟩
              have BB9 := Lib.hid (ST.out.1.keep hb)
              have K9 := Lib.hid ((HK.out.trans ST.out.2 (fun x hx => .inl hx)).trans (Kp.of_below hb) (fun x hx => .inl hx))
              clear hb
              go_wp2_with fail
              go_roundw
              case rel => exact ⟨jj + 1, by omega, by go_num, ⟨_, BB9.out⟩, K9.out⟩
              case measure => simp [intOf]; omega
            · obtain rfl : jj = n2 := by omega
              have D7 := Lib.hid (D6.out.kp hK HN1.out HN2.out HGM.out)
              clear hlt hjj hI hK
              go_wp2_with fail
              refine (balike_any D7.out).mono ?_
              rintro e w7 ⟨rfl, hb⟩
              have B7 := Lib.hid (HBW.out.trans (hb.mono HBW.out.size))
              clear hb
              go_wp2_with fail
              go_ret
              exact ⟨rfl, B7.out⟩

theorem own : ownKnob Tryd.prog.godebug = none := by kernel_rfl
theorem laidOut : laidOutB Tryd.prog = true := by kernel_rfl
theorem door_met (os : Os) (args : Array Value) : laidMetH Tryd.prog laid2 ((World.doorLaid Tryd.prog 400 os).forCall (fun _ _ => 0) ⟨#[], args, []⟩).memory :=
  laidMetH_of_parts3 (fuel := 8) (laidMet_of_run' 8 (by kernel_rfl) (by kernel_rfl)) (by kernel_rfl) (by kernel_rfl)
set_option maxRecDepth 100000 in
theorem lifted (os : Os) (started : os.Started) (H : Type) (enc : TypeId × Value → H) :
    ReturnsInHanded {} Tryd.checked os 3 .any (fun w args => (Rows.burstGoesSpec.pre enc Tryd.prog Tryd.f3 [] false w args ∧ laidMetH Tryd.prog laid2 w) ∧ sizedMet enc Tryd.prog Tryd.f3 (OpenSpec.ofChange Rows.burstGoesSpec) false w args)
      (Rows.burstGoesSpec.post enc Tryd.prog Tryd.f3 false true false false) := by
  refine returnsInHanded_of_change_and (C := Tryd.checked) (X := fun w _ => laidMetH Tryd.prog laid2 w) (fun _ _ _ hh h => h.of_heap hh) own started (by kernel_rfl) Tryd.func3
    (ChangeSpec.witness_shaped (enc := enc) (C := Tryd.checked) (os := os) (X := fun w _ => laidMetH Tryd.prog laid2 w) false (World.doorLaid Tryd.prog 400 os) #[.int .u8 0, .agg #[.int .u16 0, .int .u16 0, .int .u16 0], .slice none 0 0, .slice none 0 0] 8 rfl (World.shaped_of_RefB (by kernel_rfl) (by kernel_rfl)) (by kernel_rfl) (by kernel_rfl) (by kernel_rfl) (door_met os _)) ?_
  intro W base args ds gs before hval0 hW _ _ hL0 _
  have hL : laidMetH Tryd.prog laid2 W := hL0
  rw [MakeChecks.laidMetH_plain _ _ _ (by kernel_rfl)] at hL
  have HT := of_laid hL
  have hval : ∀ (j : Nat) t v, Tryd.f3.params[j]? = some t → args[j]? = some v → Value.okWide Tryd.prog W .any base t v := hval0
  have hW' := hW
  obtain ⟨p, q, hA0, hV, rfl, _, _⟩ := hW
  have hA : DataW.TrodAll enc Tryd.prog W 0 (fun _ => true) true Tryd.f3.params.toList args.toList ds p := hA0
  rw [Tryd.params3] at hA hval
  obtain ⟨v0, vs0, d0, ds0, p0, q0, hargs, rfl, rfl, h0, r0⟩ := trodAll_cons hA
  obtain ⟨v1, vs1, d1, ds1, p1, q1, rfl, rfl, rfl, h1, r1⟩ := trodAll_cons r0
  obtain ⟨v2, vs2, d2, ds2, p2, q2, rfl, rfl, rfl, h2, r2⟩ := trodAll_cons r1
  obtain ⟨v3, vs3, d3, ds3, p3, q3, rfl, rfl, rfl, h3, r3⟩ := trodAll_cons r2
  obtain ⟨rfl, rfl, rfl⟩ := trodAll_nil r3
  obtain rfl : args = #[v0, v1, v2, v3] := by cases args; simp_all
  obtain ⟨rfl, rfl⟩ := trodVars_none hV
  obtain ⟨a0, rfl, rfl, rfl, w0⟩ := open_int Tryd.underlying5 (hval 0 5 v0 rfl rfl) h0
  obtain ⟨z1, rfl, u1⟩ := array_ints_v Tryd.underlying23 Tryd.underlying22 (by kernel_rfl) (by kernel_rfl) (hval 1 23 v1 rfl rfl) h1
  obtain ⟨A2, n2, c2, z2, rfl, g2, m2, R2⟩ := slice_ints Tryd.underlying24 Tryd.underlying5 (by kernel_rfl) (hval 2 24 v2 rfl rfl) h2
  obtain ⟨A3, n3, c3, z3, rfl, g3, m3, R3⟩ := slice_ints Tryd.underlying24 Tryd.underlying5 (by kernel_rfl) (hval 3 24 v3 rfl rfl) h3
  clear hA0 hval0
  refine (walk a0 w0 z1 u1 A2 n2 c2 z2 g2 m2 R2 A3 n3 c3 z3 g3 m3 R3 HT).mono fun e W' ⟨he, hg⟩ => ?_
  subst he
  exact ⟨_, rfl, law_post rfl Tryd.underlying4 laidOut (by kernel_rfl) rfl hW' rfl hg⟩

theorem over : Rows.burstGoesRow.holds Tryd.pinned (OpenSpec.ofChange Rows.burstGoesSpec) :=
  OpenClaim.holds_of_wide 3 Tryd.f3 rfl rfl rfl rfl rfl rfl rfl ⟨rfl, rfl, rfl, rfl, rfl⟩ rfl rfl rfl rfl rfl (by kernel_rfl) Tryd.func3 (by kernel_rfl)
    (of_decide_eq_true (by kernel_rfl)) (by unfold Func.isWrapper; first | (rw [if_pos (by decide +kernel)]; kernel_rfl) | (rw [if_neg (by decide +kernel)]; exact ⟨rfl, rfl⟩))
    (fun os started H enc _ => lifted os started H enc)

theorem proved : Rows.BurstGoesCardSaid :=
  Claim7.holds_tied_plain_at .later [] [.data] true _ false
    over (fun _ h => by cases h) (by kernel_rfl) (fun _ h => by cases h) burstGoes_row_tie rfl ⟨rfl, rfl⟩ (by kernel_rfl) rfl
    (fun f fn hf hfn => by
      obtain rfl : f = 3 := Option.some.inj ((show Tryd.prog.funcNamed "gannet/gannetlaw31.BurstGoes" = some 3 by kernel_rfl).symm.trans hf) |>.symm
      obtain rfl : fn = Tryd.f3 := (Option.some.inj (Tryd.func3.symm.trans hfn)).symm
      exact ⟨by kernel_rfl, fun j t ht => by
        rw [Tryd.params3] at ht
        have hm : t ∈ [5, 23, 24, 24] := by simpa using Array.mem_of_getElem? ht
        have hall : ([5, 23, 24, 24].all fun u => !Tryd.prog.wantsStandIn u) = true := by kernel_rfl
        exact (show Tryd.prog.wantsStandIn t = false by simpa using List.all_eq_true.1 hall t hm)⟩)
    (by kernel_rfl)
#print axioms proved
end Go.Proofs.YtndhkdcdhpfajaaDoor.burstGoes
