/-
  For every input TurnsTell returns true, and each argument reads behind the call as it read before. No conditions.
-/
import Derived.Test.YtnelcbbjnpaodaaRows
import Derived.Test.YtnelcbbjnpaodaaG3
import Derived.Test.YtnelcbbjnpaodaaTrn11
namespace Go.Proofs.Ytnelcbbjnpaodaa.turnsTell
open Go.ChangeShapes Go.WideShapes Go.ChangeAt Go.RowKit
open Go.ChangeMaps (open_string)

theorem bns_zero (f : Nat → Int) (h : ∀ i, f i = 0) (j : Nat) : bns f j = 0 := by unfold bns; rw [h 0, h 1, h 2, h 3]; split <;> rfl

set_option linter.unusedVariables false
set_option linter.unusedSimpArgs false
set_option maxRecDepth 100000 in
set_option maxHeartbeats 8000000 in
theorem walk {W : World} (A1 : Option Addr) (n1 c1 : Nat) (z1 : Nat → Int) (hnc1 : n1 ≤ c1) (hm1 : c1 ≤ maxLen) (R1 : IRow W .i64 A1 n1 z1) :
    Calls Try.prog 3 #[.slice A1 n1 c1] W fun e w' => e = .returned (.bool true) ∧ Below W.heap.size W w' := by
  unfold maxLen at hm1
  have HR := Lib.hid R1
  clear R1
  by_cases h1 : 5000 < n1
  · have j1 : (5000 : Int) < n1 := by omega
    go_enter Try.func3, Try.ntmps3
    go_wp2_with fail
    refine (liveT_any _).mono ?_
    rintro e w0 ⟨rfl, b0⟩
    have QB := Lib.hid b0
    clear b0
    go_wp2_with fail
    go_ret
    exact ⟨rfl, QB.out⟩
  have j1 : ¬ (5000 : Int) < n1 := by omega
  have hn : n1 ≤ 9223372036854775000 := by omega
  obtain ⟨E, hE⟩ : ∃ E, rowE z1 n1 = E := ⟨_, rfl⟩
  obtain ⟨V, hV⟩ : ∃ V, fldV z1 n1 = V := ⟨_, rfl⟩
  have hVb : ∀ j, (bns V j).natAbs ≤ 1073741824 := fun j => by rw [← hV]; exact bns_of_sum (fld_sum z1 n1) j
  have hVf : ∀ i, (V i).natAbs ≤ 1073741824 := fun i => by rw [← hV]; exact fldV_bd z1 n1 i
  have hZ : E ≠ 0 → ∀ i, V i = 0 := fun he i => by rw [← hV]; unfold fldV; rw [hE, if_neg he]
  have HE := Lib.hid hE
  have HV := Lib.hid hV
  have HVb := Lib.hid hVb
  have HVf := Lib.hid hVf
  have HZ := Lib.hid hZ
  clear hE hV hVb hVf hZ h1
  have q0 : ∀ w, (Op.equalIn 10000 24 (.agg #[.int .i64 (V 0), .int .i64 (V 1), .int .i64 (V 2), .int .i64 (V 3)]) (.agg #[.int .i64 (V 0), .int .i64 (V 1), .int .i64 (V 2), .int .i64 (V 3)])).run Try.prog w = .ok true w := fun w => by rw [teq4 V V w]; simp
  by_cases h0 : E = 0
  · subst h0
    have HB8 : Hid (vArr 8 (bnV V) = #[.int .i64 (bns V 0), .int .i64 (bns V 1), .int .i64 (bns V 2), .int .i64 (bns V 3), .int .i64 (bns V 4), .int .i64 (bns V 5), .int .i64 (bns V 6), .int .i64 (bns V 7)]) := Lib.hid rfl
    have HS4 : Hid (vArr 4 (sqV V) = #[.int .i64 (sqB V 0), .int .i64 (sqB V 1), .int .i64 (sqB V 2), .int .i64 (sqB V 3)]) := Lib.hid rfl
    go_enter Try.func3, Try.ntmps3
    go_wp2_with fail
    refine (liveT_any _).mono ?_
    rintro e w0 ⟨rfl, b0⟩
    have QB := Lib.hid b0
    clear b0
    go_wp2_with fail
    refine (tfold_any (HR.out.keep QB.out) hn).mono ?_
    rw [HE.out, HV.out, iArr_four]
    rintro e w1 ⟨rfl, b1⟩
    have KN : Blk (w1.alloc (.cells #[.int .i64 (V 0), .int .i64 (V 1), .int .i64 (V 2), .int .i64 (V 3)] 24)) w1.heap.size 24 #[.int .i64 (V 0), .int .i64 (V 1), .int .i64 (V 2), .int .i64 (V 3)] := Blk.new w1 _ _
    have KB : Below W.heap.size W (w1.alloc (.cells #[.int .i64 (V 0), .int .i64 (V 1), .int .i64 (V 2), .int .i64 (V 3)] 24)) := (QB.out.trans (b1.mono QB.out.size)).alloc (Nat.le_trans QB.out.size b1.size) _
    obtain ⟨gf, hgf⟩ : ∃ h, w1.heap.size = h := ⟨_, rfl⟩
    rw [hgf] at KN
    have Hgf := Lib.hid KN
    have QB := Lib.hid KB
    clear  KN KB b1
    go_upto_region 6 with fail
    generalize World.alloc _ _ = v1 at *
    clear hgf
    go_wp2_with fail
    refine (tof_any (HR.out.keep QB.out) hn).mono ?_
    rw [HE.out, HV.out, HB8.out]
    rintro e w2 ⟨rfl, b2⟩
    have KHgf : Blk (w2.alloc (.cells #[.int .i64 (bns V 0), .int .i64 (bns V 1), .int .i64 (bns V 2), .int .i64 (bns V 3), .int .i64 (bns V 4), .int .i64 (bns V 5), .int .i64 (bns V 6), .int .i64 (bns V 7)] 29)) gf 24 #[.int .i64 (V 0), .int .i64 (V 1), .int .i64 (V 2), .int .i64 (V 3)] := (Hgf.out.below b2 Hgf.out.lt).alloc _
    have KN : Blk (w2.alloc (.cells #[.int .i64 (bns V 0), .int .i64 (bns V 1), .int .i64 (bns V 2), .int .i64 (bns V 3), .int .i64 (bns V 4), .int .i64 (bns V 5), .int .i64 (bns V 6), .int .i64 (bns V 7)] 29)) w2.heap.size 29 #[.int .i64 (bns V 0), .int .i64 (bns V 1), .int .i64 (bns V 2), .int .i64 (bns V 3), .int .i64 (bns V 4), .int .i64 (bns V 5), .int .i64 (bns V 6), .int .i64 (bns V 7)] := Blk.new w2 _ _
    have KB : Below W.heap.size W (w2.alloc (.cells #[.int .i64 (bns V 0), .int .i64 (bns V 1), .int .i64 (bns V 2), .int .i64 (bns V 3), .int .i64 (bns V 4), .int .i64 (bns V 5), .int .i64 (bns V 6), .int .i64 (bns V 7)] 29)) := (QB.out.trans (b2.mono QB.out.size)).alloc (Nat.le_trans QB.out.size b2.size) _
    obtain ⟨gb, hgb⟩ : ∃ h, w2.heap.size = h := ⟨_, rfl⟩
    rw [hgb] at KN
    have Hgf := Lib.hid KHgf
    have Hgb := Lib.hid KN
    have QB := Lib.hid KB
    clear KHgf KN KB b2
    go_upto_region 7 with fail
    generalize World.alloc _ _ = v2 at *
    clear hgb
    go_wp2_with fail
    refine (tstrength_any (HR.out.keep QB.out) hn).mono ?_
    rw [HE.out, HV.out, HS4.out]
    rintro e w3 ⟨rfl, b3⟩
    have KHgf : Blk (w3.alloc (.cells #[.int .i64 (sqB V 0), .int .i64 (sqB V 1), .int .i64 (sqB V 2), .int .i64 (sqB V 3)] 24)) gf 24 #[.int .i64 (V 0), .int .i64 (V 1), .int .i64 (V 2), .int .i64 (V 3)] := (Hgf.out.below b3 Hgf.out.lt).alloc _
    have KHgb : Blk (w3.alloc (.cells #[.int .i64 (sqB V 0), .int .i64 (sqB V 1), .int .i64 (sqB V 2), .int .i64 (sqB V 3)] 24)) gb 29 #[.int .i64 (bns V 0), .int .i64 (bns V 1), .int .i64 (bns V 2), .int .i64 (bns V 3), .int .i64 (bns V 4), .int .i64 (bns V 5), .int .i64 (bns V 6), .int .i64 (bns V 7)] := (Hgb.out.below b3 Hgb.out.lt).alloc _
    have KN : Blk (w3.alloc (.cells #[.int .i64 (sqB V 0), .int .i64 (sqB V 1), .int .i64 (sqB V 2), .int .i64 (sqB V 3)] 24)) w3.heap.size 24 #[.int .i64 (sqB V 0), .int .i64 (sqB V 1), .int .i64 (sqB V 2), .int .i64 (sqB V 3)] := Blk.new w3 _ _
    have KB : Below W.heap.size W (w3.alloc (.cells #[.int .i64 (sqB V 0), .int .i64 (sqB V 1), .int .i64 (sqB V 2), .int .i64 (sqB V 3)] 24)) := (QB.out.trans (b3.mono QB.out.size)).alloc (Nat.le_trans QB.out.size b3.size) _
    obtain ⟨gs, hgs⟩ : ∃ h, w3.heap.size = h := ⟨_, rfl⟩
    rw [hgs] at KN
    have Hgf := Lib.hid KHgf
    have Hgb := Lib.hid KHgb
    have Hgs := Lib.hid KN
    have QB := Lib.hid KB
    clear KHgf KHgb KN KB b3
    go_upto_region 8 with fail
    generalize World.alloc _ _ = v3 at *
    clear hgs
    go_wp2_with fail
    refine (trfold_any (HR.out.keep QB.out) hn).mono ?_
    rw [HE.out, HV.out, iArr_four]
    rintro e w4 ⟨rfl, b4⟩
    have KHgf : Blk (w4.alloc (.cells #[.int .i64 (V 0), .int .i64 (V 1), .int .i64 (V 2), .int .i64 (V 3)] 24)) gf 24 #[.int .i64 (V 0), .int .i64 (V 1), .int .i64 (V 2), .int .i64 (V 3)] := (Hgf.out.below b4 Hgf.out.lt).alloc _
    have KHgb : Blk (w4.alloc (.cells #[.int .i64 (V 0), .int .i64 (V 1), .int .i64 (V 2), .int .i64 (V 3)] 24)) gb 29 #[.int .i64 (bns V 0), .int .i64 (bns V 1), .int .i64 (bns V 2), .int .i64 (bns V 3), .int .i64 (bns V 4), .int .i64 (bns V 5), .int .i64 (bns V 6), .int .i64 (bns V 7)] := (Hgb.out.below b4 Hgb.out.lt).alloc _
    have KHgs : Blk (w4.alloc (.cells #[.int .i64 (V 0), .int .i64 (V 1), .int .i64 (V 2), .int .i64 (V 3)] 24)) gs 24 #[.int .i64 (sqB V 0), .int .i64 (sqB V 1), .int .i64 (sqB V 2), .int .i64 (sqB V 3)] := (Hgs.out.below b4 Hgs.out.lt).alloc _
    have KN : Blk (w4.alloc (.cells #[.int .i64 (V 0), .int .i64 (V 1), .int .i64 (V 2), .int .i64 (V 3)] 24)) w4.heap.size 24 #[.int .i64 (V 0), .int .i64 (V 1), .int .i64 (V 2), .int .i64 (V 3)] := Blk.new w4 _ _
    have KB : Below W.heap.size W (w4.alloc (.cells #[.int .i64 (V 0), .int .i64 (V 1), .int .i64 (V 2), .int .i64 (V 3)] 24)) := (QB.out.trans (b4.mono QB.out.size)).alloc (Nat.le_trans QB.out.size b4.size) _
    obtain ⟨gw, hgw⟩ : ∃ h, w4.heap.size = h := ⟨_, rfl⟩
    rw [hgw] at KN
    have Hgf := Lib.hid KHgf
    have Hgb := Lib.hid KHgb
    have Hgs := Lib.hid KHgs
    have Hgw := Lib.hid KN
    have QB := Lib.hid KB
    clear KHgf KHgb KHgs KN KB b4
    go_upto_region 9 with fail
    generalize World.alloc _ _ = v4 at *
    clear hgw
    have cgf0 : v4.cell? ⟨gf, 0, none⟩ = some (.int .i64 (V 0)) := Hgf.out.cell 0
    have cgf1 : v4.cell? ⟨gf, 1, none⟩ = some (.int .i64 (V 1)) := Hgf.out.cell 1
    have cgf2 : v4.cell? ⟨gf, 2, none⟩ = some (.int .i64 (V 2)) := Hgf.out.cell 2
    have cgf3 : v4.cell? ⟨gf, 3, none⟩ = some (.int .i64 (V 3)) := Hgf.out.cell 3
    have cgw0 : v4.cell? ⟨gw, 0, none⟩ = some (.int .i64 (V 0)) := Hgw.out.cell 0
    have cgw1 : v4.cell? ⟨gw, 1, none⟩ = some (.int .i64 (V 1)) := Hgw.out.cell 1
    have cgw2 : v4.cell? ⟨gw, 2, none⟩ = some (.int .i64 (V 2)) := Hgw.out.cell 2
    have cgw3 : v4.cell? ⟨gw, 3, none⟩ = some (.int .i64 (V 3)) := Hgw.out.cell 3
    go_wp2_with fail
    clear cgf0 cgf1 cgf2 cgf3 cgw0 cgw1 cgw2 cgw3
    refine (tbins_any V (fun i _ => by have := HVf.out i; omega) _).mono ?_
    rw [HB8.out]
    rintro e w5 ⟨rfl, b5⟩
    have KHgf : Blk (w5.alloc (.cells #[.int .i64 (bns V 0), .int .i64 (bns V 1), .int .i64 (bns V 2), .int .i64 (bns V 3), .int .i64 (bns V 4), .int .i64 (bns V 5), .int .i64 (bns V 6), .int .i64 (bns V 7)] 29)) gf 24 #[.int .i64 (V 0), .int .i64 (V 1), .int .i64 (V 2), .int .i64 (V 3)] := (Hgf.out.below b5 Hgf.out.lt).alloc _
    have KHgb : Blk (w5.alloc (.cells #[.int .i64 (bns V 0), .int .i64 (bns V 1), .int .i64 (bns V 2), .int .i64 (bns V 3), .int .i64 (bns V 4), .int .i64 (bns V 5), .int .i64 (bns V 6), .int .i64 (bns V 7)] 29)) gb 29 #[.int .i64 (bns V 0), .int .i64 (bns V 1), .int .i64 (bns V 2), .int .i64 (bns V 3), .int .i64 (bns V 4), .int .i64 (bns V 5), .int .i64 (bns V 6), .int .i64 (bns V 7)] := (Hgb.out.below b5 Hgb.out.lt).alloc _
    have KHgs : Blk (w5.alloc (.cells #[.int .i64 (bns V 0), .int .i64 (bns V 1), .int .i64 (bns V 2), .int .i64 (bns V 3), .int .i64 (bns V 4), .int .i64 (bns V 5), .int .i64 (bns V 6), .int .i64 (bns V 7)] 29)) gs 24 #[.int .i64 (sqB V 0), .int .i64 (sqB V 1), .int .i64 (sqB V 2), .int .i64 (sqB V 3)] := (Hgs.out.below b5 Hgs.out.lt).alloc _
    have KHgw : Blk (w5.alloc (.cells #[.int .i64 (bns V 0), .int .i64 (bns V 1), .int .i64 (bns V 2), .int .i64 (bns V 3), .int .i64 (bns V 4), .int .i64 (bns V 5), .int .i64 (bns V 6), .int .i64 (bns V 7)] 29)) gw 24 #[.int .i64 (V 0), .int .i64 (V 1), .int .i64 (V 2), .int .i64 (V 3)] := (Hgw.out.below b5 Hgw.out.lt).alloc _
    have KN : Blk (w5.alloc (.cells #[.int .i64 (bns V 0), .int .i64 (bns V 1), .int .i64 (bns V 2), .int .i64 (bns V 3), .int .i64 (bns V 4), .int .i64 (bns V 5), .int .i64 (bns V 6), .int .i64 (bns V 7)] 29)) w5.heap.size 29 #[.int .i64 (bns V 0), .int .i64 (bns V 1), .int .i64 (bns V 2), .int .i64 (bns V 3), .int .i64 (bns V 4), .int .i64 (bns V 5), .int .i64 (bns V 6), .int .i64 (bns V 7)] := Blk.new w5 _ _
    have KB : Below W.heap.size W (w5.alloc (.cells #[.int .i64 (bns V 0), .int .i64 (bns V 1), .int .i64 (bns V 2), .int .i64 (bns V 3), .int .i64 (bns V 4), .int .i64 (bns V 5), .int .i64 (bns V 6), .int .i64 (bns V 7)] 29)) := (QB.out.trans (b5.mono QB.out.size)).alloc (Nat.le_trans QB.out.size b5.size) _
    obtain ⟨gm, hgm⟩ : ∃ h, w5.heap.size = h := ⟨_, rfl⟩
    rw [hgm] at KN
    have Hgf := Lib.hid KHgf
    have Hgb := Lib.hid KHgb
    have Hgs := Lib.hid KHgs
    have Hgw := Lib.hid KHgw
    have Hgm := Lib.hid KN
    have QB := Lib.hid KB
    clear KHgf KHgb KHgs KHgw KN KB b5
    go_upto_region 14 with fail
    generalize World.alloc _ _ = v5 at *
    clear hgm
    go_wp2_with fail
    go_loopw [12] (fun i wr => ∃ k : Nat, k ≤ 4 ∧ i = .int .i64 k ∧ Blk wr gb 29 #[.int .i64 (bns V 0), .int .i64 (bns V 1), .int .i64 (bns V 2), .int .i64 (bns V 3), .int .i64 (bns V 4), .int .i64 (bns V 5), .int .i64 (bns V 6), .int .i64 (bns V 7)] ∧ Blk wr gs 24 #[.int .i64 (sqB V 0), .int .i64 (sqB V 1), .int .i64 (sqB V 2), .int .i64 (sqB V 3)] ∧ Blk wr gm 29 #[.int .i64 (bns V 0), .int .i64 (bns V 1), .int .i64 (bns V 2), .int .i64 (bns V 3), .int .i64 (bns V 4), .int .i64 (bns V 5), .int .i64 (bns V 6), .int .i64 (bns V 7)] ∧ Below W.heap.size W wr) (fun i _ => 4 - (intOf i).toNat)
    case atStart => exact ⟨0, by omega, rfl, Hgb.out, Hgs.out, Hgm.out, QB.out⟩
    case round =>
      clear Hgf Hgb Hgs Hgw Hgm QB
      obtain ⟨k, hk, rfl, hb, hs, hm, hB⟩ := hrel
      have Hgb := Lib.hid hb
      have Hgs := Lib.hid hs
      have Hgm := Lib.hid hm
      have QB := Lib.hid hB
      clear hb hB
      by_cases hlt : k < 4
      · have i1 : (k : Int) < 4 := by omega
        have i2 : (0 : Int) ≤ (k : Int) := by omega
        obtain ⟨a, ha⟩ : ∃ a, bns V (k * 2) = a := ⟨_, rfl⟩
        obtain ⟨b, hb⟩ : ∃ b, bns V (k * 2 + 1) = b := ⟨_, rfl⟩
        obtain ⟨a0, a1⟩ := sq_bd (ha ▸ HVb.out (k * 2))
        obtain ⟨b0, b1⟩ := sq_bd (hb ▸ HVb.out (k * 2 + 1))
        obtain ⟨aa, haa⟩ : ∃ x, a * a = x := ⟨_, rfl⟩
        obtain ⟨bb, hbb⟩ : ∃ x, b * b = x := ⟨_, rfl⟩
        rw [haa] at a0 a1
        rw [hbb] at b0 b1
        have cs : wr.cell? ⟨gs, k, none⟩ = some (.int .i64 (aa + bb)) := by
          rw [hs.cell, ← HS4.out, vArr_at 4 _ _ hlt]; unfold sqV sqB; rw [ha, hb, haa, hbb]
        have cm0 : wr.cell? ⟨gm, k * 2, none⟩ = some (.int .i64 a) := by rw [hm.cell, ← HB8.out, vArr_at 8 _ _ (by omega), ← ha]; rfl
        have cm1 : wr.cell? ⟨gm, k * 2 + 1, none⟩ = some (.int .i64 b) := by rw [hm.cell, ← HB8.out, vArr_at 8 _ _ (by omega), ← hb]; rfl
        clear hs hm ha hb
        go_wp2_with fail
        go_quiet (fail)
        go_wp2_with fail
        go_roundw
        case rel => exact ⟨k + 1, by omega, by go_num, Hgb.out, Hgs.out, Hgm.out, below_like QB.out rfl rfl rfl rfl⟩
        case measure => simp [intOf]; omega
      · have i1 : ¬ (k : Int) < 4 := by omega
        obtain rfl : k = 4 := by omega
        clear hs hm
        have cgb0 : wr.cell? ⟨gb, 0, none⟩ = some (.int .i64 (bns V 0)) := Hgb.out.cell 0
        have cgb1 : wr.cell? ⟨gb, 1, none⟩ = some (.int .i64 (bns V 1)) := Hgb.out.cell 1
        have cgb2 : wr.cell? ⟨gb, 2, none⟩ = some (.int .i64 (bns V 2)) := Hgb.out.cell 2
        have cgb3 : wr.cell? ⟨gb, 3, none⟩ = some (.int .i64 (bns V 3)) := Hgb.out.cell 3
        have cgb4 : wr.cell? ⟨gb, 4, none⟩ = some (.int .i64 (bns V 4)) := Hgb.out.cell 4
        have cgb5 : wr.cell? ⟨gb, 5, none⟩ = some (.int .i64 (bns V 5)) := Hgb.out.cell 5
        have cgb6 : wr.cell? ⟨gb, 6, none⟩ = some (.int .i64 (bns V 6)) := Hgb.out.cell 6
        have cgb7 : wr.cell? ⟨gb, 7, none⟩ = some (.int .i64 (bns V 7)) := Hgb.out.cell 7
        have cgm0 : wr.cell? ⟨gm, 0, none⟩ = some (.int .i64 (bns V 0)) := Hgm.out.cell 0
        have cgm1 : wr.cell? ⟨gm, 1, none⟩ = some (.int .i64 (bns V 1)) := Hgm.out.cell 1
        have cgm2 : wr.cell? ⟨gm, 2, none⟩ = some (.int .i64 (bns V 2)) := Hgm.out.cell 2
        have cgm3 : wr.cell? ⟨gm, 3, none⟩ = some (.int .i64 (bns V 3)) := Hgm.out.cell 3
        have cgm4 : wr.cell? ⟨gm, 4, none⟩ = some (.int .i64 (bns V 4)) := Hgm.out.cell 4
        have cgm5 : wr.cell? ⟨gm, 5, none⟩ = some (.int .i64 (bns V 5)) := Hgm.out.cell 5
        have cgm6 : wr.cell? ⟨gm, 6, none⟩ = some (.int .i64 (bns V 6)) := Hgm.out.cell 6
        have cgm7 : wr.cell? ⟨gm, 7, none⟩ = some (.int .i64 (bns V 7)) := Hgm.out.cell 7
        have q1 : ∀ w, (Op.equalIn 10000 29 (.agg #[.int .i64 (bns V 0), .int .i64 (bns V 1), .int .i64 (bns V 2), .int .i64 (bns V 3), .int .i64 (bns V 4), .int .i64 (bns V 5), .int .i64 (bns V 6), .int .i64 (bns V 7)]) (.agg #[.int .i64 (bns V 0), .int .i64 (bns V 1), .int .i64 (bns V 2), .int .i64 (bns V 3), .int .i64 (bns V 4), .int .i64 (bns V 5), .int .i64 (bns V 6), .int .i64 (bns V 7)])).run Try.prog w = .ok true w := fun w => by rw [teq8 (bns V) (bns V) w]; simp
        go_wp2_with fail
        go_ret
        exact ⟨rfl, QB.out⟩
  have n0 : (E != 0) = true := by simpa using h0
  have HB8 : Hid (vArr 8 (bnV V) = #[.int .i64 (0), .int .i64 (0), .int .i64 (0), .int .i64 (0), .int .i64 (0), .int .i64 (0), .int .i64 (0), .int .i64 (0)]) := Lib.hid (bnV_zero V (HZ.out h0))
  have HS4 : Hid (vArr 4 (sqV V) = #[.int .i64 (0), .int .i64 (0), .int .i64 (0), .int .i64 (0)]) := Lib.hid (vArr_congr (f' := fun _ => .int .i64 0) fun k _ => by unfold sqV sqB; rw [bns_zero V (HZ.out h0), bns_zero V (HZ.out h0)]; rfl)
  go_enter Try.func3, Try.ntmps3
  go_wp2_with fail
  refine (liveT_any _).mono ?_
  rintro e w0 ⟨rfl, b0⟩
  have QB := Lib.hid b0
  clear b0
  go_wp2_with fail
  refine (tfold_any (HR.out.keep QB.out) hn).mono ?_
  rw [HE.out, HV.out, iArr_four]
  rintro e w1 ⟨rfl, b1⟩
  have KN : Blk (w1.alloc (.cells #[.int .i64 (V 0), .int .i64 (V 1), .int .i64 (V 2), .int .i64 (V 3)] 24)) w1.heap.size 24 #[.int .i64 (V 0), .int .i64 (V 1), .int .i64 (V 2), .int .i64 (V 3)] := Blk.new w1 _ _
  have KB : Below W.heap.size W (w1.alloc (.cells #[.int .i64 (V 0), .int .i64 (V 1), .int .i64 (V 2), .int .i64 (V 3)] 24)) := (QB.out.trans (b1.mono QB.out.size)).alloc (Nat.le_trans QB.out.size b1.size) _
  obtain ⟨gf, hgf⟩ : ∃ h, w1.heap.size = h := ⟨_, rfl⟩
  rw [hgf] at KN
  have Hgf := Lib.hid KN
  have QB := Lib.hid KB
  clear  KN KB b1
  go_upto_region 6 with fail
  generalize World.alloc _ _ = v1 at *
  clear hgf
  go_wp2_with fail
  refine (tof_any (HR.out.keep QB.out) hn).mono ?_
  rw [HE.out, HV.out, HB8.out]
  rintro e w2 ⟨rfl, b2⟩
  have KHgf : Blk (w2.alloc (.cells #[.int .i64 (0), .int .i64 (0), .int .i64 (0), .int .i64 (0), .int .i64 (0), .int .i64 (0), .int .i64 (0), .int .i64 (0)] 29)) gf 24 #[.int .i64 (V 0), .int .i64 (V 1), .int .i64 (V 2), .int .i64 (V 3)] := (Hgf.out.below b2 Hgf.out.lt).alloc _
  have KN : Blk (w2.alloc (.cells #[.int .i64 (0), .int .i64 (0), .int .i64 (0), .int .i64 (0), .int .i64 (0), .int .i64 (0), .int .i64 (0), .int .i64 (0)] 29)) w2.heap.size 29 #[.int .i64 (0), .int .i64 (0), .int .i64 (0), .int .i64 (0), .int .i64 (0), .int .i64 (0), .int .i64 (0), .int .i64 (0)] := Blk.new w2 _ _
  have KB : Below W.heap.size W (w2.alloc (.cells #[.int .i64 (0), .int .i64 (0), .int .i64 (0), .int .i64 (0), .int .i64 (0), .int .i64 (0), .int .i64 (0), .int .i64 (0)] 29)) := (QB.out.trans (b2.mono QB.out.size)).alloc (Nat.le_trans QB.out.size b2.size) _
  obtain ⟨gb, hgb⟩ : ∃ h, w2.heap.size = h := ⟨_, rfl⟩
  rw [hgb] at KN
  have Hgf := Lib.hid KHgf
  have Hgb := Lib.hid KN
  have QB := Lib.hid KB
  clear KHgf KN KB b2
  go_upto_region 7 with fail
  generalize World.alloc _ _ = v2 at *
  clear hgb
  go_wp2_with fail
  refine (tstrength_any (HR.out.keep QB.out) hn).mono ?_
  rw [HE.out, HV.out, HS4.out]
  rintro e w3 ⟨rfl, b3⟩
  have KHgf : Blk (w3.alloc (.cells #[.int .i64 (0), .int .i64 (0), .int .i64 (0), .int .i64 (0)] 24)) gf 24 #[.int .i64 (V 0), .int .i64 (V 1), .int .i64 (V 2), .int .i64 (V 3)] := (Hgf.out.below b3 Hgf.out.lt).alloc _
  have KHgb : Blk (w3.alloc (.cells #[.int .i64 (0), .int .i64 (0), .int .i64 (0), .int .i64 (0)] 24)) gb 29 #[.int .i64 (0), .int .i64 (0), .int .i64 (0), .int .i64 (0), .int .i64 (0), .int .i64 (0), .int .i64 (0), .int .i64 (0)] := (Hgb.out.below b3 Hgb.out.lt).alloc _
  have KN : Blk (w3.alloc (.cells #[.int .i64 (0), .int .i64 (0), .int .i64 (0), .int .i64 (0)] 24)) w3.heap.size 24 #[.int .i64 (0), .int .i64 (0), .int .i64 (0), .int .i64 (0)] := Blk.new w3 _ _
  have KB : Below W.heap.size W (w3.alloc (.cells #[.int .i64 (0), .int .i64 (0), .int .i64 (0), .int .i64 (0)] 24)) := (QB.out.trans (b3.mono QB.out.size)).alloc (Nat.le_trans QB.out.size b3.size) _
  obtain ⟨gs, hgs⟩ : ∃ h, w3.heap.size = h := ⟨_, rfl⟩
  rw [hgs] at KN
  have Hgf := Lib.hid KHgf
  have Hgb := Lib.hid KHgb
  have Hgs := Lib.hid KN
  have QB := Lib.hid KB
  clear KHgf KHgb KN KB b3
  go_upto_region 8 with fail
  generalize World.alloc _ _ = v3 at *
  clear hgs
  go_wp2_with fail
  refine (trfold_any (HR.out.keep QB.out) hn).mono ?_
  rw [HE.out, HV.out, iArr_four]
  rintro e w4 ⟨rfl, b4⟩
  have KHgf : Blk (w4.alloc (.cells #[.int .i64 (V 0), .int .i64 (V 1), .int .i64 (V 2), .int .i64 (V 3)] 24)) gf 24 #[.int .i64 (V 0), .int .i64 (V 1), .int .i64 (V 2), .int .i64 (V 3)] := (Hgf.out.below b4 Hgf.out.lt).alloc _
  have KHgb : Blk (w4.alloc (.cells #[.int .i64 (V 0), .int .i64 (V 1), .int .i64 (V 2), .int .i64 (V 3)] 24)) gb 29 #[.int .i64 (0), .int .i64 (0), .int .i64 (0), .int .i64 (0), .int .i64 (0), .int .i64 (0), .int .i64 (0), .int .i64 (0)] := (Hgb.out.below b4 Hgb.out.lt).alloc _
  have KHgs : Blk (w4.alloc (.cells #[.int .i64 (V 0), .int .i64 (V 1), .int .i64 (V 2), .int .i64 (V 3)] 24)) gs 24 #[.int .i64 (0), .int .i64 (0), .int .i64 (0), .int .i64 (0)] := (Hgs.out.below b4 Hgs.out.lt).alloc _
  have KN : Blk (w4.alloc (.cells #[.int .i64 (V 0), .int .i64 (V 1), .int .i64 (V 2), .int .i64 (V 3)] 24)) w4.heap.size 24 #[.int .i64 (V 0), .int .i64 (V 1), .int .i64 (V 2), .int .i64 (V 3)] := Blk.new w4 _ _
  have KB : Below W.heap.size W (w4.alloc (.cells #[.int .i64 (V 0), .int .i64 (V 1), .int .i64 (V 2), .int .i64 (V 3)] 24)) := (QB.out.trans (b4.mono QB.out.size)).alloc (Nat.le_trans QB.out.size b4.size) _
  obtain ⟨gw, hgw⟩ : ∃ h, w4.heap.size = h := ⟨_, rfl⟩
  rw [hgw] at KN
  have Hgf := Lib.hid KHgf
  have Hgb := Lib.hid KHgb
  have Hgs := Lib.hid KHgs
  have Hgw := Lib.hid KN
  have QB := Lib.hid KB
  clear KHgf KHgb KHgs KN KB b4
  go_upto_region 9 with fail
  generalize World.alloc _ _ = v4 at *
  clear hgw
  have cgf0 : v4.cell? ⟨gf, 0, none⟩ = some (.int .i64 (V 0)) := Hgf.out.cell 0
  have cgf1 : v4.cell? ⟨gf, 1, none⟩ = some (.int .i64 (V 1)) := Hgf.out.cell 1
  have cgf2 : v4.cell? ⟨gf, 2, none⟩ = some (.int .i64 (V 2)) := Hgf.out.cell 2
  have cgf3 : v4.cell? ⟨gf, 3, none⟩ = some (.int .i64 (V 3)) := Hgf.out.cell 3
  have cgb0 : v4.cell? ⟨gb, 0, none⟩ = some (.int .i64 (0)) := Hgb.out.cell 0
  have cgb1 : v4.cell? ⟨gb, 1, none⟩ = some (.int .i64 (0)) := Hgb.out.cell 1
  have cgb2 : v4.cell? ⟨gb, 2, none⟩ = some (.int .i64 (0)) := Hgb.out.cell 2
  have cgb3 : v4.cell? ⟨gb, 3, none⟩ = some (.int .i64 (0)) := Hgb.out.cell 3
  have cgb4 : v4.cell? ⟨gb, 4, none⟩ = some (.int .i64 (0)) := Hgb.out.cell 4
  have cgb5 : v4.cell? ⟨gb, 5, none⟩ = some (.int .i64 (0)) := Hgb.out.cell 5
  have cgb6 : v4.cell? ⟨gb, 6, none⟩ = some (.int .i64 (0)) := Hgb.out.cell 6
  have cgb7 : v4.cell? ⟨gb, 7, none⟩ = some (.int .i64 (0)) := Hgb.out.cell 7
  have cgs0 : v4.cell? ⟨gs, 0, none⟩ = some (.int .i64 (0)) := Hgs.out.cell 0
  have cgs1 : v4.cell? ⟨gs, 1, none⟩ = some (.int .i64 (0)) := Hgs.out.cell 1
  have cgs2 : v4.cell? ⟨gs, 2, none⟩ = some (.int .i64 (0)) := Hgs.out.cell 2
  have cgs3 : v4.cell? ⟨gs, 3, none⟩ = some (.int .i64 (0)) := Hgs.out.cell 3
  have cgw0 : v4.cell? ⟨gw, 0, none⟩ = some (.int .i64 (V 0)) := Hgw.out.cell 0
  have cgw1 : v4.cell? ⟨gw, 1, none⟩ = some (.int .i64 (V 1)) := Hgw.out.cell 1
  have cgw2 : v4.cell? ⟨gw, 2, none⟩ = some (.int .i64 (V 2)) := Hgw.out.cell 2
  have cgw3 : v4.cell? ⟨gw, 3, none⟩ = some (.int .i64 (V 3)) := Hgw.out.cell 3
  have q1 : ∀ w, (Op.equalIn 10000 29 (.agg #[.int .i64 (0), .int .i64 (0), .int .i64 (0), .int .i64 (0), .int .i64 (0), .int .i64 (0), .int .i64 (0), .int .i64 (0)]) (.agg #[.int .i64 (0), .int .i64 (0), .int .i64 (0), .int .i64 (0), .int .i64 (0), .int .i64 (0), .int .i64 (0), .int .i64 (0)])).run Try.prog w = .ok true w := fun w => teq8 (fun _ => 0) (fun _ => 0) w
  have q2 : ∀ w, (Op.equalIn 10000 24 (.agg #[.int .i64 (0), .int .i64 (0), .int .i64 (0), .int .i64 (0)]) (.agg #[.int .i64 (0), .int .i64 (0), .int .i64 (0), .int .i64 (0)])).run Try.prog w = .ok true w := fun w => teq4 (fun _ => 0) (fun _ => 0) w
  go_wp2_with fail
  go_ret
  exact ⟨rfl, QB.out⟩

theorem own : ownKnob Try.prog.godebug = none := by kernel_rfl
theorem laidOut : laidOutB Try.prog = true := by kernel_rfl
set_option maxRecDepth 100000 in
theorem lifted (os : Os) (started : os.Started) (H : Type) (enc : TypeId × Value → H) :
    ReturnsInHanded {} Try.checked os 3 .any (Rows.turnsTellSpec.pre6 enc Try.prog Try.f3 Rows.turnsTellRow.domain false) (Rows.turnsTellSpec.post enc Try.prog Try.f3 false true false false) := by
  refine returnsInHanded_of_change (C := Try.checked) own started (by kernel_rfl) Try.func3
    (ChangeSpec.witness6 (enc := enc) (C := Try.checked) false ⟨#[], #[.slice none 0 0], []⟩ 8 (by kernel_rfl) (by kernel_rfl) (by kernel_rfl) (by kernel_rfl)) ?_
  intro W base args ds gs before hval0 hW _ _
  have hval : ∀ (j : Nat) t v, Try.f3.params[j]? = some t → args[j]? = some v → Value.okWide Try.prog W .any base t v := hval0
  have hW' := hW
  obtain ⟨p, q, hA0, hV, rfl, _, _⟩ := hW
  have hA : DataW.TrodAll enc Try.prog W 0 (fun _ => true) true Try.f3.params.toList args.toList ds p := hA0
  rw [Try.params3] at hA hval
  obtain ⟨v0, vs0, d0, ds0, p0, q0, hargs, rfl, rfl, h0, r0⟩ := trodAll_cons hA
  obtain ⟨rfl, rfl, rfl⟩ := trodAll_nil r0
  obtain rfl : args = #[v0] := by cases args; simp_all
  obtain ⟨rfl, rfl⟩ := trodVars_none hV
  obtain ⟨A0, n0, c0, z0, rfl, g0, m0, R0⟩ := slice_ints Try.underlying22 Try.underlying3 (by kernel_rfl) (hval 0 22 v0 rfl rfl) h0
  clear hA0 hval0
  refine (walk A0 n0 c0 z0 g0 m0 R0).mono fun e W' ⟨he, hg⟩ => ?_
  subst he
  exact ⟨_, rfl, law_post rfl Try.underlying4 laidOut (by kernel_rfl) rfl hW' rfl hg⟩

theorem over : Rows.turnsTellRow.holds Try.pinned (OpenSpec.ofChange Rows.turnsTellSpec) :=
  OpenClaim.holds_of_wide 3 Try.f3 rfl rfl rfl rfl rfl rfl rfl ⟨rfl, rfl, rfl, rfl, rfl⟩ rfl rfl rfl rfl rfl (by kernel_rfl) Try.func3 (by kernel_rfl)
    (of_decide_eq_true (by kernel_rfl)) (by unfold Func.isWrapper; first | (rw [if_pos (by decide +kernel)]; kernel_rfl) | (rw [if_neg (by decide +kernel)]; exact ⟨rfl, rfl⟩))
    (fun os started H enc _ => lifted os started H enc)

theorem proved : Rows.TurnsTellSaid := over
#print axioms proved
end Go.Proofs.Ytnelcbbjnpaodaa.turnsTell
