/-
  For every input BurstMoves returns true, and each argument reads behind the call as it read before. The one condition: when the call begins the package-level variables that the row lists hold what the program lays in them (TIED: the card shows it of the text of the project, pruned to the packages that this seat loads).
-/
import Derived.Test.YtndhkdcdhpfajaaDoorRows
import Derived.Test.YtndhkdcdhpfajaaDoorG3
import Derived.SevenTiedAt
import Derived.ProofKit
import Derived.LaidMore
import Derived.OpenShut
import Derived.Stop.Joined
import Derived.Test.YtndhkdcdhpfajaaDoorCards
import Derived.Test.YtndhkdcdhpfajaaDoorTie
import Derived.Test.YtndhkdcdhpfajaaDoorBur9
import Derived.Test.YtndhkdcdhpfajaaDoorG14
import Derived.Test.YtndhkdcdhpfajaaDoorG22
namespace Go.Proofs.YtndhkdcdhpfajaaDoor.burstMoves
open Go.ChangeShapes Go.WideShapes Go.ChangeAt Go.RowKit
open Go.ChangeMaps (open_string)

set_option linter.unusedVariables false
set_option linter.unusedSimpArgs false
set_option maxRecDepth 100000 in
set_option maxHeartbeats 16000000 in
theorem walk {W : World} (k : Int) (wk : (Lit.int .u8 k).wf = true) (z : Nat → Int) (uz : ∀ i, (Lit.int .u16 (z i)).wf = true) (y : Nat → Int) (uy : ∀ i, (Lit.int .u8 (y i)).wf = true) (hT : Tabs W) :
    Calls Tryd.prog 4 #[.int .u8 k, .agg #[.int .u16 (z 0), .int .u16 (z 1), .int .u16 (z 2)], .agg (iArr .u8 64 y)] W fun e w' => e = .returned (.bool true) ∧ Below W.heap.size W w' := by
  obtain ⟨k0, k1⟩ := bounds_u8 wk
  obtain ⟨f0, f1⟩ := bounds_u16 (uz 0)
  obtain ⟨t0, t1⟩ := bounds_u16 (uz 1)
  obtain ⟨l0, l1⟩ := bounds_u16 (uz 2)
  obtain ⟨K, rfl⟩ : ∃ K : Nat, k = K := ⟨k.toNat, by omega⟩
  generalize z 0 = f at *
  generalize z 1 = t at *
  generalize z 2 = l at *
  clear uz wk
  have hy : ∀ i, i < 64 → 0 ≤ y i ∧ y i ≤ 255 := fun i _ => bounds_u8 (uy i)
  have HY := Lib.hid hy
  have ek : ((K : Nat) : Int).tmod 5 = ((K % 5 : Nat) : Int) := by rw [Int.tmod_eq_emod_of_nonneg (by omega)]; rfl
  have ek2 : ((K : Nat) : Int) % 5 = ((K % 5 : Nat) : Int) := rfl
  have ekw : IntKind.u8.wrap ((K % 5 : Nat) : Int) = ((K % 5 : Nat) : Int) := IntWalk.u8_in _ (by omega)
  obtain ⟨kk, hkk⟩ : ∃ kk, K % 5 = kk := ⟨_, rfl⟩
  have hk5 : kk < 5 := by omega
  obtain ⟨L, hL⟩ : ∃ L : Nat, l % 200 + 1 = (L : Int) := ⟨(l % 200 + 1).toNat, by omega⟩
  have L0 : 1 ≤ L := by omega
  have L1 : L ≤ 200 := by omega
  have el : l.tmod 200 = l % 200 := Int.tmod_eq_emod_of_nonneg l0
  have elw : IntKind.u16.wrap (l % 200) = l % 200 := IntWalk.u16_in _ (by omega)
  have elv : IntKind.u16.wrap (l % 200 + 1) = (L : Int) := by rw [IntWalk.u16_in _ (by omega)]; exact hL
  rw [hkk] at ek ek2 ekw
  have al : Below W.heap.size W (W.alloc (.cells #[.int .u16 f, .int .u16 t, .int .u16 l] 23)) := (Below.refl _ W).alloc (Nat.le_refl _) _
  have al2 : Below W.heap.size W ((W.alloc (.cells #[.int .u16 f, .int .u16 t, .int .u16 l] 23)).alloc (.cells (iArr .u8 64 y) 37)) := al.alloc al.size _
  have HGW := Lib.hid hT.1
  have X0 := Lib.hid ((Blk.new W 23 #[.int .u16 f, .int .u16 t, .int .u16 l]).alloc (.cells (iArr .u8 64 y) 37))
  have M0 := Lib.hid (Blk.new (W.alloc (.cells #[.int .u16 f, .int .u16 t, .int .u16 l] 23)) 37 (iArr .u8 64 y))
  have hgm : (W.alloc (.cells #[.int .u16 f, .int .u16 t, .int .u16 l] 23)).heap.size = W.heap.size + 1 := by simp
  rw [hgm] at M0
  have B0 := Lib.hid al2
  have T0 := Lib.hid (hT.below al2)
  obtain ⟨w0, hw0⟩ : ∃ w0, (W.alloc (.cells #[.int .u16 f, .int .u16 t, .int .u16 l] 23)).alloc (.cells (iArr .u8 64 y) 37) = w0 := ⟨_, rfl⟩
  obtain ⟨gb, hgb⟩ : ∃ gb, W.heap.size = gb := ⟨_, rfl⟩
  rw [hw0] at X0 B0 T0 M0
  rw [hgb] at X0 M0
  have HW0 := Lib.hid hw0
  have HGB := Lib.hid hgb
  have HKK := Lib.hid hkk
  have HLL := Lib.hid hL
  clear al al2 hT hw0 hgb k0 k1 uy hy hgm hkk hL
  go_enter Tryd.func4, Tryd.ntmps4
  go_upto_region 1 with fail
  rw [HW0.out, HGB.out]
  go_upto_region 3 with (refine (live31 T0.out).mono ?_; rintro e w1 ⟨rfl, hb⟩; have X1 := Lib.hid (X0.out.below hb X0.out.lt); have M1 := Lib.hid (M0.out.below hb M0.out.lt); have T1 := Lib.hid (T0.out.below hb); have B1 := Lib.hid (B0.out.trans (hb.mono B0.out.size)); clear hb X0 T0 B0 M0)
  have x2 : w1.cell? ⟨gb, 2, none⟩ = some (.int .u16 l) := X1.out.cell 2
  have y2 : w1.frozen? ⟨gb, 2, none⟩ = false := X1.out.frozen 2
  go_upto_region 5 with fail
  have kx : Kp [gb] w1 (w1.setCell ⟨gb, 2, none⟩ (.int .u16 (L : Int))) := (Kp.refl _ _).setCell (.inl (by simp)) _
  have hgw : W.heap.size ≤ gb := by rw [HGB.out]; exact Nat.le_refl _
  have X2 : Hid (Blk (w1.setCell ⟨gb, 2, none⟩ (.int .u16 (L : Int))) gb 23 #[.int .u16 f, .int .u16 t, .int .u16 (L : Int)]) := Lib.hid (X1.out.set_ 2 _)
  have M2 := Lib.hid (M1.out.kp kx (by simp))
  have hgn : 0 ∉ [gb] := by have a := HGW.out; simp; omega
  have T2 := Lib.hid (T1.out.kp kx hgn)
  have B2 := Lib.hid (Kp.onto B1.out kx B1.out.size (by simpa using hgw))
  have HGWB := Lib.hid hgw
  clear kx hgn hgw x2 y2 X1 M1 T1 B1 HW0
  generalize World.setCell w1 _ _ = w2 at *
  have x0 : w2.cell? ⟨gb, 0, none⟩ = some (.int .u16 f) := X2.out.cell 0
  have x1 : w2.cell? ⟨gb, 1, none⟩ = some (.int .u16 t) := X2.out.cell 1
  have x2 : w2.cell? ⟨gb, 2, none⟩ = some (.int .u16 (L : Int)) := X2.out.cell 2
  have hN := fun w => bnew_any kk f t (L : Int) f0 f1 t0 t1 (by omega) (by omega) hk5 w
  rw [show (cntP (L : Int)).toNat = L by rw [cntB_nat L (by omega)]; rfl] at hN
  have HN := Lib.hid hN
  have hok : (⟨kk, f, t, L, 0, 0, 0⟩ : Bu).ok := ⟨by dsimp only; omega, f0, f1, t0, t1, by dsimp only; omega, by dsimp only; omega, by dsimp only; omega, by dsimp only; omega, by dsimp only; omega, by intro _; rfl⟩
  have HOK := Lib.hid hok
  have hA := fun w R => vapply_ok kk hk5 f t (L : Int) f0 f1 t0 t1 (by omega) (by omega) ⟨gb + 1, 0, none⟩ 64 64 y (by omega) (by omega) w R
  unfold ApplyR at hA
  rw [show (cntP (L : Int)).toNat = L by rw [cntB_nat L (by omega)]; rfl] at hA
  have HA := Lib.hid hA
  have hCy := fun w => bcycles_any (L : Int) (by omega) (by omega) w
  rw [cntB_nat L (by omega)] at hCy
  have HCY := Lib.hid hCy
  have HF := Lib.hid (And.intro f0 f1)
  have HTT := Lib.hid (And.intro t0 t1)
  have hmb : ∀ q j, j < 64 → 0 ≤ mvM kk f t 64 y q j ∧ mvM kk f t 64 y q j ≤ 255 := mvM_bd kk f t 64 y (by omega) HY.out
  have HMB := Lib.hid hmb
  clear hN hok hA hCy f0 f1 t0 t1 l0 l1 el elw elv ek ek2 ekw hmb
  go_wp2_with fail
  refine (HN.out _).mono ?_
  rintro e w3 ⟨g, hg, rfl, hp, hb⟩
  have HGg := Lib.hid (show gb + 1 < g from Nat.lt_of_lt_of_le M2.out.lt hg)
  have P3 := Lib.hid hp
  have X3 := Lib.hid (X2.out.below hb X2.out.lt)
  have M3 := Lib.hid (M2.out.below hb M2.out.lt)
  have T3 := Lib.hid (T2.out.below hb)
  have B3 := Lib.hid (B2.out.trans (hb.mono B2.out.size))
  clear hg hp hb X2 M2 T2 B2 x0 x1 x2 HN
  have hz := zero64
  have hst := store64
  have kk3 : w3.heap[gb + 1]? = some (Obj.cells (iArr .u8 64 y) 37 (0, 0)) := M3.out
  have hsz : (Tryd.prog.info? 37).map (·.size) = some (iArr .u8 64 y).size := by rw [iArr_size]; exact size64
  have HSZ := Lib.hid hsz
  clear hsz
  go_upto_region 7 with (refine wpList_load_row rfl 37 (.tmp 5) rfl (gb + 1) (by rfl) 37 (iArr .u8 64 y) (0, 0) _ kk3 Tryd.underlying37 rfl HSZ.out ?_)
  have al : Below w3.heap.size w3 (w3.alloc (.cells (iArr .u8 64 y) 37)) := (Below.refl _ w3).alloc (Nat.le_refl _) _
  have P4 := Lib.hid (P3.out.keep al)
  have N4 : Hid (Blk (w3.alloc (.cells (iArr .u8 64 y) 37)) w3.heap.size 37 (iArr .u8 64 (Hf kk f t y 0 0))) := Lib.hid (Blk.new w3 _ _)
  have X4 := Lib.hid (X3.out.below al X3.out.lt)
  have M4 := Lib.hid (M3.out.below al M3.out.lt)
  have T4 := Lib.hid (T3.out.below al)
  have B4 := Lib.hid (B3.out.trans (al.mono B3.out.size))
  have HGW4 := Lib.hid (show g < w3.heap.size from P3.out.lt)
  clear al P3 X3 M3 T3 B3 kk3 hst hz
  generalize World.alloc w3 _ = w4 at *
  generalize w3.heap.size = gw at *
  have hgn : 0 ∉ [g, gw] := by have a := HGW.out; have b := HGWB.out; have c := HGg.out; have d := HGW4.out; simp; omega
  have HGN := Lib.hid hgn
  have hne : g ≠ gw := by have d := HGW4.out; omega
  have HNE := Lib.hid hne
  clear hgn hne
  go_wp2_with fail
  go_loopw [10] (fun i wr => ∃ (m p : Nat) (d : Int), i = .int .i64 ((6 * m + p : Nat) : Int) ∧ BuB wr g ⟨kk, f, t, L, m, p, d⟩ ∧ (⟨kk, f, t, L, m, p, d⟩ : Bu).ok ∧ Blk wr gw 37 (iArr .u8 64 (Hf kk f t y m p)) ∧ (2 ≤ p → p ≤ 4 → d = mvM kk f t 64 y (List.range m) ((mvF kk f (m : Int)).toNat % 64)) ∧ Kp [g, gw] w4 wr) (fun i _ => 1300 - (intOf i).toNat)
  case atStart => exact ⟨0, 0, 0, rfl, P4.out, HOK.out, N4.out, by omega, Kp.refl _ _⟩
  case round =>
    obtain ⟨m, p, d, rfl, hI, hO, hM, hd, hK⟩ := hrel
    have HI := Lib.hid hI
    have HO := Lib.hid hO
    have HM := Lib.hid hM
    have HD := Lib.hid hd
    have HK := Lib.hid hK
    have HT := Lib.hid (T4.out.kp hK HGN.out)
    have HBW := Lib.hid (Kp.onto B4.out hK B4.out.size (by have a := HGWB.out; have c := HGg.out; have d := HGW4.out; simp; omega))
    have hXr := X4.out.kp hK (by have c := HGg.out; have d := HGW4.out; simp; omega)
    have HXr := Lib.hid hXr
    have HMr := Lib.hid (M4.out.kp hK (by have c := HGg.out; have d := HGW4.out; simp; omega))
    obtain ⟨a, ha⟩ : ∃ a, 6 * m + p = a := ⟨_, rfl⟩
    rw [ha]
    have hp : p = 0 ∨ p = 1 ∨ p = 2 ∨ p = 3 ∨ p = 4 ∨ p = 5 := by have := hO.p6; dsimp only at this; omega
    have hm1 := hO.m1
    have hpe := hO.pe
    dsimp only at hm1 hpe
    clear hI hM hd hK hXr hO
    by_cases x : m = L
    · have p0 := hpe x
      subst p0
      have x0 : wr.cell? ⟨gb, 0, none⟩ = some (.int .u16 f) := HXr.out.cell 0
      have hD := bdone_any HI.out HO.out
      rw [decide_eq_true x] at hD
      have HDn := Lib.hid hD
      have HX := Lib.hid x
      have HAa := Lib.hid ha
      clear hD hp hm1 hpe x ha x0
      go_upto_region 18 with (refine HDn.out.mono ?_; rintro e w5 ⟨rfl, hb⟩; have X5 := Lib.hid (HXr.out.below hb HXr.out.lt); have M5 := Lib.hid (HMr.out.below hb HMr.out.lt); have N5 := Lib.hid (HM.out.below hb HM.out.lt); have B5 := Lib.hid (HBW.out.trans (hb.mono HBW.out.size)); clear hb)
      have hx0 : (fun w' : World => w'.cell? ⟨gb, 0, none⟩ = some (.int .u16 f) ∧ w'.cell? ⟨gb, 1, none⟩ = some (.int .u16 t) ∧ w'.cell? ⟨gb, 2, none⟩ = some (.int .u16 (L : Int))) w5 := ⟨X5.out.cell 0, X5.out.cell 1, X5.out.cell 2⟩
      have HX0 := Lib.hid hx0
      have hr := IRow.arr (w := w5.drew) M5.out HY.out
      have HRM := Lib.hid hr
      clear hx0 hr
      refine rg_begin (S := fun w' => w'.cell? ⟨gb, 0, none⟩ = some (.int .u16 f) ∧ w'.cell? ⟨gb, 1, none⟩ = some (.int .u16 t) ∧ w'.cell? ⟨gb, 2, none⟩ = some (.int .u16 (L : Int))) 14 #[false, false, false, false, false, false, false, false, false, false, false, false, false, false] (by kernel_rfl) (by kernel_rfl) (by kernel_rfl) ?_ (fun hHeld => ?_)
      · exact HX0.out
      refine rg_take (i := 0) (d := some 71) (l := #[true, false, false, false, false, false, false, false, false, false, false, false, false, false]) (fuel := 13) (v := ?_) rfl (by kernel_rfl) (by kernel_rfl) (by kernel_rfl) (by kernel_rfl) (by kernel_rfl) (fun _ _ _ h => h) (by kernel_rfl) ?_ (by assumption) ?_
      rotate_left 1
      · (intro wS hSw; (try dsimp only at hSw); go_simp; try with_reducible rfl)
      try simp only [Act.put, List.setIfInBounds_toArray, List.set_cons_zero, List.set_cons_succ]
      refine rg_take (i := 1) (d := some 72) (l := #[true, true, false, false, false, false, false, false, false, false, false, false, false, false]) (fuel := 12) (v := ?_) rfl (by kernel_rfl) (by kernel_rfl) (by kernel_rfl) (by kernel_rfl) (by kernel_rfl) (fun _ _ _ h => h) (by kernel_rfl) ?_ (by assumption) ?_
      rotate_left 1
      · (intro wS hSw; (try dsimp only at hSw); go_simp; try with_reducible rfl)
      try simp only [Act.put, List.setIfInBounds_toArray, List.set_cons_zero, List.set_cons_succ]
      refine rg_take (i := 2) (d := some 73) (l := #[true, true, true, false, false, false, false, false, false, false, false, false, false, false]) (fuel := 11) (v := ?_) rfl (by kernel_rfl) (by kernel_rfl) (by kernel_rfl) (by kernel_rfl) (by kernel_rfl) (fun _ _ _ h => h) (by kernel_rfl) ?_ (by assumption) ?_
      rotate_left 1
      · (intro wS hSw; (try dsimp only at hSw); go_simp; try with_reducible rfl)
      try simp only [Act.put, List.setIfInBounds_toArray, List.set_cons_zero, List.set_cons_succ]
      refine rg_take (i := 3) (d := some 74) (l := #[true, true, true, true, false, false, false, false, false, false, false, false, false, false]) (fuel := 10) (v := ?_) rfl (by kernel_rfl) (by kernel_rfl) (by kernel_rfl) (by kernel_rfl) (by kernel_rfl) (fun _ _ _ h => h) (by kernel_rfl) ?_ (by assumption) ?_
      rotate_left 1
      · (intro wS hSw; (try dsimp only at hSw); go_simp; try with_reducible rfl)
      try simp only [Act.put, List.setIfInBounds_toArray, List.set_cons_zero, List.set_cons_succ]
      refine rg_take (i := 4) (d := some 75) (l := #[true, true, true, true, true, false, false, false, false, false, false, false, false, false]) (fuel := 9) (v := ?_) rfl (by kernel_rfl) (by kernel_rfl) (by kernel_rfl) (by kernel_rfl) (by kernel_rfl) (fun _ _ _ h => h) (by kernel_rfl) ?_ (by assumption) ?_
      rotate_left 1
      · (intro wS hSw; (try dsimp only at hSw); go_simp; try with_reducible rfl)
      try simp only [Act.put, List.setIfInBounds_toArray, List.set_cons_zero, List.set_cons_succ]
      refine rg_take (i := 5) (d := some 76) (l := #[true, true, true, true, true, true, false, false, false, false, false, false, false, false]) (fuel := 8) (v := ?_) rfl (by kernel_rfl) (by kernel_rfl) (by kernel_rfl) (by kernel_rfl) (by kernel_rfl) (fun _ _ _ h => h) (by kernel_rfl) ?_ (by assumption) ?_
      rotate_left 1
      · (intro wS hSw; (try dsimp only at hSw); go_simp; try with_reducible rfl)
      try simp only [Act.put, List.setIfInBounds_toArray, List.set_cons_zero, List.set_cons_succ]
      refine rg_take (i := 6) (d := some 77) (l := #[true, true, true, true, true, true, true, false, false, false, false, false, false, false]) (fuel := 7) (v := ?_) rfl (by kernel_rfl) (by kernel_rfl) (by kernel_rfl) (by kernel_rfl) (by kernel_rfl) (fun _ _ _ h => h) (by kernel_rfl) ?_ (by assumption) ?_
      rotate_left 1
      · (intro wS hSw; (try dsimp only at hSw); go_simp; try with_reducible rfl)
      try simp only [Act.put, List.setIfInBounds_toArray, List.set_cons_zero, List.set_cons_succ]
      refine rg_take (i := 7) (d := some 78) (l := #[true, true, true, true, true, true, true, true, false, false, false, false, false, false]) (fuel := 6) (v := ?_) rfl (by kernel_rfl) (by kernel_rfl) (by kernel_rfl) (by kernel_rfl) (by kernel_rfl) (fun _ _ _ h => h) (by kernel_rfl) ?_ (by assumption) ?_
      rotate_left 1
      · (intro wS hSw; (try dsimp only at hSw); go_simp; try with_reducible rfl)
      try simp only [Act.put, List.setIfInBounds_toArray, List.set_cons_zero, List.set_cons_succ]
      refine rg_next (i := 8) (l := #[true, true, true, true, true, true, true, true, true, false, false, false, false, false]) (fuel := 5) (by kernel_rfl) rfl (by kernel_rfl) (by kernel_rfl) (fun K hK => ?_)
      go_simp
      go_at_call 14
      refine (HA.out _ HRM.out).mono ?_
      rintro e w6 ⟨g1, cap, rfl, hc1, hm1, R6, hg1, hb⟩
      have X6 := Lib.hid (Blk.below (w := w5.drew) X5.out hb (Blk.lt (w := w5) X5.out))
      have N6 := Lib.hid (Blk.below (w := w5.drew) N5.out hb (Blk.lt (w := w5) N5.out))
      have B6 := Lib.hid (B5.out.drew.trans (hb.mono B5.out.drew.size))
      have HR6 := Lib.hid R6
      clear hb R6 hg1 X5 M5 N5 B5 HA HRM HX0
      first | (refine hK.out _ _ ?_ (fun hHeld => ?_)) | (go_wp2_with fail; refine hK.out _ _ ?_ (fun hHeld => ?_))
      · (try dsimp only); exact ⟨X6.out.cell 0, X6.out.cell 1, X6.out.cell 2⟩
      clear hK K
      try simp only [Act.put, List.setIfInBounds_toArray, List.set_cons_zero, List.set_cons_succ]
      refine rg_take (i := 9) (d := some 70) (l := #[true, true, true, true, true, true, true, true, true, true, false, false, false, false]) (fuel := 4) (v := ?_) rfl (by kernel_rfl) (by kernel_rfl) (by kernel_rfl) (by kernel_rfl) (by kernel_rfl) (fun _ _ _ h => h) (by kernel_rfl) ?_ (by assumption) ?_
      rotate_left 1
      · (intro wS hSw; (try dsimp only at hSw); go_simp; try with_reducible rfl)
      try simp only [Act.put, List.setIfInBounds_toArray, List.set_cons_zero, List.set_cons_succ]
      refine rg_take (i := 10) (d := some 80) (l := #[true, true, true, true, true, true, true, true, true, true, true, false, false, false]) (fuel := 3) (v := ?_) rfl (by kernel_rfl) (by kernel_rfl) (by kernel_rfl) (by kernel_rfl) (by kernel_rfl) (fun _ _ _ h => h) (by kernel_rfl) ?_ (by assumption) ?_
      rotate_left 1
      · (intro wS hSw; (try dsimp only at hSw); go_simp; try with_reducible rfl)
      try simp only [Act.put, List.setIfInBounds_toArray, List.set_cons_zero, List.set_cons_succ]
      refine rg_take (i := 11) (d := some 81) (l := #[true, true, true, true, true, true, true, true, true, true, true, true, false, false]) (fuel := 2) (v := ?_) rfl (by kernel_rfl) (by kernel_rfl) (by kernel_rfl) (by kernel_rfl) (by kernel_rfl) (fun _ _ _ h => h) (by kernel_rfl) ?_ (by assumption) ?_
      rotate_left 1
      · (intro wS hSw; (try dsimp only at hSw); go_simp; try with_reducible rfl)
      try simp only [Act.put, List.setIfInBounds_toArray, List.set_cons_zero, List.set_cons_succ]
      refine rg_take (i := 12) (d := some 14) (l := #[true, true, true, true, true, true, true, true, true, true, true, true, true, false]) (fuel := 1) (v := ?_) rfl (by kernel_rfl) (by kernel_rfl) (by kernel_rfl) (by kernel_rfl) (by kernel_rfl) (fun _ _ _ h => h) (by kernel_rfl) ?_ (by assumption) ?_
      rotate_left 1
      · (intro wS hSw; (try dsimp only at hSw); go_simp; try with_reducible rfl)
      try simp only [Act.put, List.setIfInBounds_toArray, List.set_cons_zero, List.set_cons_succ]
      refine rg_take (i := 13) (d := some 15) (l := #[true, true, true, true, true, true, true, true, true, true, true, true, true, true]) (fuel := 0) (v := ?_) rfl (by kernel_rfl) (by kernel_rfl) (by kernel_rfl) (by kernel_rfl) (by kernel_rfl) (fun _ _ _ h => h) (by kernel_rfl) ?_ (by assumption) ?_
      rotate_left 1
      · (intro wS hSw; (try dsimp only at hSw); go_simp; try with_reducible rfl)
      try simp only [Act.put, List.setIfInBounds_toArray, List.set_cons_zero, List.set_cons_succ]
      refine wpAnyH_done (by kernel_rfl) ?_ _
      have x62 : w6.cell? ⟨gb, 2, none⟩ = some (.int .u16 (L : Int)) := X6.out.cell 2
      have el : ((a : Int) == 6 * (L : Int)) = true := by have h1 := HAa.out; have h2 := HX.out; simp; omega
      have l2 : (L : Int) ≤ 200 := by omega
      have l3 : (0 : Int) ≤ (L : Int) := by omega
      have l4 : IntKind.i64.wrap (L : Int) = (L : Int) := IntWalk.i64_in _ (by omega)
      have l5 : IntKind.i64.wrap (6 * (L : Int)) = 6 * (L : Int) := IntWalk.i64_in _ (by omega)
      have RW := Lib.hid (IRow.arr (w := w6) (z := mvM kk f t 64 y (List.range L)) (by have h := N6.out; rw [Hf_ne (by decide), HX.out] at h; exact h) (HMB.out _))
      clear hc1 hm1
      go_wp2_with fail
      refine (HCY.out _).mono ?_
      rintro e w' ⟨rfl, rfl⟩
      go_wp2_with fail
      refine (asame2 (by unfold maxLen; omega) RW.out HR6.out (fun i _ => rfl)).mono ?_
      rintro e w7 ⟨rfl, hb⟩
      have B7 := Lib.hid (B6.out.trans (hb.mono B6.out.size))
      clear hb
      go_wp2_with fail
      go_ret
      exact ⟨rfl, B7.out⟩
    · have a3 : (a : Int) < 1300 := by omega
      have a4 : (a : Int) ≤ 1300 := by omega
      have HX := Lib.hid x
      have hD := bdone_any HI.out HO.out
      rw [decide_eq_false x] at hD
      have HDn := Lib.hid hD
      have HAa := Lib.hid ha
      have HM1 := Lib.hid hm1
      clear hD hpe x ha hm1
      rcases hp with rfl | rfl | rfl | rfl | rfl | rfl
      · go_wp2_with fail
        refine HDn.out.mono ?_
        rintro e w5 ⟨rfl, hb⟩
        have P5 := Lib.hid (HI.out.keep hb)
        have T5 := Lib.hid (HT.out.below hb)
        have N5 := Lib.hid (HM.out.below hb HM.out.lt)
        have K5 := Lib.hid (HK.out.trans (Kp.of_below hb) (fun x hx => .inl hx))
        clear hb HDn
        go_wp2_with fail
        refine (bnext_0 P5.out HO.out T5.out HX.out).mono ?_
        rintro e w6 ⟨rfl, hb⟩
        have P6 := Lib.hid (P5.out.keep hb)
        have N6 := Lib.hid (N5.out.below hb N5.out.lt)
        have K6 := Lib.hid (K5.out.trans (Kp.of_below hb) (fun x hx => .inl hx))
        clear hb P5 T5 N5 K5 HI HM HK HT
        have P7 := P6
        have N7 := N6
        have K7 := K6
        clear P6 N6 K6
        go_wp2_with fail
        refine (bstep_0 P7.out HO.out HX.out 0).mono ?_
        rintro e w8 ⟨rfl, hp8, hk⟩
        have P8 := Lib.hid hp8
        have N8 := Lib.hid (N7.out.kp hk (by simpa using HNE.out.symm))
        have K8 := Lib.hid (K7.out.trans (hk.mono (M := [g, gw]) (by simp)) (fun x hx => .inl hx))
        clear hp8 hk
        go_wp2_with fail
        go_roundw
        case rel =>
          have hm := HM1.out
          have hx := HX.out
          have haa := HAa.out
          refine ⟨m, 1, d, by rw [show ((6 * m + 1 : Nat) : Int) = (a : Int) + 1 by omega], P8.out, ?_, ?_, ?_, K8.out⟩
          · exact Bu.go_ok (s := ⟨kk, f, t, L, m, 0, d⟩) HO.out 0 (by decide) (by decide) |> fun h => by rw [show (Bu.go ⟨kk, f, t, L, m, 0, d⟩ 0) = ⟨kk, f, t, L, m, 1, d⟩ from (if_neg hx).trans (by simp)] at h; exact h
          · have h := N8.out
            rw [Hf_ne (by decide)] at h; rw [Hf_ne (by decide)]; exact h
          · intro h1 h2; omega
        case measure => have haa := HAa.out; simp [intOf]; omega
      · go_wp2_with fail
        refine HDn.out.mono ?_
        rintro e w5 ⟨rfl, hb⟩
        have P5 := Lib.hid (HI.out.keep hb)
        have T5 := Lib.hid (HT.out.below hb)
        have N5 := Lib.hid (HM.out.below hb HM.out.lt)
        have K5 := Lib.hid (HK.out.trans (Kp.of_below hb) (fun x hx => .inl hx))
        clear hb HDn
        go_wp2_with fail
        refine (bnext_1 P5.out HO.out T5.out HX.out).mono ?_
        rintro e w6 ⟨rfl, hb⟩
        have P6 := Lib.hid (P5.out.keep hb)
        have N6 := Lib.hid (N5.out.below hb N5.out.lt)
        have K6 := Lib.hid (K5.out.trans (Kp.of_below hb) (fun x hx => .inl hx))
        clear hb P5 T5 N5 K5 HI HM HK HT
        obtain ⟨q0, q1⟩ := mvF_bd kk f (m : Int)
        have hvv := Lib.hid (show ∃ v, v = mvM kk f t 64 y (List.range m) ((mvF kk f (m : Int)).toNat % 64) from ⟨_, rfl⟩)
        obtain ⟨v, hv⟩ := hvv.out
        have HV := Lib.hid hv
        obtain ⟨ix, hix⟩ : ∃ ix, (mvF kk f (m : Int)).toNat % 64 = ix := ⟨_, rfl⟩
        have cI : w6.cell? ⟨gw, ix, none⟩ = some (.int .u8 v) := by
          rw [N6.out.cell, iArr_at _ _ _ _ (by omega), Hf_ne (by decide), hv, hix]
        have j1 : (ix : Int) < 64 := by omega
        have j0 : (0 : Int) ≤ (ix : Int) := by omega
        have e1 : (mvF kk f (m : Int)).tmod 64 = (ix : Int) := by rw [Int.tmod_eq_emod_of_nonneg q0]; omega
        have e2 : (mvF kk f (m : Int)) % 64 = (ix : Int) := by omega
        have e3 : IntKind.i64.wrap (mvF kk f (m : Int)) = mvF kk f (m : Int) := IntWalk.i64_in _ (by omega)
        have e4 : wrap64 (mvF kk f (m : Int)) = mvF kk f (m : Int) := IntWalk.wrap64_in _ (by omega)
        have HIX := Lib.hid hix
        clear hvv hv hix
        generalize hxf : mvF kk f (m : Int) = xf at *
        have HXF := Lib.hid hxf
        clear hxf
        have P7 := P6
        have N7 := N6
        have K7 := K6
        clear P6 N6 K6
        go_wp2_with fail
        refine (bstep_1 P7.out HO.out HX.out v).mono ?_
        rintro e w8 ⟨rfl, hp8, hk⟩
        have P8 := Lib.hid hp8
        have N8 := Lib.hid (N7.out.kp hk (by simpa using HNE.out.symm))
        have K8 := Lib.hid (K7.out.trans (hk.mono (M := [g, gw]) (by simp)) (fun x hx => .inl hx))
        clear hp8 hk
        go_wp2_with fail
        go_roundw
        case rel =>
          have hm := HM1.out
          have hx := HX.out
          have haa := HAa.out
          refine ⟨m, 2, v, by rw [show ((6 * m + 2 : Nat) : Int) = (a : Int) + 1 by omega], P8.out, ?_, ?_, ?_, K8.out⟩
          · exact Bu.go_ok (s := ⟨kk, f, t, L, m, 1, d⟩) HO.out v (by have q := HMB.out (List.range m) ix (by omega); rw [HV.out, HIX.out]; exact q.1) (by have q := HMB.out (List.range m) ix (by omega); rw [HV.out, HIX.out]; exact q.2) |> fun h => by rw [show (Bu.go ⟨kk, f, t, L, m, 1, d⟩ v) = ⟨kk, f, t, L, m, 2, v⟩ from (if_neg hx).trans (by simp)] at h; exact h
          · have h := N8.out
            rw [Hf_ne (by decide)] at h; rw [Hf_ne (by decide)]; exact h
          · intro _ _; rw [HXF.out]; exact HV.out
        case measure => have haa := HAa.out; simp [intOf]; omega
      · go_wp2_with fail
        refine HDn.out.mono ?_
        rintro e w5 ⟨rfl, hb⟩
        have P5 := Lib.hid (HI.out.keep hb)
        have T5 := Lib.hid (HT.out.below hb)
        have N5 := Lib.hid (HM.out.below hb HM.out.lt)
        have K5 := Lib.hid (HK.out.trans (Kp.of_below hb) (fun x hx => .inl hx))
        clear hb HDn
        go_wp2_with fail
        refine (bnext_2 P5.out HO.out T5.out HX.out).mono ?_
        rintro e w6 ⟨rfl, hb⟩
        have P6 := Lib.hid (P5.out.keep hb)
        have N6 := Lib.hid (N5.out.below hb N5.out.lt)
        have K6 := Lib.hid (K5.out.trans (Kp.of_below hb) (fun x hx => .inl hx))
        clear hb P5 T5 N5 K5 HI HM HK HT
        have P7 := P6
        have N7 := N6
        have K7 := K6
        clear P6 N6 K6
        go_wp2_with fail
        refine (bstep_2 P7.out HO.out HX.out 0).mono ?_
        rintro e w8 ⟨rfl, hp8, hk⟩
        have P8 := Lib.hid hp8
        have N8 := Lib.hid (N7.out.kp hk (by simpa using HNE.out.symm))
        have K8 := Lib.hid (K7.out.trans (hk.mono (M := [g, gw]) (by simp)) (fun x hx => .inl hx))
        clear hp8 hk
        go_wp2_with fail
        go_roundw
        case rel =>
          have hm := HM1.out
          have hx := HX.out
          have haa := HAa.out
          refine ⟨m, 3, d, by rw [show ((6 * m + 3 : Nat) : Int) = (a : Int) + 1 by omega], P8.out, ?_, ?_, ?_, K8.out⟩
          · exact Bu.go_ok (s := ⟨kk, f, t, L, m, 2, d⟩) HO.out 0 (by decide) (by decide) |> fun h => by rw [show (Bu.go ⟨kk, f, t, L, m, 2, d⟩ 0) = ⟨kk, f, t, L, m, 3, d⟩ from (if_neg hx).trans (by simp)] at h; exact h
          · have h := N8.out
            rw [Hf_ne (by decide)] at h; rw [Hf_ne (by decide)]; exact h
          · intro h1 h2; exact HD.out (by omega) (by omega)
        case measure => have haa := HAa.out; simp [intOf]; omega
      · go_wp2_with fail
        refine HDn.out.mono ?_
        rintro e w5 ⟨rfl, hb⟩
        have P5 := Lib.hid (HI.out.keep hb)
        have T5 := Lib.hid (HT.out.below hb)
        have N5 := Lib.hid (HM.out.below hb HM.out.lt)
        have K5 := Lib.hid (HK.out.trans (Kp.of_below hb) (fun x hx => .inl hx))
        clear hb HDn
        go_wp2_with fail
        refine (bnext_3 P5.out HO.out T5.out HX.out).mono ?_
        rintro e w6 ⟨rfl, hb⟩
        have P6 := Lib.hid (P5.out.keep hb)
        have N6 := Lib.hid (N5.out.below hb N5.out.lt)
        have K6 := Lib.hid (K5.out.trans (Kp.of_below hb) (fun x hx => .inl hx))
        clear hb P5 T5 N5 K5 HI HM HK HT
        have P7 := P6
        have N7 := N6
        have K7 := K6
        clear P6 N6 K6
        go_wp2_with fail
        refine (bstep_3 P7.out HO.out HX.out 0).mono ?_
        rintro e w8 ⟨rfl, hp8, hk⟩
        have P8 := Lib.hid hp8
        have N8 := Lib.hid (N7.out.kp hk (by simpa using HNE.out.symm))
        have K8 := Lib.hid (K7.out.trans (hk.mono (M := [g, gw]) (by simp)) (fun x hx => .inl hx))
        clear hp8 hk
        go_wp2_with fail
        go_roundw
        case rel =>
          have hm := HM1.out
          have hx := HX.out
          have haa := HAa.out
          refine ⟨m, 4, d, by rw [show ((6 * m + 4 : Nat) : Int) = (a : Int) + 1 by omega], P8.out, ?_, ?_, ?_, K8.out⟩
          · exact Bu.go_ok (s := ⟨kk, f, t, L, m, 3, d⟩) HO.out 0 (by decide) (by decide) |> fun h => by rw [show (Bu.go ⟨kk, f, t, L, m, 3, d⟩ 0) = ⟨kk, f, t, L, m, 4, d⟩ from (if_neg hx).trans (by simp)] at h; exact h
          · have h := N8.out
            rw [Hf_ne (by decide)] at h; rw [Hf_ne (by decide)]; exact h
          · intro h1 h2; exact HD.out (by omega) (by omega)
        case measure => have haa := HAa.out; simp [intOf]; omega
      · go_wp2_with fail
        refine HDn.out.mono ?_
        rintro e w5 ⟨rfl, hb⟩
        have P5 := Lib.hid (HI.out.keep hb)
        have T5 := Lib.hid (HT.out.below hb)
        have N5 := Lib.hid (HM.out.below hb HM.out.lt)
        have K5 := Lib.hid (HK.out.trans (Kp.of_below hb) (fun x hx => .inl hx))
        clear hb HDn
        go_wp2_with fail
        refine (bnext_4 P5.out HO.out T5.out HX.out).mono ?_
        rintro e w6 ⟨rfl, hb⟩
        have P6 := Lib.hid (P5.out.keep hb)
        have N6 := Lib.hid (N5.out.below hb N5.out.lt)
        have K6 := Lib.hid (K5.out.trans (Kp.of_below hb) (fun x hx => .inl hx))
        clear hb P5 T5 N5 K5 HI HM HK HT
        obtain ⟨q0, q1⟩ := mvT_bd kk t (m : Int) HTT.out.1 HTT.out.2
        obtain ⟨iy, hiy⟩ : ∃ iy, (mvT kk t (m : Int)).toNat % 64 = iy := ⟨_, rfl⟩
        have j1 : (iy : Int) < 64 := by omega
        have j0 : (0 : Int) ≤ (iy : Int) := by omega
        have e1 : (mvT kk t (m : Int)).tmod 64 = (iy : Int) := by rw [Int.tmod_eq_emod_of_nonneg q0]; omega
        have e2 : (mvT kk t (m : Int)) % 64 = (iy : Int) := by omega
        have e3 : IntKind.i64.wrap (mvT kk t (m : Int)) = mvT kk t (m : Int) := IntWalk.i64_in _ (by omega)
        have e4 : wrap64 (mvT kk t (m : Int)) = mvT kk t (m : Int) := IntWalk.wrap64_in _ (by omega)
        have cI : w6.cell? ⟨gw, iy, none⟩ = some (.int .u8 (Hf kk f t y m 4 iy)) := by rw [N6.out.cell]; exact iArr_at _ _ _ _ (by omega)
        have fI : w6.frozen? ⟨gw, iy, none⟩ = false := N6.out.frozen iy
        have hH5 : (fun j => if j = iy then d else Hf kk f t y m 4 j) = Hf kk f t y m 5 := by
          rw [Hf_five, Hf_ne (by decide), List.range_succ, mvM_snoc, HD.out (by decide) (by decide), hiy]
        have HH5 := Lib.hid hH5
        clear hiy hH5
        generalize mvT kk t (m : Int) = xt at *
        generalize Hf kk f t y m 4 iy = old at *
        go_wp2_with fail
        refine (bdata_any P6.out).mono ?_
        rintro e w' ⟨rfl, rfl⟩
        go_wp2_with fail
        have kw : Kp [g, gw] w6 (w6.setCell ⟨gw, iy, none⟩ (.int .u8 d)) := (Kp.refl _ _).setCell (.inl (by simp)) _
        have P7 : Hid (BuB (w6.setCell ⟨gw, iy, none⟩ (.int .u8 d)) g ⟨kk, f, t, L, m, 4, d⟩) := Lib.hid (Blk.far P6.out HNE.out _)
        have N7 : Hid (Blk (w6.setCell ⟨gw, iy, none⟩ (.int .u8 d)) gw 37 (iArr .u8 64 (Hf kk f t y m 5))) := Lib.hid (by
          have h := N6.out.set_ iy (.int .u8 d)
          rw [iArr_set, HH5.out] at h
          exact h)
        have K7 := Lib.hid (K6.out.trans kw (fun x hx => .inl hx))
        clear kw cI fI P6 N6 K6
        generalize World.setCell w6 _ _ = w7 at *
        refine (bstep_4 P7.out HO.out HX.out 0).mono ?_
        rintro e w8 ⟨rfl, hp8, hk⟩
        have P8 := Lib.hid hp8
        have N8 := Lib.hid (N7.out.kp hk (by simpa using HNE.out.symm))
        have K8 := Lib.hid (K7.out.trans (hk.mono (M := [g, gw]) (by simp)) (fun x hx => .inl hx))
        clear hp8 hk
        go_wp2_with fail
        go_roundw
        case rel =>
          have hm := HM1.out
          have hx := HX.out
          have haa := HAa.out
          refine ⟨m, 5, d, by rw [show ((6 * m + 5 : Nat) : Int) = (a : Int) + 1 by omega], P8.out, ?_, ?_, ?_, K8.out⟩
          · exact Bu.go_ok (s := ⟨kk, f, t, L, m, 4, d⟩) HO.out 0 (by decide) (by decide) |> fun h => by rw [show (Bu.go ⟨kk, f, t, L, m, 4, d⟩ 0) = ⟨kk, f, t, L, m, 5, d⟩ from (if_neg hx).trans (by simp)] at h; exact h
          · have h := N8.out
            exact h
          · intro h1 h2; omega
        case measure => have haa := HAa.out; simp [intOf]; omega
      · go_wp2_with fail
        refine HDn.out.mono ?_
        rintro e w5 ⟨rfl, hb⟩
        have P5 := Lib.hid (HI.out.keep hb)
        have T5 := Lib.hid (HT.out.below hb)
        have N5 := Lib.hid (HM.out.below hb HM.out.lt)
        have K5 := Lib.hid (HK.out.trans (Kp.of_below hb) (fun x hx => .inl hx))
        clear hb HDn
        go_wp2_with fail
        refine (bnext_5 P5.out HO.out T5.out HX.out).mono ?_
        rintro e w6 ⟨rfl, hb⟩
        have P6 := Lib.hid (P5.out.keep hb)
        have N6 := Lib.hid (N5.out.below hb N5.out.lt)
        have K6 := Lib.hid (K5.out.trans (Kp.of_below hb) (fun x hx => .inl hx))
        clear hb P5 T5 N5 K5 HI HM HK HT
        have P7 := P6
        have N7 := N6
        have K7 := K6
        clear P6 N6 K6
        go_wp2_with fail
        refine (bstep_5 P7.out HO.out HX.out 0).mono ?_
        rintro e w8 ⟨rfl, hp8, hk⟩
        have P8 := Lib.hid hp8
        have N8 := Lib.hid (N7.out.kp hk (by simpa using HNE.out.symm))
        have K8 := Lib.hid (K7.out.trans (hk.mono (M := [g, gw]) (by simp)) (fun x hx => .inl hx))
        clear hp8 hk
        go_wp2_with fail
        go_roundw
        case rel =>
          have hm := HM1.out
          have hx := HX.out
          have haa := HAa.out
          refine ⟨(m + 1), 0, d, by rw [show ((6 * (m + 1) + 0 : Nat) : Int) = (a : Int) + 1 by omega], P8.out, ?_, ?_, ?_, K8.out⟩
          · exact Bu.go_ok (s := ⟨kk, f, t, L, m, 5, d⟩) HO.out 0 (by decide) (by decide) |> fun h => by rw [show (Bu.go ⟨kk, f, t, L, m, 5, d⟩ 0) = ⟨kk, f, t, L, (m + 1), 0, d⟩ from (if_neg hx).trans (by simp)] at h; exact h
          · have h := N8.out
            rw [Hf_five] at h; rw [Hf_ne (by decide)]; exact h
          · intro h1 h2; omega
        case measure => have haa := HAa.out; simp [intOf]; omega

theorem own : ownKnob Tryd.prog.godebug = none := by kernel_rfl
theorem laidOut : laidOutB Tryd.prog = true := by kernel_rfl
theorem door_met (os : Os) (args : Array Value) : laidMetH Tryd.prog laid2 ((World.doorLaid Tryd.prog 400 os).forCall (fun _ _ => 0) ⟨#[], args, []⟩).memory :=
  laidMetH_of_parts3 (fuel := 8) (laidMet_of_run' 8 (by kernel_rfl) (by kernel_rfl)) (by kernel_rfl) (by kernel_rfl)
set_option maxRecDepth 100000 in
theorem lifted (os : Os) (started : os.Started) (H : Type) (enc : TypeId × Value → H) :
    ReturnsInHanded {} Tryd.checked os 4 .any (fun w args => (Rows.burstMovesSpec.pre enc Tryd.prog Tryd.f4 [] false w args ∧ laidMetH Tryd.prog laid2 w) ∧ sizedMet enc Tryd.prog Tryd.f4 (OpenSpec.ofChange Rows.burstMovesSpec) false w args)
      (Rows.burstMovesSpec.post enc Tryd.prog Tryd.f4 false true false false) := by
  refine returnsInHanded_of_change_and (C := Tryd.checked) (X := fun w _ => laidMetH Tryd.prog laid2 w) (fun _ _ _ hh h => h.of_heap hh) own started (by kernel_rfl) Tryd.func4
    (ChangeSpec.witness_shaped (enc := enc) (C := Tryd.checked) (os := os) (X := fun w _ => laidMetH Tryd.prog laid2 w) false (World.doorLaid Tryd.prog 400 os) #[.int .u8 0, .agg #[.int .u16 0, .int .u16 0, .int .u16 0], .agg #[.int .u8 0, .int .u8 0, .int .u8 0, .int .u8 0, .int .u8 0, .int .u8 0, .int .u8 0, .int .u8 0, .int .u8 0, .int .u8 0, .int .u8 0, .int .u8 0, .int .u8 0, .int .u8 0, .int .u8 0, .int .u8 0, .int .u8 0, .int .u8 0, .int .u8 0, .int .u8 0, .int .u8 0, .int .u8 0, .int .u8 0, .int .u8 0, .int .u8 0, .int .u8 0, .int .u8 0, .int .u8 0, .int .u8 0, .int .u8 0, .int .u8 0, .int .u8 0, .int .u8 0, .int .u8 0, .int .u8 0, .int .u8 0, .int .u8 0, .int .u8 0, .int .u8 0, .int .u8 0, .int .u8 0, .int .u8 0, .int .u8 0, .int .u8 0, .int .u8 0, .int .u8 0, .int .u8 0, .int .u8 0, .int .u8 0, .int .u8 0, .int .u8 0, .int .u8 0, .int .u8 0, .int .u8 0, .int .u8 0, .int .u8 0, .int .u8 0, .int .u8 0, .int .u8 0, .int .u8 0, .int .u8 0, .int .u8 0, .int .u8 0, .int .u8 0]] 8 rfl (World.shaped_of_RefB (by kernel_rfl) (by kernel_rfl)) (by kernel_rfl) (by kernel_rfl) (by kernel_rfl) (door_met os _)) ?_
  intro W base args ds gs before hval0 hW _ _ hL0 _
  have hL : laidMetH Tryd.prog laid2 W := hL0
  rw [MakeChecks.laidMetH_plain _ _ _ (by kernel_rfl)] at hL
  have HT := of_laid hL
  have hval : ∀ (j : Nat) t v, Tryd.f4.params[j]? = some t → args[j]? = some v → Value.okWide Tryd.prog W .any base t v := hval0
  have hW' := hW
  obtain ⟨p, q, hA0, hV, rfl, _, _⟩ := hW
  have hA : DataW.TrodAll enc Tryd.prog W 0 (fun _ => true) true Tryd.f4.params.toList args.toList ds p := hA0
  rw [Tryd.params4] at hA hval
  obtain ⟨v0, vs0, d0, ds0, p0, q0, hargs, rfl, rfl, h0, r0⟩ := trodAll_cons hA
  obtain ⟨v1, vs1, d1, ds1, p1, q1, rfl, rfl, rfl, h1, r1⟩ := trodAll_cons r0
  obtain ⟨v2, vs2, d2, ds2, p2, q2, rfl, rfl, rfl, h2, r2⟩ := trodAll_cons r1
  obtain ⟨rfl, rfl, rfl⟩ := trodAll_nil r2
  obtain rfl : args = #[v0, v1, v2] := by cases args; simp_all
  obtain ⟨rfl, rfl⟩ := trodVars_none hV
  obtain ⟨a0, rfl, rfl, rfl, w0⟩ := open_int Tryd.underlying5 (hval 0 5 v0 rfl rfl) h0
  obtain ⟨z1, rfl, u1⟩ := array_ints_v Tryd.underlying23 Tryd.underlying22 (by kernel_rfl) (by kernel_rfl) (hval 1 23 v1 rfl rfl) h1
  obtain ⟨z2, rfl, u2⟩ := array_ints_v Tryd.underlying37 Tryd.underlying5 (by kernel_rfl) (by kernel_rfl) (hval 2 37 v2 rfl rfl) h2
  clear hA0 hval0
  refine (walk a0 w0 z1 u1 z2 u2 HT).mono fun e W' ⟨he, hg⟩ => ?_
  subst he
  exact ⟨_, rfl, law_post rfl Tryd.underlying4 laidOut (by kernel_rfl) rfl hW' rfl hg⟩

theorem over : Rows.burstMovesRow.holds Tryd.pinned (OpenSpec.ofChange Rows.burstMovesSpec) :=
  OpenClaim.holds_of_wide 4 Tryd.f4 rfl rfl rfl rfl rfl rfl rfl ⟨rfl, rfl, rfl, rfl, rfl⟩ rfl rfl rfl rfl rfl (by kernel_rfl) Tryd.func4 (by kernel_rfl)
    (of_decide_eq_true (by kernel_rfl)) (by unfold Func.isWrapper; first | (rw [if_pos (by decide +kernel)]; kernel_rfl) | (rw [if_neg (by decide +kernel)]; exact ⟨rfl, rfl⟩))
    (fun os started H enc _ => lifted os started H enc)

theorem proved : Rows.BurstMovesCardSaid :=
  Claim7.holds_tied_plain_at .later [] [.data] true _ false
    over (fun _ h => by cases h) (by kernel_rfl) (fun _ h => by cases h) burstMoves_row_tie rfl ⟨rfl, rfl⟩ (by kernel_rfl) rfl
    (fun f fn hf hfn => by
      obtain rfl : f = 4 := Option.some.inj ((show Tryd.prog.funcNamed "gannet/gannetlaw31.BurstMoves" = some 4 by kernel_rfl).symm.trans hf) |>.symm
      obtain rfl : fn = Tryd.f4 := (Option.some.inj (Tryd.func4.symm.trans hfn)).symm
      exact ⟨by kernel_rfl, fun j t ht => by
        rw [Tryd.params4] at ht
        have hm : t ∈ [5, 23, 37] := by simpa using Array.mem_of_getElem? ht
        have hall : ([5, 23, 37].all fun u => !Tryd.prog.wantsStandIn u) = true := by kernel_rfl
        exact (show Tryd.prog.wantsStandIn t = false by simpa using List.all_eq_true.1 hall t hm)⟩)
    (by kernel_rfl)
#print axioms proved
end Go.Proofs.YtndhkdcdhpfajaaDoor.burstMoves
