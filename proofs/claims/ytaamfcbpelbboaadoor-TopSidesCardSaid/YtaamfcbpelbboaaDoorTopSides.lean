/-
  For every input TopSides returns true, and each argument reads behind the call as it read before. The one condition: when the call begins the package-level variables that the row lists hold what the program lays in them (TIED: the card shows it of the text of the project, pruned to the packages that this seat loads).
-/
import Derived.Test.YtaamfcbpelbboaaDoorRows
import Derived.Test.YtaamfcbpelbboaaDoorG3
import Derived.SevenTiedAt
import Derived.ProofKit
import Derived.LaidMore
import Derived.OpenShut
import Derived.Stop.Joined
import Derived.Test.YtaamfcbpelbboaaDoorCards
import Derived.Test.YtaamfcbpelbboaaDoorTie
import Derived.Test.YtaamfcbpelbboaaDoorLaid8
import Derived.Test.YtaamfcbpelbboaaDoorMix9
namespace Go.Proofs.YtaamfcbpelbboaaDoor.topSides
open Go.ChangeShapes Go.WideShapes Go.ChangeAt Go.RowKit
open Go.ChangeMaps (open_string)

set_option linter.unusedVariables false
set_option linter.unusedSimpArgs false
set_option maxRecDepth 100000 in
set_option maxHeartbeats 8000000 in
theorem walk (n : Int) (wn : (Lit.int .u8 n).wf = true) (lv : Int) (wlv : (Lit.int .u8 lv).wf = true) (vo : Int) (wvo : (Lit.int .u8 vo).wf = true) (L : Int) (wL : (Lit.int .u8 L).wf = true) (R : Int) (wR : (Lit.int .u8 R).wf = true) (m : Int) (wm : (Lit.int .u8 m).wf = true) (W : World) (hT : Tabs W) :
    Calls Tryd.prog 8 #[.int .u8 n, .int .u8 lv, .int .u8 vo, .int .u8 L, .int .u8 R, .int .u8 m] W fun e w' => e = .returned (.bool true) ∧ Below W.heap.size W w' := by
  obtain ⟨n0, n1⟩ := bounds_u8 wn
  obtain ⟨lv0, lv1⟩ := bounds_u8 wlv
  obtain ⟨vo0, vo1⟩ := bounds_u8 wvo
  obtain ⟨L0, L1⟩ := bounds_u8 wL
  obtain ⟨R0, R1⟩ := bounds_u8 wR
  obtain ⟨m0, m1⟩ := bounds_u8 wm
  have HT := Lib.hid hT
  clear hT wn wlv wvo wL wR wm
  obtain ⟨c, hc⟩ : ∃ c : Nat, n % 6 = c := Int.eq_ofNat_of_zero_le (by omega)
  have hc6 : c < 6 := by omega
  obtain ⟨v, hv⟩ : ∃ v, vo % 32 = v := ⟨_, rfl⟩
  have v0 : 0 ≤ v := by omega
  have v1 : v < 32 := by omega
  obtain ⟨k, hk⟩ : ∃ k, m % 16 = k := ⟨_, rfl⟩
  have k0 : 0 ≤ k := by omega
  have k1 : k < 16 := by omega
  have hor : bits .or .u8 192 v = 192 + v := or192_eq v0 v1
  have HC := Lib.hid (And.intro hc6 (And.intro (And.intro v0 v1) (And.intro k0 k1)))
  obtain ⟨a, ha⟩ : ∃ a, tsA lv v (L % 16) (R % 16) k = a := ⟨_, rfl⟩
  obtain ⟨b, hb⟩ : ∃ b, tsB lv v (L % 16) (R % 16) k = b := ⟨_, rfl⟩
  have hb2 : tsA lv v (R % 16) (L % 16) k = b := by rw [ts_swap, hb]
  have ha2 : tsB lv v (R % 16) (L % 16) k = a := by rw [← ts_swap, ha]
  have HAB := Lib.hid (And.intro (And.intro ha hb) (And.intro hb2 ha2))
  have HSAME : Hid (L % 16 = R % 16 → a = b) := Lib.hid (fun e => by rw [← ha, ← hb, e, ts_same])
  have HPW := Lib.hid (show pwr 0 = 4096 by decide +kernel)
  have hbit : bitB 1 0 = true := by decide
  have HBIT := Lib.hid hbit
  have hz : ∀ w, (zeroValue 55).run Tryd.prog w = .ok (.agg (iArr .i64 4 fun _ => 0)) w := (zero_of_info (show (Tryd.prog.info? 55).map (fun i => (i.zero, i.size)) = some (some (.agg (iArr .i64 4 fun _ => 0)), 4) by kernel_rfl)).1
  clear ha hb hb2 ha2 hbit
  go_enter Tryd.func8, Tryd.ntmps8
  go_wp2_with fail
  refine (bit_any 1 0 _).mono ?_
  rw [HBIT.out]
  rintro e w' ⟨rfl, rfl⟩
  go_wp2_with fail
  refine (power_v HT.out.1 0 4096 HPW.out).mono ?_
  rintro e w' ⟨rfl, rfl⟩
  go_wp2_with fail
  have hq0 : Blk (W.alloc (.cells (iArr .i64 4 fun _ => 0) 55)) W.heap.size 55 (iArr .i64 4 (ocF a b b a 0)) := by
    rw [show iArr .i64 4 (ocF a b b a 0) = iArr .i64 4 fun _ => 0 from iArr_congr fun i _ => if_neg (by omega)]
    exact Blk.new W _ _
  have hB0 : Below W.heap.size W (W.alloc (.cells (iArr .i64 4 fun _ => 0) 55)) := (Below.refl _ _).alloc (Nat.le_refl _) _
  have HQ0 := Lib.hid (And.intro hq0 hB0)
  clear hq0 hB0 hz
  generalize World.alloc _ _ = wa at *
  obtain ⟨h, hh⟩ : ∃ h, W.heap.size = h := ⟨_, rfl⟩
  rw [hh] at HQ0
  simp only [hh]
  have HH := Lib.hid hh
  clear hh
  go_loopw [3, 4, 14] (fun x y i wr => ∃ (j : Nat) (A B : Int), j ≤ 2 ∧ x = .int .u8 A ∧ y = .int .u8 B ∧ i = .int .i64 j ∧ ((j % 2 = 0 ∧ A = L ∧ B = R) ∨ (j % 2 = 1 ∧ A = R ∧ B = L)) ∧ Blk wr h 55 (iArr .i64 4 (ocF a b b a j)) ∧ Below h W wr) (fun _ _ i _ => 2 - (intOf i).toNat)
  case atStart => exact ⟨0, L, R, by omega, rfl, rfl, rfl, .inl ⟨rfl, rfl, rfl⟩, HQ0.out.1, HQ0.out.2⟩
  case round =>
    obtain ⟨j, A, B, hj, rfl, rfl, rfl, hAB, hb, hB⟩ := hrel
    clear HQ0
    have HQ := Lib.hid (And.intro hb hB)
    clear hb hB
    by_cases hlt : j < 2
    · have i0 : (0 : Int) ≤ (j : Int) := by omega
      have i1 : (j : Int) < 2 := by omega
      have A0 : 0 ≤ A := by omega
      have A1 : A ≤ 255 := by omega
      have B0 : 0 ≤ B := by omega
      have B1 : B ≤ 255 := by omega
      have HX : Hid ((j = 0 → tsA lv v (A % 16) (B % 16) k = a ∧ tsB lv v (A % 16) (B % 16) k = b) ∧ (j = 1 → tsA lv v (A % 16) (B % 16) k = b ∧ tsB lv v (A % 16) (B % 16) k = a)) := Lib.hid (by
        rcases hAB with ⟨h1, rfl, rfl⟩ | ⟨h1, rfl, rfl⟩
        · exact ⟨fun _ => HAB.out.1, fun e => absurd h1 (by omega)⟩
        · exact ⟨fun e => absurd h1 (by omega), fun _ => HAB.out.2⟩)
      have HABn : Hid (((j + 1) % 2 = 0 ∧ B = L ∧ A = R) ∨ ((j + 1) % 2 = 1 ∧ B = R ∧ A = L)) := Lib.hid (by
        rcases hAB with ⟨h1, rfl, rfl⟩ | ⟨h1, rfl, rfl⟩
        · exact .inr ⟨by omega, rfl, rfl⟩
        · exact .inl ⟨by omega, rfl, rfl⟩)
      clear hAB
      obtain ⟨x, hx⟩ : ∃ x, A % 16 = x := ⟨_, rfl⟩
      obtain ⟨y, hy⟩ : ∃ y, B % 16 = y := ⟨_, rfl⟩
      have x0 : 0 ≤ x := by omega
      have x1 : x < 16 := by omega
      have y0 : 0 ≤ y := by omega
      have y1 : y < 16 := by omega
      rw [hx, hy] at HX
      have HXY := Lib.hid (And.intro (And.intro x0 x1) (And.intro y0 y1))
      go_wp2_with fail
      refine (pnew_any _).mono ?_
      rintro e w1 ⟨g, ns, rfl, hg, hn, hP, b1⟩
      have HI1 : Hid (QI W h (ocF a b b a j) g ns Sg.new w1) := Lib.hid ⟨⟨hP, by rw [HH.out]; exact Below.trans HQ.out.2 (b1.mono (by rw [← HH.out]; exact HQ.out.2.size)), Nat.le_trans HQ.out.2.size hg, fun i hi => Nat.le_trans HQ.out.2.size (hn i hi)⟩, HQ.out.1.below b1 HQ.out.1.lt⟩
      clear b1 hP hg hn HQ
      go_wp2_with fail
      refine (pwrite_any HI1.out.1.1 0 (by omega) c (by omega) (by omega)).mono ?_
      rintro e w2 ⟨rfl, p2, k2⟩
      have HI2 := Lib.hid (HI1.out.wrote p2 k2)
      clear p2 k2 HI1
      go_wp2_with fail
      refine (pwrite_any HI2.out.1.1 1 (by omega) (k * 17) (by omega) (by omega)).mono ?_
      rintro e w3 ⟨rfl, p3, k3⟩
      have HI3 := Lib.hid (HI2.out.wrote p3 k3)
      clear p3 k3 HI2
      go_wp2_with fail
      refine (pwrite_any HI3.out.1.1 4 (by omega) (192 + v) (by omega) (by omega)).mono ?_
      rintro e w4 ⟨rfl, p4, k4⟩
      have HI4 := Lib.hid (HI3.out.wrote p4 k4)
      clear p4 k4 HI3
      go_wp2_with fail
      refine (pwrite_any HI4.out.1.1 5 (by omega) (x * 16 + y) (by omega) (by omega)).mono ?_
      rintro e w5 ⟨rfl, p5, k5⟩
      have HI5 := Lib.hid (HI4.out.wrote p5 k5)
      clear p5 k5 HI4
      go_wp2_with fail
      refine (pwrite_any HI5.out.1.1 6 (by omega) lv lv0 lv1).mono ?_
      rintro e w6 ⟨rfl, p6, k6⟩
      have HI6 : Hid (QI W h (ocF a b b a j) g ns (tsS c lv v x y k) w6) := Lib.hid (HI5.out.wrote p6 k6)
      clear p6 k6 HI5
      go_wp2_with fail
      obtain ⟨hX, hY⟩ := ts_of (n := c) HC.out.1 (lv := lv) HC.out.2.1.1 HC.out.2.1.2 HXY.out.1.1 HXY.out.1.2 HXY.out.2.1 HXY.out.2.2 HC.out.2.2.1 HC.out.2.2.2
      obtain ⟨X, hX2⟩ : ∃ X, tsA lv v x y k = X := ⟨_, rfl⟩
      obtain ⟨Y, hY2⟩ : ∃ Y, tsB lv v x y k = Y := ⟨_, rfl⟩
      rw [hX2] at hX HX
      rw [hY2] at hY HX
      have HOF := Lib.hid (And.intro hX hY)
      clear hX hY hX2 hY2
      refine rg_begin (S := fun w' => Two h j w') 13 #[false, false, false, false, false, false, false, false, false, false, false, false, false] (by kernel_rfl) (by kernel_rfl) (by kernel_rfl) ?_ (fun hHeld => ?_)
      · exact oc_some HI6.out.2 (iArr_size ..) hlt
      refine rg_take (i := 0) (d := some 53) (l := #[true, false, false, false, false, false, false, false, false, false, false, false, false]) (fuel := 12) (v := ?_) rfl (by kernel_rfl) (by kernel_rfl) (by kernel_rfl) (by kernel_rfl) (by kernel_rfl) (fun _ _ _ h => h) (by kernel_rfl) ?_ (by assumption) ?_
      rotate_left 1
      · (intro wS hSw; (try dsimp only at hSw); go_simp; try with_reducible rfl)
      try simp only [Act.put, List.setIfInBounds_toArray, List.set_cons_zero, List.set_cons_succ]
      refine rg_take (i := 1) (d := some 54) (l := #[true, true, false, false, false, false, false, false, false, false, false, false, false]) (fuel := 11) (v := ?_) rfl (by kernel_rfl) (by kernel_rfl) (by kernel_rfl) (by kernel_rfl) (by kernel_rfl) (fun _ _ _ h => h) (by kernel_rfl) ?_ (by assumption) ?_
      rotate_left 1
      · (intro wS hSw; (try dsimp only at hSw); go_simp; try with_reducible rfl)
      try simp only [Act.put, List.setIfInBounds_toArray, List.set_cons_zero, List.set_cons_succ]
      refine rg_take (i := 2) (d := some 55) (l := #[true, true, true, false, false, false, false, false, false, false, false, false, false]) (fuel := 10) (v := ?_) rfl (by kernel_rfl) (by kernel_rfl) (by kernel_rfl) (by kernel_rfl) (by kernel_rfl) (fun _ _ _ h => h) (by kernel_rfl) ?_ (by assumption) ?_
      rotate_left 1
      · (intro wS hSw; (try dsimp only at hSw); go_simp; try with_reducible rfl)
      try simp only [Act.put, List.setIfInBounds_toArray, List.set_cons_zero, List.set_cons_succ]
      refine rg_take (i := 7) (d := some 59) (l := #[true, true, true, false, false, false, false, true, false, false, false, false, false]) (fuel := 9) (v := ?_) rfl (by kernel_rfl) (by kernel_rfl) (by kernel_rfl) (by kernel_rfl) (by kernel_rfl) (fun _ _ _ h => h) (by kernel_rfl) ?_ (by assumption) ?_
      rotate_left 1
      · (intro wS hSw; (try dsimp only at hSw); go_simp; try with_reducible rfl)
      try simp only [Act.put, List.setIfInBounds_toArray, List.set_cons_zero, List.set_cons_succ]
      refine rg_take (i := 10) (d := some 61) (l := #[true, true, true, false, false, false, false, true, false, false, true, false, false]) (fuel := 8) (v := ?_) rfl (by kernel_rfl) (by kernel_rfl) (by kernel_rfl) (by kernel_rfl) (by kernel_rfl) (fun _ _ _ h => h) (by kernel_rfl) ?_ (by assumption) ?_
      rotate_left 1
      · (intro wS hSw; (try dsimp only at hSw); go_simp; try with_reducible rfl)
      try simp only [Act.put, List.setIfInBounds_toArray, List.set_cons_zero, List.set_cons_succ]
      refine rg_next (i := 3) (l := #[true, true, true, true, false, false, false, true, false, false, true, false, false]) (fuel := 7) (by kernel_rfl) rfl (by kernel_rfl) (by kernel_rfl) (fun K hK => ?_)
      go_simp
      (go_at_call 22)
      refine (of_any (w := w6.drew) (by exact (HT.out.keep HI6.out.1.2.1).1) (by exact (HT.out.keep HI6.out.1.2.1).2) (by exact HI6.out.1.1)).mono ?_
      rw [HOF.out.1, HOF.out.2]
      rintro e w7 ⟨rfl, b7'⟩
      have b7 : Below w6.heap.size w6 w7 := below_undrew b7'
      have HI7 := Lib.hid (HI6.out.below b7)
      clear b7 b7'
      first | (refine hK.out _ _ ?_ (fun hHeld => ?_)) | (go_wp2_with fail; refine hK.out _ _ ?_ (fun hHeld => ?_))
      · (try dsimp only); exact oc_some HI7.out.2 (iArr_size ..) hlt
      clear hK K
      try simp only [Act.put, List.setIfInBounds_toArray, List.set_cons_zero, List.set_cons_succ]
      refine rg_take (i := 4) (d := some 52) (l := #[true, true, true, true, true, false, false, true, false, false, true, false, false]) (fuel := 6) (v := ?_) rfl (by kernel_rfl) (by kernel_rfl) (by kernel_rfl) (by kernel_rfl) (by kernel_rfl) (fun _ _ _ h => h) (by kernel_rfl) ?_ (by assumption) ?_
      rotate_left 1
      · (intro wS hSw; (try dsimp only at hSw); go_simp; try with_reducible rfl)
      try simp only [Act.put, List.setIfInBounds_toArray, List.set_cons_zero, List.set_cons_succ]
      refine rg_take (i := 5) (d := some 57) (l := #[true, true, true, true, true, true, false, true, false, false, true, false, false]) (fuel := 5) (v := ?_) rfl (by kernel_rfl) (by kernel_rfl) (by kernel_rfl) (by kernel_rfl) (by kernel_rfl) (fun _ _ _ h => h) (by kernel_rfl) ?_ (by assumption) ?_
      rotate_left 1
      · (intro wS hSw; (try dsimp only at hSw); go_simp; try with_reducible rfl)
      try simp only [Act.put, List.setIfInBounds_toArray, List.set_cons_zero, List.set_cons_succ]
      refine rg_take (i := 6) (d := some 58) (l := #[true, true, true, true, true, true, true, true, false, false, true, false, false]) (fuel := 4) (v := ?_) rfl (by kernel_rfl) (by kernel_rfl) (by kernel_rfl) (by kernel_rfl) (by kernel_rfl) (fun _ _ _ h => h) (by kernel_rfl) ?_ (by assumption) ?_
      rotate_left 1
      · (intro wS hSw; (try dsimp only at hSw); go_simp; try with_reducible rfl)
      try simp only [Act.put, List.setIfInBounds_toArray, List.set_cons_zero, List.set_cons_succ]
      refine rg_take (i := 8) (d := some 60) (l := #[true, true, true, true, true, true, true, true, true, false, true, false, false]) (fuel := 3) (v := ?_) rfl (by kernel_rfl) (by kernel_rfl) (by kernel_rfl) (by kernel_rfl) (by kernel_rfl) (fun _ _ _ h => h) (by kernel_rfl) ?_ (by assumption) ?_
      rotate_left 1
      · (intro wS hSw; (try dsimp only at hSw); go_simp; try with_reducible rfl)
      try simp only [Act.put, List.setIfInBounds_toArray, List.set_cons_zero, List.set_cons_succ]
      obtain ⟨⟨⟨u0, e0⟩, f0⟩, ⟨u1, e1⟩, f1⟩ := hHeld
      have N1 := HI7.out.2.set_ (j * 2) (.int .i64 X)
      have HN1 := Lib.hid N1
      clear N1
      refine rg_next (i := 9) (l := #[true, true, true, true, true, true, true, true, true, true, true, false, false]) (fuel := 2) (by kernel_rfl) rfl (by kernel_rfl) (by kernel_rfl) (fun K hK => ?_)
      go_simp
      skip
      first | (refine hK.out _ _ ?_ (fun hHeld => ?_)) | (go_wp2_with fail; refine hK.out _ _ ?_ (fun hHeld => ?_))
      · (try dsimp only); exact oc_some HN1.out (by rw [Array.size_setIfInBounds, iArr_size]) hlt
      clear hK K
      try simp only [Act.put, List.setIfInBounds_toArray, List.set_cons_zero, List.set_cons_succ]
      refine rg_take (i := 11) (d := some 62) (l := #[true, true, true, true, true, true, true, true, true, true, true, true, false]) (fuel := 1) (v := ?_) rfl (by kernel_rfl) (by kernel_rfl) (by kernel_rfl) (by kernel_rfl) (by kernel_rfl) (fun _ _ _ h => h) (by kernel_rfl) ?_ (by assumption) ?_
      rotate_left 1
      · (intro wS hSw; (try dsimp only at hSw); go_simp; try with_reducible rfl)
      try simp only [Act.put, List.setIfInBounds_toArray, List.set_cons_zero, List.set_cons_succ]
      clear e0 f0 e1 f1
      obtain ⟨⟨⟨u0, e0⟩, f0⟩, ⟨u1, e1⟩, f1⟩ := hHeld
      have N2 := HN1.out.set_ (j * 2 + 1) (.int .i64 Y)
      rw [oc_put hlt HX.out.1 HX.out.2] at N2
      have HN2 := Lib.hid N2
      clear N2
      refine rg_next (i := 12) (l := #[true, true, true, true, true, true, true, true, true, true, true, true, true]) (fuel := 0) (by kernel_rfl) rfl (by kernel_rfl) (by kernel_rfl) (fun K hK => ?_)
      go_simp
      skip
      first | (refine hK.out _ _ ?_ (fun hHeld => ?_)) | (go_wp2_with fail; refine hK.out _ _ ?_ (fun hHeld => ?_))
      · (try dsimp only); exact oc_some HN2.out (iArr_size ..) hlt
      clear hK K
      try simp only [Act.put, List.setIfInBounds_toArray, List.set_cons_zero, List.set_cons_succ]
      refine wpAnyH_done (by kernel_rfl) ?_ _
      go_wp2_with fail
      have HBZ := Lib.hid (((HI7.out.1.2.1.setCell (p := ⟨h, j * 2, none⟩) (by exact Nat.le_of_eq HH.out) (.int .i64 X)).setCell (p := ⟨h, j * 2 + 1, none⟩) (by exact Nat.le_of_eq HH.out) (.int .i64 Y)))
      rw [HH.out] at HBZ
      go_roundw
      case rel => exact ⟨j + 1, B, A, by omega, rfl, rfl, by go_num, HABn.out, HN2.out, HBZ.out⟩
      case measure => simp [intOf]; omega
    · have i1 : ¬ (j : Int) < 2 := by omega
      obtain rfl : j = 2 := by omega
      have hAB2 : A = L ∧ B = R := by
        rcases hAB with ⟨_, h2⟩ | ⟨h2, _⟩
        · exact h2
        · exact absurd h2 (by decide)
      obtain ⟨rfl, rfl⟩ := hAB2
      clear hAB
      have e0 : wr.cell? ⟨h, 0, none⟩ = some (.int .i64 a) := by rw [HQ.out.1.cell, iArr_at .i64 4 _ 0 (by omega)]; rfl
      have e1 : wr.cell? ⟨h, 1, none⟩ = some (.int .i64 b) := by rw [HQ.out.1.cell, iArr_at .i64 4 _ 1 (by omega)]; rfl
      have e2 : wr.cell? ⟨h, 2, none⟩ = some (.int .i64 b) := by rw [HQ.out.1.cell, iArr_at .i64 4 _ 2 (by omega)]; rfl
      have e3 : wr.cell? ⟨h, 3, none⟩ = some (.int .i64 a) := by rw [HQ.out.1.cell, iArr_at .i64 4 _ 3 (by omega)]; rfl
      by_cases hs : A % 16 = B % 16
      · have hab := HSAME.out hs
        subst hab
        have ne : ((A % 16 : Int) != B % 16) = false := by rw [hs]; simp
        go_wp2_with fail
        go_ret
        exact ⟨rfl, by rw [HH.out]; exact HQ.out.2⟩
      · have ne : ((A % 16 : Int) != B % 16) = true := by simp [bne, neqB hs]
        go_wp2_with fail
        go_ret
        exact ⟨rfl, by rw [HH.out]; exact HQ.out.2⟩

theorem own : ownKnob Tryd.prog.godebug = none := by kernel_rfl
theorem laidOut : laidOutB Tryd.prog = true := by kernel_rfl
theorem door_met (os : Os) (args : Array Value) : laidMetH Tryd.prog laid2 ((World.doorLaid Tryd.prog 400 os).forCall (fun _ _ => 0) ⟨#[], args, []⟩).memory :=
  laidMetH_of_parts3 (fuel := 8) (laidMet_of_run' 8 (by kernel_rfl) (by kernel_rfl)) (by kernel_rfl) (by kernel_rfl)
set_option maxRecDepth 100000 in
theorem lifted (os : Os) (started : os.Started) (H : Type) (enc : TypeId × Value → H) :
    ReturnsInHanded {} Tryd.checked os 8 .any (fun w args => (Rows.topSidesSpec.pre enc Tryd.prog Tryd.f8 [] false w args ∧ laidMetH Tryd.prog laid2 w) ∧ sizedMet enc Tryd.prog Tryd.f8 (OpenSpec.ofChange Rows.topSidesSpec) false w args)
      (Rows.topSidesSpec.post enc Tryd.prog Tryd.f8 false true false false) := by
  refine returnsInHanded_of_change_and (C := Tryd.checked) (X := fun w _ => laidMetH Tryd.prog laid2 w) (fun _ _ _ hh h => h.of_heap hh) own started (by kernel_rfl) Tryd.func8
    (ChangeSpec.witness_shaped (enc := enc) (C := Tryd.checked) (os := os) (X := fun w _ => laidMetH Tryd.prog laid2 w) false (World.doorLaid Tryd.prog 400 os) #[.int .u8 0, .int .u8 0, .int .u8 0, .int .u8 0, .int .u8 0, .int .u8 0] 8 rfl (World.shaped_of_RefB (by kernel_rfl) (by kernel_rfl)) (by kernel_rfl) (by kernel_rfl) (by kernel_rfl) (door_met os _)) ?_
  intro W base args ds gs before hval0 hW _ _ hL0 _
  have hL : laidMetH Tryd.prog laid2 W := hL0
  rw [MakeChecks.laidMetH_plain _ _ _ (by kernel_rfl)] at hL
  have HT := of_laid hL
  have hval : ∀ (j : Nat) t v, Tryd.f8.params[j]? = some t → args[j]? = some v → Value.okWide Tryd.prog W .any base t v := hval0
  have hW' := hW
  obtain ⟨p, q, hA0, hV, rfl, _, _⟩ := hW
  have hA : DataW.TrodAll enc Tryd.prog W 0 (fun _ => true) true Tryd.f8.params.toList args.toList ds p := hA0
  rw [Tryd.params8] at hA hval
  obtain ⟨v0, vs0, d0, ds0, p0, q0, hargs, rfl, rfl, h0, r0⟩ := trodAll_cons hA
  obtain ⟨v1, vs1, d1, ds1, p1, q1, rfl, rfl, rfl, h1, r1⟩ := trodAll_cons r0
  obtain ⟨v2, vs2, d2, ds2, p2, q2, rfl, rfl, rfl, h2, r2⟩ := trodAll_cons r1
  obtain ⟨v3, vs3, d3, ds3, p3, q3, rfl, rfl, rfl, h3, r3⟩ := trodAll_cons r2
  obtain ⟨v4, vs4, d4, ds4, p4, q4, rfl, rfl, rfl, h4, r4⟩ := trodAll_cons r3
  obtain ⟨v5, vs5, d5, ds5, p5, q5, rfl, rfl, rfl, h5, r5⟩ := trodAll_cons r4
  obtain ⟨rfl, rfl, rfl⟩ := trodAll_nil r5
  obtain rfl : args = #[v0, v1, v2, v3, v4, v5] := by cases args; simp_all
  obtain ⟨rfl, rfl⟩ := trodVars_none hV
  obtain ⟨a0, rfl, rfl, rfl, w0⟩ := open_int Tryd.underlying5 (hval 0 5 v0 rfl rfl) h0
  obtain ⟨a1, rfl, rfl, rfl, w1⟩ := open_int Tryd.underlying5 (hval 1 5 v1 rfl rfl) h1
  obtain ⟨a2, rfl, rfl, rfl, w2⟩ := open_int Tryd.underlying5 (hval 2 5 v2 rfl rfl) h2
  obtain ⟨a3, rfl, rfl, rfl, w3⟩ := open_int Tryd.underlying5 (hval 3 5 v3 rfl rfl) h3
  obtain ⟨a4, rfl, rfl, rfl, w4⟩ := open_int Tryd.underlying5 (hval 4 5 v4 rfl rfl) h4
  obtain ⟨a5, rfl, rfl, rfl, w5⟩ := open_int Tryd.underlying5 (hval 5 5 v5 rfl rfl) h5
  clear hA0 hval0
  refine (walk a0 w0 a1 w1 a2 w2 a3 w3 a4 w4 a5 w5 W HT).mono fun e W' ⟨he, hg⟩ => ?_
  subst he
  exact ⟨_, rfl, law_post rfl Tryd.underlying4 laidOut (by kernel_rfl) rfl hW' rfl hg⟩

theorem over : Rows.topSidesRow.holds Tryd.pinned (OpenSpec.ofChange Rows.topSidesSpec) :=
  OpenClaim.holds_of_wide 8 Tryd.f8 rfl rfl rfl rfl rfl rfl rfl ⟨rfl, rfl, rfl, rfl, rfl⟩ rfl rfl rfl rfl rfl (by kernel_rfl) Tryd.func8 (by kernel_rfl)
    (of_decide_eq_true (by kernel_rfl)) (by unfold Func.isWrapper; first | (rw [if_pos (by decide +kernel)]; kernel_rfl) | (rw [if_neg (by decide +kernel)]; exact ⟨rfl, rfl⟩))
    (fun os started H enc _ => lifted os started H enc)

theorem proved : Rows.TopSidesCardSaid :=
  Claim7.holds_tied_plain_at .later [] [.data, .data] true _ false
    over (fun _ h => by cases h) (by kernel_rfl) (fun _ h => by cases h) topSides_row_tie rfl ⟨rfl, rfl⟩ (by kernel_rfl) rfl
    (fun f fn hf hfn => by
      obtain rfl : f = 8 := Option.some.inj ((show Tryd.prog.funcNamed "gannet/gannettop.TopSides" = some 8 by kernel_rfl).symm.trans hf) |>.symm
      obtain rfl : fn = Tryd.f8 := (Option.some.inj (Tryd.func8.symm.trans hfn)).symm
      exact ⟨by kernel_rfl, fun j t ht => by
        rw [Tryd.params8] at ht
        have hm : t ∈ [5, 5, 5, 5, 5, 5] := by simpa using Array.mem_of_getElem? ht
        have hall : ([5, 5, 5, 5, 5, 5].all fun u => !Tryd.prog.wantsStandIn u) = true := by kernel_rfl
        exact (show Tryd.prog.wantsStandIn t = false by simpa using List.all_eq_true.1 hall t hm)⟩)
    (by kernel_rfl)
#print axioms proved
end Go.Proofs.YtaamfcbpelbboaaDoor.topSides
