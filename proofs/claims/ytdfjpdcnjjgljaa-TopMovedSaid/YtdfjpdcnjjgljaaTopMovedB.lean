/-
  For every input TopMoved returns true, and each argument reads behind the call as it read before. No conditions.
-/
import Derived.Test.YtdfjpdcnjjgljaaRows
import Derived.Test.YtdfjpdcnjjgljaaKMT01
import Derived.Test.YtdfjpdcnjjgljaaKMT38
import Derived.Test.YtdfjpdcnjjgljaaKMT40
import Derived.Test.YtdfjpdcnjjgljaaKMT02
import Derived.Test.YtdfjpdcnjjgljaaKMT12
namespace Go.Proofs.Ytdfjpdcnjjgljaa.topMoved
open Go.ChangeShapes Go.WideShapes Go.ChangeAt Go.RowKit
open Go.ChangeMaps (open_string)

set_option linter.unusedVariables false
set_option linter.unusedSimpArgs false
set_option maxRecDepth 100000 in
set_option maxHeartbeats 8000000 in
theorem walk {W : World} (k : Int) (wk : (Lit.int .u8 k).wf = true) (f : Int) (wf : (Lit.int .u16 f).wf = true) (t : Int) (wt : (Lit.int .u16 t).wf = true) (l : Int) (wl : (Lit.int .u16 l).wf = true) (A : Option Addr) (m c : Nat) (ps : Nat → Pc) (hmc : m ≤ c) (hc : c ≤ maxLen) (R : PRow W A m ps) :
    Calls Try.prog 3 #[.int .u8 k, .int .u16 f, .int .u16 t, .int .u16 l, .slice A m c] W fun e w' => e = .returned (.bool true) ∧ Below W.heap.size W w' := by
  obtain ⟨k0, k1⟩ := bounds_u8 wk
  obtain ⟨f0, f1⟩ := bounds_u16 wf
  obtain ⟨t0, t1⟩ := bounds_u16 wt
  obtain ⟨K, rfl⟩ : ∃ K : Nat, k = K := ⟨k.toNat, by omega⟩
  obtain ⟨l0, l1⟩ := bounds_u16 wl
  have hB1 : bitB 1 0 = true := by kernel_rfl
  have HB1 := Lib.hid hB1
  have HM := Lib.hid (show m ≤ maxLen by omega)
  have RH := Lib.hid R
  unfold maxLen at hc
  have ek : ((K : Nat) : Int).tmod 5 = ((K % 5 : Nat) : Int) := by rw [Int.tmod_eq_emod_of_nonneg (by omega)]; rfl
  have ekw : IntKind.u8.wrap ((K % 5 : Nat) : Int) = ((K % 5 : Nat) : Int) := IntWalk.u8_in _ (by omega)
  obtain ⟨kk, hkk⟩ : ∃ kk, K % 5 = kk := ⟨_, rfl⟩
  have hk5 : kk < 5 := by omega
  rw [hkk] at ek ekw
  obtain ⟨L, hL⟩ : ∃ L : Nat, l % 500 + 1 = (L : Int) := ⟨(l % 500 + 1).toNat, by omega⟩
  have el : l.tmod 500 = l % 500 := Int.tmod_eq_emod_of_nonneg l0
  have el1 : IntKind.u16.wrap (l % 500) = l % 500 := by rw [v16_mod]; omega
  have el2 : IntKind.u16.wrap (l % 500 + 1) = L := by rw [v16_mod]; omega
  have hL1 : 1 ≤ L := by omega
  have hL5 : L ≤ 500 := by omega
  clear hB1 R wk wf wt wl hkk hL
  by_cases h20 : 20 < m
  · have d2 : (20 : Int) < m := by omega
    go_enter Try.func3, Try.ntmps3
    go_wp2_with fail
    refine (asV (bit_any 1 0 _) (by rw [HB1.out])).mono ?_
    rintro e w' ⟨rfl, rfl⟩
    go_wp2_with fail
    refine (ramof_any A m c ps _ HM.out RH.out).mono ?_
    rintro e w1 ⟨k1, hres⟩
    rcases hres with ⟨j, hj, hbad, hgd, rfl⟩ | ⟨_, g, mb, rfl, _⟩
    · go_wp2_with fail
      go_ret
      exact ⟨rfl, k1.alloc k1.size _⟩
    · go_wp2_with fail
      go_ret
      exact ⟨rfl, k1.alloc k1.size _⟩
  · have d2 : ¬ (20 : Int) < m := by omega
    go_enter Try.func3, Try.ntmps3
    go_wp2_with fail
    refine (asV (bit_any 1 0 _) (by rw [HB1.out])).mono ?_
    rintro e w' ⟨rfl, rfl⟩
    go_wp2_with fail
    refine (ramof_any A m c ps _ HM.out RH.out).mono ?_
    rintro e w1 ⟨k1, hres⟩
    rcases hres with ⟨j, hj, hbad, hgd, rfl⟩ | ⟨_, g, mb, rfl, hg, hmb, hRD⟩
    · go_wp2_with fail
      go_ret
      exact ⟨rfl, k1.alloc k1.size _⟩
    · have hwf : ∀ i, 0 ≤ laid ps m i ∧ laid ps m i ≤ 255 := fun i => bounds_u8 (laid_wf (fun i hi => RH.out.ok i hi) m (Nat.le_refl _) i)
      obtain ⟨z, hz⟩ : ∃ z, laid ps m = z := ⟨_, rfl⟩
      rw [hz] at hRD hwf
      have HWF := Lib.hid hwf
      have HRD1 := Lib.hid hRD
      have hRD2 := hRD.keep ((Below.refl _ w1).alloc (Nat.le_refl _) (.cells #[.int .i64 0, .int .i64 0] 28))
      have HB2 := Lib.hid (k1.alloc k1.size (.cells #[.int .i64 0, .int .i64 0] 28))
      have HRD := Lib.hid hRD2
      have HG := Lib.hid hg
      have HMB := Lib.hid hmb
      obtain ⟨cur, hcs, hmk⟩ := make_full (w1.alloc (.cells #[.int .i64 0, .int .i64 0] 28))
      have HK1 := Lib.hid k1
      clear hz hwf hRD hRD2 hg hmb k1
      go_wp2_with fail
      have gl := HRD1.out.1.lt
      have ml := HRD1.out.mlt
      have hBR : Blk ((w1.alloc (.cells #[.int .i64 0, .int .i64 0] 28)).alloc (.cells cur 5)) (w1.heap.size + 1) 5 cur := Blk.new_ (by simp)
      have hB1w : Below w1.heap.size w1 ((w1.alloc (.cells #[.int .i64 0, .int .i64 0] 28)).alloc (.cells cur 5)) := ((Below.refl _ w1).alloc (Nat.le_refl _) _).alloc (by simp) _
      have HBR := Lib.hid hBR
      have HBW := Lib.hid hB1w
      have hfl : Blk ((w1.alloc (.cells #[.int .i64 0, .int .i64 0] 28)).alloc (.cells cur 5)) w1.heap.size 28 #[.int .i64 0, .int .i64 0] := (Blk.new w1 _ _).alloc _
      clear hBR hB1w hmk hfl HRD HB2
      generalize World.alloc (World.alloc w1 _) _ = w2 at *
      go_loopw [14] (fun i wr => ∃ (q : Nat) (D : Array Value), q ≤ 8192 ∧ i = .int .i64 q ∧ Blk wr (w1.heap.size + 1) 5 D ∧ D.size = 8192 ∧ (∀ j, j < q → D[j]? = some (.int .u8 (z j))) ∧ Below w1.heap.size w1 wr) (fun i _ => 8192 - (intOf i).toNat)
      case atStart => exact ⟨0, cur, by omega, rfl, HBR.out, hcs, fun j hj => by omega, HBW.out⟩
      case round =>
        obtain ⟨q, D, hq, rfl, hD, hDs, hDz, hB⟩ := hrel
        by_cases hlt : q < 8192
        · have q0 : (0 : Int) ≤ q := by omega
          have q1 : (q : Int) < 8192 := by omega
          have eq1 : IntKind.u16.wrap (q : Int) = q := by rw [v16_mod]; omega
          have hRd := rread_any (HRD1.out.keep hB) (q : Int) q0 (by omega)
          rw [show ((q : Int) % 8192).toNat = q by omega] at hRd
          have HD := Lib.hid hD
          have HDZ := Lib.hid hDz
          have HB := Lib.hid hB
          clear hD hDz hB
          go_wp2_with fail
          refine hRd.mono ?_
          rintro e w5 ⟨rfl, b⟩
          have bd := HD.out.below b HD.out.lt
          obtain ⟨x, hx⟩ : ∃ x, D[q]? = some x := ⟨D[q]'(by omega), Array.getElem?_eq_getElem (by omega)⟩
          have cx : w5.cell? ⟨w1.heap.size + 1, q, none⟩ = some x := (bd.cell q).trans hx
          have fx : w5.frozen? ⟨w1.heap.size + 1, q, none⟩ = false := bd.frozen q
          have BD := Lib.hid (bd.set_ q (.int .u8 (z q)))
          have HB5 := Lib.hid (HB.out.trans (b.mono HB.out.size))
          clear b bd hRd
          go_wp2_with fail
          go_roundw
          case rel =>
            refine ⟨q + 1, _, by omega, by go_num, BD.out, by rw [Array.size_setIfInBounds]; exact hDs, fun j hj => ?_, HB5.out.setCell (p := ⟨w1.heap.size + 1, q, none⟩) (Nat.le_succ w1.heap.size) _⟩
            rw [Array.getElem?_setIfInBounds]
            by_cases e : j = q
            · subst e; rw [if_pos rfl, if_pos (by omega)]
            · rw [if_neg (fun x => e x.symm)]; exact HDZ.out j (by omega)
          case measure => simp [intOf]; omega
        · obtain rfl : q = 8192 := by omega
          have HD := Lib.hid hD
          have HDZ := Lib.hid hDz
          have HB := Lib.hid hB
          have hRDr := HRD1.out.keep hB
          have HRR := Lib.hid hRDr
          have hrow : IRow wr .u8 (some ⟨w1.heap.size + 1, 0, none⟩) 8192 z := fun j hj => by
            have h5 := HWF.out j
            refine ⟨_, rfl, HD.out.lt, ?_, by simp [Lit.wf, IntKind.min, IntKind.max, IntKind.signed, IntKind.bits]; omega⟩
            rw [add_zero_block, HD.out.cell]
            exact HDZ.out j hj
          have HROW := Lib.hid hrow
          clear hD hDz hB hRDr hrow
          go_wp2_with fail
          refine (vall_any kk f t (L : Int) f0 f1 t0 t1 (by omega) (by omega) _).mono ?_
          rintro e w4 ⟨v, rfl, own, b⟩
          have hcn : (cntP (L : Int)).toNat = L := by unfold cntP; rw [if_neg (by omega)]; omega
          rw [hcn] at own
          have hwl : wayL kk L = List.range L := if_pos hk5
          rw [hwl] at own
          obtain ⟨gv, cap, rfl, hgv, hgl, hcell⟩ := wyRowP (l := List.range L) own (by intro h; have := congrArg List.length h; simp at this; omega)
          rw [List.length_range]
          have HCE := Lib.hid hcell
          have HGV := Lib.hid hgv
          have HGL := Lib.hid hgl
          have HRD4 := Lib.hid (HRR.out.keep b)
          have HB4 := Lib.hid (HB.out.trans (b.mono HB.out.size))
          have HROW4 := Lib.hid (HROW.out.keep b)
          have HBS := Lib.hid b.size
          clear own hcell hgv hgl b hcn hwl
          go_wp2_with fail
          go_loopw [16] (fun i wr' => ∃ (q : Nat) (mb' : Option Nat), q ≤ L ∧ i = .int .i64 q ∧ RD wr' g mb' (mvM kk f t 8192 z (List.range q)) ∧ Kp (g :: mb.toList) w4 wr' ∧ (mb' = mb ∨ ∃ b', mb' = some b' ∧ w4.heap.size ≤ b')) (fun i _ => L - (intOf i).toNat)
          case atStart => exact ⟨0, mb, by omega, rfl, HRD4.out, Kp.refl _ _, .inl rfl⟩
          case round =>
            obtain ⟨q, mb', hq, rfl, hR, hK, hM⟩ := hrel
            by_cases hlt : q < L
            · have q0 : (0 : Int) ≤ q := by omega
              have q1 : (q : Int) < L := by omega
              have HRQ := Lib.hid hR
              have HKQ := Lib.hid hK
              have HMQ := Lib.hid hM
              have hgn : gv ∉ g :: mb.toList := by
                have h1 := HBS.out
                have h2 := HGV.out
                have h3 := HB.out.size
                intro h
                rcases List.mem_cons.1 h with h | h
                · omega
                · have := ml gv (by simpa using h)
                  omega
              obtain ⟨d0, d1⟩ := HCE.out q q (by rw [List.getElem?_range hlt])
              have e0 := (hK.cell (p := ⟨gv, 2 * q, none⟩) HGL.out hgn).trans d0
              have e1 := (hK.cell (p := ⟨gv, 2 * q + 1, none⟩) HGL.out hgn).trans d1
              rw [show 2 * q = q * 2 by omega] at e0 e1
              obtain ⟨p0, p1⟩ := mvF_bd kk f (q : Int)
              obtain ⟨r0, r1⟩ := mvT_bd kk t (q : Int) t0 t1
              have EM := Lib.hid (fw_mv kk f t z q t0 t1)
              have HGN := Lib.hid hgn
              generalize mvF kk f (q : Int) = u at *
              generalize mvT kk t (q : Int) = v at *
              clear hR hK hM d0 d1 hgn
              go_wp2_with fail
              refine rg_begin (S := fun w' => w'.cell? ⟨gv, q * 2, none⟩ = some (.int .u16 u) ∧ w'.cell? ⟨gv, q * 2 + 1, none⟩ = some (.int .u16 v)) 14 #[false, false, false, false, false, false, false, false, false, false, false, false, false, false] (by kernel_rfl) (by kernel_rfl) (by kernel_rfl) ?_ (fun hHeld => ?_)
              · exact ⟨e0, e1⟩
              refine rg_take (i := 0) (d := some 65) (l := #[true, false, false, false, false, false, false, false, false, false, false, false, false, false]) (fuel := 13) (v := ?_) rfl (by kernel_rfl) (by kernel_rfl) (by kernel_rfl) (by kernel_rfl) (by kernel_rfl) (fun _ _ _ h => h) (by kernel_rfl) ?_ (by assumption) ?_
              rotate_left 1
              · (intro wS hSw; (try dsimp only at hSw); go_simp; try with_reducible rfl)
              try simp only [Act.put, List.setIfInBounds_toArray, List.set_cons_zero, List.set_cons_succ]
              refine rg_take (i := 1) (d := some 66) (l := #[true, true, false, false, false, false, false, false, false, false, false, false, false, false]) (fuel := 12) (v := ?_) rfl (by kernel_rfl) (by kernel_rfl) (by kernel_rfl) (by kernel_rfl) (by kernel_rfl) (fun _ _ _ h => h) (by kernel_rfl) ?_ (by assumption) ?_
              rotate_left 1
              · (intro wS hSw; (try dsimp only at hSw); go_simp; try with_reducible rfl)
              try simp only [Act.put, List.setIfInBounds_toArray, List.set_cons_zero, List.set_cons_succ]
              refine rg_take (i := 2) (d := some 67) (l := #[true, true, true, false, false, false, false, false, false, false, false, false, false, false]) (fuel := 11) (v := ?_) rfl (by kernel_rfl) (by kernel_rfl) (by kernel_rfl) (by kernel_rfl) (by kernel_rfl) (fun _ _ _ h => h) (by kernel_rfl) ?_ (by assumption) ?_
              rotate_left 1
              · (intro wS hSw; (try dsimp only at hSw); go_simp; try with_reducible rfl)
              try simp only [Act.put, List.setIfInBounds_toArray, List.set_cons_zero, List.set_cons_succ]
              refine rg_take (i := 3) (d := some 68) (l := #[true, true, true, true, false, false, false, false, false, false, false, false, false, false]) (fuel := 10) (v := ?_) rfl (by kernel_rfl) (by kernel_rfl) (by kernel_rfl) (by kernel_rfl) (by kernel_rfl) (fun _ _ _ h => h) (by kernel_rfl) ?_ (by assumption) ?_
              rotate_left 1
              · (intro wS hSw; (try dsimp only at hSw); go_simp; try with_reducible rfl)
              try simp only [Act.put, List.setIfInBounds_toArray, List.set_cons_zero, List.set_cons_succ]
              refine rg_take (i := 4) (d := some 69) (l := #[true, true, true, true, true, false, false, false, false, false, false, false, false, false]) (fuel := 9) (v := ?_) rfl (by kernel_rfl) (by kernel_rfl) (by kernel_rfl) (by kernel_rfl) (by kernel_rfl) (fun _ _ _ h => h) (by kernel_rfl) ?_ (by assumption) ?_
              rotate_left 1
              · (intro wS hSw; (try dsimp only at hSw); go_simp; try with_reducible rfl)
              try simp only [Act.put, List.setIfInBounds_toArray, List.set_cons_zero, List.set_cons_succ]
              refine rg_take (i := 5) (d := some 70) (l := #[true, true, true, true, true, true, false, false, false, false, false, false, false, false]) (fuel := 8) (v := ?_) rfl (by kernel_rfl) (by kernel_rfl) (by kernel_rfl) (by kernel_rfl) (by kernel_rfl) (fun _ _ _ h => h) (by kernel_rfl) ?_ (by assumption) ?_
              rotate_left 1
              · (intro wS hSw; (try dsimp only at hSw); go_simp; try with_reducible rfl)
              try simp only [Act.put, List.setIfInBounds_toArray, List.set_cons_zero, List.set_cons_succ]
              refine rg_take (i := 6) (d := some 71) (l := #[true, true, true, true, true, true, true, false, false, false, false, false, false, false]) (fuel := 7) (v := ?_) rfl (by kernel_rfl) (by kernel_rfl) (by kernel_rfl) (by kernel_rfl) (by kernel_rfl) (fun _ _ _ h => h) (by kernel_rfl) ?_ (by assumption) ?_
              rotate_left 1
              · (intro wS hSw; (try dsimp only at hSw); go_simp; try with_reducible rfl)
              try simp only [Act.put, List.setIfInBounds_toArray, List.set_cons_zero, List.set_cons_succ]
              refine rg_take (i := 7) (d := some 72) (l := #[true, true, true, true, true, true, true, true, false, false, false, false, false, false]) (fuel := 6) (v := ?_) rfl (by kernel_rfl) (by kernel_rfl) (by kernel_rfl) (by kernel_rfl) (by kernel_rfl) (fun _ _ _ h => h) (by kernel_rfl) ?_ (by assumption) ?_
              rotate_left 1
              · (intro wS hSw; (try dsimp only at hSw); go_simp; try with_reducible rfl)
              try simp only [Act.put, List.setIfInBounds_toArray, List.set_cons_zero, List.set_cons_succ]
              refine rg_take (i := 8) (d := some 73) (l := #[true, true, true, true, true, true, true, true, true, false, false, false, false, false]) (fuel := 5) (v := ?_) rfl (by kernel_rfl) (by kernel_rfl) (by kernel_rfl) (by kernel_rfl) (by kernel_rfl) (fun _ _ _ h => h) (by kernel_rfl) ?_ (by assumption) ?_
              rotate_left 1
              · (intro wS hSw; (try dsimp only at hSw); go_simp; try with_reducible rfl)
              try simp only [Act.put, List.setIfInBounds_toArray, List.set_cons_zero, List.set_cons_succ]
              refine rg_take (i := 9) (d := some 74) (l := #[true, true, true, true, true, true, true, true, true, true, false, false, false, false]) (fuel := 4) (v := ?_) rfl (by kernel_rfl) (by kernel_rfl) (by kernel_rfl) (by kernel_rfl) (by kernel_rfl) (fun _ _ _ h => h) (by kernel_rfl) ?_ (by assumption) ?_
              rotate_left 1
              · (intro wS hSw; (try dsimp only at hSw); go_simp; try with_reducible rfl)
              try simp only [Act.put, List.setIfInBounds_toArray, List.set_cons_zero, List.set_cons_succ]
              refine rg_take (i := 10) (d := some 75) (l := #[true, true, true, true, true, true, true, true, true, true, true, false, false, false]) (fuel := 3) (v := ?_) rfl (by kernel_rfl) (by kernel_rfl) (by kernel_rfl) (by kernel_rfl) (by kernel_rfl) (fun _ _ _ h => h) (by kernel_rfl) ?_ (by assumption) ?_
              rotate_left 1
              · (intro wS hSw; (try dsimp only at hSw); go_simp; try with_reducible rfl)
              try simp only [Act.put, List.setIfInBounds_toArray, List.set_cons_zero, List.set_cons_succ]
              refine rg_take (i := 11) (d := some 76) (l := #[true, true, true, true, true, true, true, true, true, true, true, true, false, false]) (fuel := 2) (v := ?_) rfl (by kernel_rfl) (by kernel_rfl) (by kernel_rfl) (by kernel_rfl) (by kernel_rfl) (fun _ _ _ h => h) (by kernel_rfl) ?_ (by assumption) ?_
              rotate_left 1
              · (intro wS hSw; (try dsimp only at hSw); go_simp; try with_reducible rfl)
              try simp only [Act.put, List.setIfInBounds_toArray, List.set_cons_zero, List.set_cons_succ]
              refine rg_next (i := 12) (l := #[true, true, true, true, true, true, true, true, true, true, true, true, true, false]) (fuel := 1) (by kernel_rfl) rfl (by kernel_rfl) (by kernel_rfl) (fun K hK => ?_)
              go_simp
              (go_at_call 6)
              refine (rread_any (w := wr.drew) (by exact HRQ.out) u p0 (by omega)).mono ?_
              rintro e w5 ⟨rfl, b5⟩
              replace b5 : Below wr.heap.size wr w5 := (Below.refl _ _).drew.trans (b5.mono (Nat.le_refl _))
              have R5 := Lib.hid (HRQ.out.keep b5)
              have K5 := Lib.hid (HKQ.out.trans (Kp.of_below (L := ([] : List Nat)) b5) (by simp))
              have hs5 := HKQ.out.size
              have hl5 := HGL.out
              have e05 := (b5.cell (p := ⟨gv, q * 2, none⟩) (by show gv < _; omega)).trans e0
              have e15 := (b5.cell (p := ⟨gv, q * 2 + 1, none⟩) (by show gv < _; omega)).trans e1
              clear b5 e0 e1 hs5 hl5
              first | (refine hK.out _ _ ?_ (fun hHeld => ?_)) | (go_wp2_with fail; refine hK.out _ _ ?_ (fun hHeld => ?_))
              · (try dsimp only); exact ⟨e05, e15⟩
              clear hK K
              try simp only [Act.put, List.setIfInBounds_toArray, List.set_cons_zero, List.set_cons_succ]
              refine rg_next (i := 13) (l := #[true, true, true, true, true, true, true, true, true, true, true, true, true, true]) (fuel := 0) (by kernel_rfl) rfl (by kernel_rfl) (by kernel_rfl) (fun K hK => ?_)
              go_simp
              (go_at_call 8)
              refine (rwrite_any (R5.out) v _ r0 (by omega)).mono ?_
              rintro e w6 ⟨rfl, mb2, h6, k6, hf6⟩
              rw [EM.out] at h6
              have hn6 := mv_nin HMQ.out HGN.out HGL.out
              have hs6 := K5.out.size
              have hl6 := HGL.out
              have e06 := (k6.cell (p := ⟨gv, q * 2, none⟩) (by show gv < _; omega) hn6).trans e05
              have e16 := (k6.cell (p := ⟨gv, q * 2 + 1, none⟩) (by show gv < _; omega) hn6).trans e15
              have H6 := Lib.hid h6
              have K6 := Lib.hid (mv_step K5.out HMQ.out k6 hf6)
              clear h6 k6 hf6 hn6 hs6 hl6 e05 e15
              first | (refine hK.out _ _ ?_ (fun hHeld => ?_)) | (go_wp2_with fail; refine hK.out _ _ ?_ (fun hHeld => ?_))
              · (try dsimp only); exact ⟨e06, e16⟩
              clear hK K
              try simp only [Act.put, List.setIfInBounds_toArray, List.set_cons_zero, List.set_cons_succ]
              refine wpAnyH_done (by kernel_rfl) ?_ _
              go_wp2_with fail
              go_roundw
              case rel => exact ⟨q + 1, mb2, by omega, by go_num, H6.out, K6.out.1, K6.out.2⟩
              case measure => simp [intOf]; omega
            · obtain rfl : q = L := by omega
              have hcn : (cntP (q : Int)).toNat = q := by unfold cntP; rw [if_neg (by omega)]; omega
              have hrn : w1.heap.size + 1 ∉ g :: mb.toList := by
                intro h
                rcases List.mem_cons.1 h with h | h
                · omega
                · have := ml (w1.heap.size + 1) (by simpa using h)
                  omega
              have HRQ := Lib.hid hR
              have HB5 := Lib.hid (HB4.out)
              have HKQ := Lib.hid hK
              have hrow5 := HROW4.out.kp hK (fun ad e => by cases e; exact hrn)
              have hap := vapply_ok kk hk5 f t (q : Int) f0 f1 t0 t1 (by omega) (by omega) ⟨w1.heap.size + 1, 0, none⟩ 8192 8192 z (by omega) (by omega) wr hrow5
              unfold ApplyR at hap
              rw [hcn] at hap
              clear hR hK hrow5 hM hcn hrn
              go_wp2_with fail
              refine hap.mono ?_
              rintro e w7 ⟨g2, cap2, rfl, hc2, hc3, hrow7, hg2, b7⟩
              have HR7 := Lib.hid (HRQ.out.keep b7)
              have HROW7 := Lib.hid hrow7
              have bw4 : Below W.heap.size W w4 := HK1.out.trans (HB4.out.mono HK1.out.size)
              have bwr := HKQ.out.onto bw4 bw4.size (fun x hx => by
                rcases List.mem_cons.1 hx with rfl | hx
                · exact HG.out
                · exact HMB.out x (by simpa using hx))
              have HB7 := Lib.hid (bwr.trans (b7.mono bwr.size))
              have eqi : IntKind.i64.wrap (q : Int) = q := IntWalk.i64_in _ (by omega)
              have eqq : ((q : Int) != (q : Int)) = false := by simp
              clear hap hrow7 b7 bw4 bwr
              go_wp2_with fail
              go_loopw [19] (fun i wr' => ∃ p : Nat, p ≤ 8192 ∧ i = .int .i64 p ∧ Below w7.heap.size w7 wr') (fun i _ => 8192 - (intOf i).toNat)
              case atStart => exact ⟨0, by omega, rfl, Below.refl _ _⟩
              case round =>
                obtain ⟨p, hp, rfl, hB⟩ := hrel
                by_cases hlt : p < 8192
                · have p0 : (0 : Int) ≤ p := by omega
                  have p1 : (p : Int) < 8192 := by omega
                  have ep1 : IntKind.u16.wrap (p : Int) = p := by rw [v16_mod]; omega
                  obtain ⟨ad, ea, hal, hac, _⟩ := HROW7.out p hlt
                  cases ea
                  rw [add_zero_block] at hac
                  have hal : g2 < w7.heap.size := hal
                  have c0 := (hB.cell (p := ⟨g2, p, none⟩) hal).trans hac
                  obtain ⟨x, hx⟩ : ∃ x, mvM kk f t 8192 z (List.range q) p = x := ⟨_, rfl⟩
                  rw [hx] at c0
                  have HX := Lib.hid hx
                  clear hx
                  have exx : (x != x) = false := by simp
                  have HBP := Lib.hid hB
                  have HAL := Lib.hid hal
                  have HRP := Lib.hid (HR7.out.keep hB)
                  clear hB hac hal
                  go_wp2_with fail
                  refine rg_begin (S := fun w' => w'.cell? ⟨g2, p, none⟩ = some (.int .u8 x)) 9 #[false, false, false, false, false, false, false, false, false] (by kernel_rfl) (by kernel_rfl) (by kernel_rfl) ?_ (fun hHeld => ?_)
                  · exact c0
                  refine rg_take (i := 0) (d := some 106) (l := #[true, false, false, false, false, false, false, false, false]) (fuel := 8) (v := ?_) rfl (by kernel_rfl) (by kernel_rfl) (by kernel_rfl) (by kernel_rfl) (by kernel_rfl) (fun _ _ _ h => h) (by kernel_rfl) ?_ (by assumption) ?_
                  rotate_left 1
                  · (intro wS hSw; (try dsimp only at hSw); go_simp; try with_reducible rfl)
                  try simp only [Act.put, List.setIfInBounds_toArray, List.set_cons_zero, List.set_cons_succ]
                  refine rg_take (i := 1) (d := some 107) (l := #[true, true, false, false, false, false, false, false, false]) (fuel := 7) (v := ?_) rfl (by kernel_rfl) (by kernel_rfl) (by kernel_rfl) (by kernel_rfl) (by kernel_rfl) (fun _ _ _ h => h) (by kernel_rfl) ?_ (by assumption) ?_
                  rotate_left 1
                  · (intro wS hSw; (try dsimp only at hSw); go_simp; try with_reducible rfl)
                  try simp only [Act.put, List.setIfInBounds_toArray, List.set_cons_zero, List.set_cons_succ]
                  refine rg_take (i := 2) (d := some 108) (l := #[true, true, true, false, false, false, false, false, false]) (fuel := 6) (v := ?_) rfl (by kernel_rfl) (by kernel_rfl) (by kernel_rfl) (by kernel_rfl) (by kernel_rfl) (fun _ _ _ h => h) (by kernel_rfl) ?_ (by assumption) ?_
                  rotate_left 1
                  · (intro wS hSw; (try dsimp only at hSw); go_simp; try with_reducible rfl)
                  try simp only [Act.put, List.setIfInBounds_toArray, List.set_cons_zero, List.set_cons_succ]
                  refine rg_take (i := 4) (d := some 110) (l := #[true, true, true, false, true, false, false, false, false]) (fuel := 5) (v := ?_) rfl (by kernel_rfl) (by kernel_rfl) (by kernel_rfl) (by kernel_rfl) (by kernel_rfl) (fun _ _ _ h => h) (by kernel_rfl) ?_ (by assumption) ?_
                  rotate_left 1
                  · (intro wS hSw; (try dsimp only at hSw); go_simp; try with_reducible rfl)
                  try simp only [Act.put, List.setIfInBounds_toArray, List.set_cons_zero, List.set_cons_succ]
                  refine rg_take (i := 5) (d := some 111) (l := #[true, true, true, false, true, true, false, false, false]) (fuel := 4) (v := ?_) rfl (by kernel_rfl) (by kernel_rfl) (by kernel_rfl) (by kernel_rfl) (by kernel_rfl) (fun _ _ _ h => h) (by kernel_rfl) ?_ (by assumption) ?_
                  rotate_left 1
                  · (intro wS hSw; (try dsimp only at hSw); go_simp; try with_reducible rfl)
                  try simp only [Act.put, List.setIfInBounds_toArray, List.set_cons_zero, List.set_cons_succ]
                  refine rg_take (i := 6) (d := some 112) (l := #[true, true, true, false, true, true, true, false, false]) (fuel := 3) (v := ?_) rfl (by kernel_rfl) (by kernel_rfl) (by kernel_rfl) (by kernel_rfl) (by kernel_rfl) (fun _ _ _ h => h) (by kernel_rfl) ?_ (by assumption) ?_
                  rotate_left 1
                  · (intro wS hSw; (try dsimp only at hSw); go_simp; try with_reducible rfl)
                  try simp only [Act.put, List.setIfInBounds_toArray, List.set_cons_zero, List.set_cons_succ]
                  refine rg_take (i := 7) (d := some 113) (l := #[true, true, true, false, true, true, true, true, false]) (fuel := 2) (v := ?_) rfl (by kernel_rfl) (by kernel_rfl) (by kernel_rfl) (by kernel_rfl) (by kernel_rfl) (fun _ _ _ h => h) (by kernel_rfl) ?_ (by assumption) ?_
                  rotate_left 1
                  · (intro wS hSw; (try dsimp only at hSw); go_simp; try with_reducible rfl)
                  try simp only [Act.put, List.setIfInBounds_toArray, List.set_cons_zero, List.set_cons_succ]
                  refine rg_next (i := 3) (l := #[true, true, true, true, true, true, true, true, false]) (fuel := 1) (by kernel_rfl) rfl (by kernel_rfl) (by kernel_rfl) (fun K hK => ?_)
                  go_simp
                  (go_at_call 6)
                  refine (rread_any (w := wr.drew) (by exact HRP.out) (p : Int) p0 (by omega)).mono ?_
                  rw [show ((p : Int) % 8192).toNat = p by omega, HX.out]
                  rintro e w8 ⟨rfl, b8⟩
                  replace b8 : Below wr.heap.size wr w8 := (Below.refl _ _).drew.trans (b8.mono (Nat.le_refl _))
                  have hs8 := HBP.out.size
                  have hl8 := HAL.out
                  have c8 := (b8.cell (p := ⟨g2, p, none⟩) (by show g2 < _; omega)).trans c0
                  have B8 := Lib.hid (HBP.out.trans (b8.mono HBP.out.size))
                  clear b8 hs8 hl8 c0
                  first | (refine hK.out _ _ ?_ (fun hHeld => ?_)) | (go_wp2_with fail; refine hK.out _ _ ?_ (fun hHeld => ?_))
                  · (try dsimp only); exact c8
                  clear hK K
                  try simp only [Act.put, List.setIfInBounds_toArray, List.set_cons_zero, List.set_cons_succ]
                  refine rg_take (i := 8) (d := some 114) (l := #[true, true, true, true, true, true, true, true, true]) (fuel := 0) (v := ?_) rfl (by kernel_rfl) (by kernel_rfl) (by kernel_rfl) (by kernel_rfl) (by kernel_rfl) (fun _ _ _ h => h) (by kernel_rfl) ?_ (by assumption) ?_
                  rotate_left 1
                  · (intro wS hSw; (try dsimp only at hSw); go_simp; try with_reducible rfl)
                  try simp only [Act.put, List.setIfInBounds_toArray, List.set_cons_zero, List.set_cons_succ]
                  refine wpAnyH_done (by kernel_rfl) ?_ _
                  go_wp2_with fail
                  go_roundw
                  case rel => exact ⟨p + 1, by omega, by go_num, B8.out⟩
                  case measure => simp [intOf]; omega
                · obtain rfl : p = 8192 := by omega
                  have HBP := Lib.hid hB
                  clear hB
                  go_wp2_with fail
                  go_ret
                  exact ⟨rfl, HB7.out.trans (HBP.out.mono HB7.out.size)⟩

theorem own : ownKnob Try.prog.godebug = none := by kernel_rfl
theorem laidOut : laidOutB Try.prog = true := by kernel_rfl
set_option maxRecDepth 100000 in
theorem lifted (os : Os) (started : os.Started) (H : Type) (enc : TypeId × Value → H) :
    ReturnsInHanded {} Try.checked os 3 .any (Rows.topMovedSpec.pre6 enc Try.prog Try.f3 Rows.topMovedRow.domain false) (Rows.topMovedSpec.post enc Try.prog Try.f3 false true false false) := by
  refine returnsInHanded_of_change (C := Try.checked) own started (by kernel_rfl) Try.func3
    (ChangeSpec.witness6 (enc := enc) (C := Try.checked) false ⟨#[], #[.int .u8 0, .int .u16 0, .int .u16 0, .int .u16 0, .slice none 0 0], []⟩ 8 (by kernel_rfl) (by kernel_rfl) (by kernel_rfl) (by kernel_rfl)) ?_
  intro W base args ds gs before hval0 hW _ _
  have hval : ∀ (j : Nat) t v, Try.f3.params[j]? = some t → args[j]? = some v → Value.okWide Try.prog W .any base t v := hval0
  have hW' := hW
  obtain ⟨p, q, hA0, hV, rfl, _, _⟩ := hW
  have hA : DataW.TrodAll enc Try.prog W 0 (fun _ => true) true Try.f3.params.toList args.toList ds p := hA0
  rw [Try.params3] at hA hval
  obtain ⟨v0, vs0, d0, ds0, p0, q0, hargs, rfl, rfl, h0, r0⟩ := trodAll_cons hA
  obtain ⟨v1, vs1, d1, ds1, p1, q1, rfl, rfl, rfl, h1, r1⟩ := trodAll_cons r0
  obtain ⟨v2, vs2, d2, ds2, p2, q2, rfl, rfl, rfl, h2, r2⟩ := trodAll_cons r1
  obtain ⟨v3, vs3, d3, ds3, p3, q3, rfl, rfl, rfl, h3, r3⟩ := trodAll_cons r2
  obtain ⟨v4, vs4, d4, ds4, p4, q4, rfl, rfl, rfl, h4, r4⟩ := trodAll_cons r3
  obtain ⟨rfl, rfl, rfl⟩ := trodAll_nil r4
  obtain rfl : args = #[v0, v1, v2, v3, v4] := by cases args; simp_all
  obtain ⟨rfl, rfl⟩ := trodVars_none hV
  obtain ⟨a0, rfl, rfl, rfl, w0⟩ := open_int Try.underlying5 (hval 0 5 v0 rfl rfl) h0
  obtain ⟨a1, rfl, rfl, rfl, w1⟩ := open_int Try.underlying22 (hval 1 22 v1 rfl rfl) h1
  obtain ⟨a2, rfl, rfl, rfl, w2⟩ := open_int Try.underlying22 (hval 2 22 v2 rfl rfl) h2
  obtain ⟨a3, rfl, rfl, rfl, w3⟩ := open_int Try.underlying22 (hval 3 22 v3 rfl rfl) h3
  obtain ⟨A4, n4, c4, z4, rfl, g4, m4, R4⟩ := slice_pieces Try.underlying23 Try.underlying57 (by kernel_rfl) (by kernel_rfl) Try.underlying3 Try.underlying31 Try.underlying5 (by kernel_rfl) (hval 4 23 v4 rfl rfl) h4
  clear hA0 hval0
  refine (walk a0 w0 a1 w1 a2 w2 a3 w3 A4 n4 c4 z4 g4 m4 R4).mono fun e W' ⟨he, hg⟩ => ?_
  subst he
  exact ⟨_, rfl, law_post rfl Try.underlying4 laidOut (by kernel_rfl) rfl hW' rfl hg⟩

theorem over : Rows.topMovedRow.holds Try.pinned (OpenSpec.ofChange Rows.topMovedSpec) :=
  OpenClaim.holds_of_wide 3 Try.f3 rfl rfl rfl rfl rfl rfl rfl ⟨rfl, rfl, rfl, rfl, rfl⟩ rfl rfl rfl rfl rfl (by kernel_rfl) Try.func3 (by kernel_rfl)
    (of_decide_eq_true (by kernel_rfl)) (by unfold Func.isWrapper; first | (rw [if_pos (by decide +kernel)]; kernel_rfl) | (rw [if_neg (by decide +kernel)]; exact ⟨rfl, rfl⟩))
    (fun os started H enc _ => lifted os started H enc)

theorem proved : Rows.TopMovedSaid := over
#print axioms proved
end Go.Proofs.Ytdfjpdcnjjgljaa.topMoved
