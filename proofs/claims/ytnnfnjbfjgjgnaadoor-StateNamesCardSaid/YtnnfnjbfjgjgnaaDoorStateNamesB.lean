/-
  For every input StateNames returns true, and each argument reads behind the call as it read before. The one condition: when the call begins the package-level variables that the row lists hold what the program lays in them (TIED: the card shows it of the text of the project, pruned to the packages that this seat loads).
-/
import Derived.Test.YtnnfnjbfjgjgnaaDoorRows
import Derived.Test.YtnnfnjbfjgjgnaaDoorKST01
import Derived.SevenTiedAt
import Derived.ProofKit
import Derived.LaidMore
import Derived.OpenShut
import Derived.Stop.Joined
import Derived.Test.YtnnfnjbfjgjgnaaDoorCards
import Derived.Test.YtnnfnjbfjgjgnaaDoorTie
import Derived.Test.YtnnfnjbfjgjgnaaDoorKST46
namespace Go.Proofs.YtnnfnjbfjgjgnaaDoor.stateNames
open Go.ChangeShapes Go.WideShapes Go.ChangeAt Go.RowKit
open Go.ChangeMaps (open_string)

set_option linter.unusedVariables false
set_option linter.unusedSimpArgs false
set_option maxRecDepth 100000 in
set_option maxHeartbeats 16000000 in
theorem walk {W : World} (a : Nat → Int) (ha : StOk a) (b : Nat → Int) (hb : StOk b) (name : ByteArray) (hl : name.size ≤ maxLen) (hT : Tabs W) :
    Calls Tryd.prog 5 #[.agg (stA a), .agg (stA b), .string name] W fun e w' => e = .returned (.bool true) ∧ Below W.heap.size W w' := by
  have HT := Lib.hid hT
  have K := Lib.hid (show Blk ((W.alloc (.cells (stA a) 25)).alloc (.cells (stA b) 25)) W.heap.size 25 (stA a) from (Blk.new W _ _).alloc _)
  have L := Lib.hid (show Blk ((W.alloc (.cells (stA a) 25)).alloc (.cells (stA b) 25)) (W.heap.size + 1) 25 (stA b) from Blk.new_ (by simp))
  have HB := Lib.hid (show Below W.heap.size W ((W.alloc (.cells (stA a) 25)).alloc (.cells (stA b) 25)) from ((Below.refl _ W).alloc (Nat.le_refl _) _).alloc (by simp) _)
  have HT0 := Lib.hid (hT.below HB.out)
  have Ha := Lib.hid ha
  have Hb := Lib.hid hb
  have zr := stA_size a
  have zs := stA_size b
  clear hT ha hb hl
  go_enter Tryd.func5, Tryd.ntmps5
  go_upto_region 1 with fail
  generalize (W.alloc _).alloc _ = w0 at *
  go_wp2_with fail
  refine (live25 HT0.out).mono ?_
  rintro e w1 ⟨rfl, b⟩
  have HBn := Lib.hid (HB.out.trans (b.mono HB.out.size))
  have Kn := Lib.hid (K.out.below b K.out.lt)
  have Ln := Lib.hid (L.out.below b L.out.lt)
  clear b HB K L
  have HB := HBn
  have K := Kn
  have L := Ln
  clear HBn Kn Ln
  have KA := K
  have LA := L
  clear K L
  go_wp2_with fail
  refine rg_begin (S := fun w' => Blk w' (W.heap.size) 25 (stA a) ∧ Blk w' (W.heap.size + 1) 25 (stA b)) 8 #[false, false, false, false, false, false, false, false] (by kernel_rfl) (by kernel_rfl) (by kernel_rfl) ?_ (fun hHeld => ?_)
  · exact ⟨KA.out, LA.out⟩
  refine rg_take (i := 1) (d := some 20) (l := #[false, true, false, false, false, false, false, false]) (fuel := 7) (v := .agg (stA a)) rfl (by kernel_rfl) (by kernel_rfl) (by kernel_rfl) (by kernel_rfl) (by kernel_rfl) (fun _ _ _ h => h) (by kernel_rfl) ?_ (by assumption) ?_
  · (intro wS hSw; (try dsimp only at hSw); exact row_load a rfl rfl hSw.1)
  try simp only [Act.put, List.setIfInBounds_toArray, List.set_cons_zero, List.set_cons_succ]
  refine rg_take (i := 3) (d := some 22) (l := #[false, true, false, true, false, false, false, false]) (fuel := 6) (v := .agg (stA b)) rfl (by kernel_rfl) (by kernel_rfl) (by kernel_rfl) (by kernel_rfl) (by kernel_rfl) (fun _ _ _ h => h) (by kernel_rfl) ?_ (by assumption) ?_
  · (intro wS hSw; (try dsimp only at hSw); exact row_load b rfl rfl hSw.2)
  try simp only [Act.put, List.setIfInBounds_toArray, List.set_cons_zero, List.set_cons_succ]
  refine rg_next (i := 0) (l := #[true, true, false, true, false, false, false, false]) (fuel := 5) (by kernel_rfl) rfl (by kernel_rfl) (by kernel_rfl) (fun K hK => ?_)
  go_simp
  go_at_call 17
  refine (rsnames_any _).mono ?_
  rintro e w4 ⟨rfl, nmb, b4⟩
  first | (refine hK.out _ _ ?_ (fun hHeld => ?_)) | (go_wp2_with fail; refine hK.out _ _ ?_ (fun hHeld => ?_))
  · (try dsimp only); exact ⟨KA.out.drew_.below b4 KA.out.drew_.lt, LA.out.drew_.below b4 LA.out.drew_.lt⟩
  clear hK K
  try simp only [Act.put, List.setIfInBounds_toArray, List.set_cons_zero, List.set_cons_succ]
  have HNM4 := Lib.hid nmb
  have HB4 := Lib.hid (HB.out.drew.trans (b4.mono HB.out.drew.size))
  obtain ⟨gn, hgn⟩ : ∃ g, w1.drew.heap.size = g := ⟨_, rfl⟩
  rw [hgn] at HNM4
  have K4 := Lib.hid hHeld
  clear b4 nmb
  refine rg_next (i := 2) (l := #[true, true, true, true, false, false, false, false]) (fuel := 4) (by kernel_rfl) rfl (by kernel_rfl) (by kernel_rfl) (fun K hK => ?_)
  go_simp
  go_at_call 18
  refine (rsall_any a Ha.out _).mono ?_
  rintro e w5 ⟨⟨v5, rfl, own5⟩, b5⟩
  first | (refine hK.out _ _ ?_ (fun hHeld => ?_)) | (go_wp2_with fail; refine hK.out _ _ ?_ (fun hHeld => ?_))
  · (try dsimp only); exact ⟨K4.out.1.below b5 K4.out.1.lt, K4.out.2.below b5 K4.out.2.lt⟩
  clear hK K
  try simp only [Act.put, List.setIfInBounds_toArray, List.set_cons_zero, List.set_cons_succ]
  obtain ⟨gl, cl, cul, rfl, hgl, hcl, hccl, _, hxl⟩ := own_blk (n := 15) own5
  have HXL := Lib.hid hxl
  have HCL5 := Lib.hid hcl
  have HNM5 := Lib.hid (HNM4.out.below b5 HNM4.out.lt)
  have K5 := Lib.hid hHeld
  have HB5 := Lib.hid (HB4.out.trans (b5.mono HB4.out.size))
  clear b5 own5 hxl hcl hgl K4 HNM4 HB4 KA LA HB
  refine rg_next (i := 4) (l := #[true, true, true, true, true, false, false, false]) (fuel := 3) (by kernel_rfl) rfl (by kernel_rfl) (by kernel_rfl) (fun K hK => ?_)
  go_simp
  go_at_call 18
  refine (rsall_any b Hb.out _).mono ?_
  rintro e w6 ⟨⟨v6, rfl, own6⟩, b6⟩
  first | (refine hK.out _ _ ?_ (fun hHeld => ?_)) | (go_wp2_with fail; refine hK.out _ _ ?_ (fun hHeld => ?_))
  · (try dsimp only); exact ⟨K5.out.1.below b6 K5.out.1.lt, K5.out.2.below b6 K5.out.2.lt⟩
  clear hK K
  try simp only [Act.put, List.setIfInBounds_toArray, List.set_cons_zero, List.set_cons_succ]
  obtain ⟨gm, cm, cum, rfl, hgm, hcm, hccm, _, hxm⟩ := own_blk (n := 15) own6
  have HXM := Lib.hid hxm
  have HCM6 := Lib.hid hcm
  have HCL6 := Lib.hid (HCL5.out.below b6 HCL5.out.lt)
  have HNM6 := Lib.hid (HNM5.out.below b6 HNM5.out.lt)
  have K6 := Lib.hid hHeld
  have HB6 := Lib.hid (HB5.out.trans (b6.mono HB5.out.size))
  clear b6 own6 hxm hcm hgm K5 HNM5 HB5 HCL5
  refine rg_take (i := 5) (d := some 7) (l := #[true, true, true, true, true, true, false, false]) (fuel := 2) (v := ?_) rfl (by kernel_rfl) (by kernel_rfl) (by kernel_rfl) (by kernel_rfl) (by kernel_rfl) (fun _ _ _ h => h) (by kernel_rfl) ?_ (by assumption) ?_
  rotate_left 1
  · (intro wS hSw; (try dsimp only at hSw); go_simp; try with_reducible rfl)
  try simp only [Act.put, List.setIfInBounds_toArray, List.set_cons_zero, List.set_cons_succ]
  refine rg_take (i := 6) (d := some 8) (l := #[true, true, true, true, true, true, true, false]) (fuel := 1) (v := ?_) rfl (by kernel_rfl) (by kernel_rfl) (by kernel_rfl) (by kernel_rfl) (by kernel_rfl) (fun _ _ _ h => h) (by kernel_rfl) ?_ (by assumption) ?_
  rotate_left 1
  · (intro wS hSw; (try dsimp only at hSw); go_simp; try with_reducible rfl)
  try simp only [Act.put, List.setIfInBounds_toArray, List.set_cons_zero, List.set_cons_succ]
  refine rg_take (i := 7) (d := some 9) (l := #[true, true, true, true, true, true, true, true]) (fuel := 0) (v := ?_) rfl (by kernel_rfl) (by kernel_rfl) (by kernel_rfl) (by kernel_rfl) (by kernel_rfl) (fun _ _ _ h => h) (by kernel_rfl) ?_ (by assumption) ?_
  rotate_left 1
  · (intro wS hSw; (try dsimp only at hSw); go_simp; try with_reducible rfl)
  try simp only [Act.put, List.setIfInBounds_toArray, List.set_cons_zero, List.set_cons_succ]
  refine wpAnyH_done (by kernel_rfl) ?_ _
  clear hHeld
  go_upto_region 4 with fail
  refine rg_begin (S := fun w' => Blk w' (W.heap.size) 25 (stA a) ∧ Blk w' (W.heap.size + 1) 25 (stA b)) 6 #[false, false, false, false, false, false] (by kernel_rfl) (by kernel_rfl) (by kernel_rfl) ?_ (fun hHeld => ?_)
  · exact K6.out
  refine rg_take (i := 1) (d := some 25) (l := #[false, true, false, false, false, false]) (fuel := 5) (v := .agg (stA a)) rfl (by kernel_rfl) (by kernel_rfl) (by kernel_rfl) (by kernel_rfl) (by kernel_rfl) (fun _ _ _ h => h) (by kernel_rfl) ?_ (by assumption) ?_
  · (intro wS hSw; (try dsimp only at hSw); exact row_load a rfl rfl hSw.1)
  try simp only [Act.put, List.setIfInBounds_toArray, List.set_cons_zero, List.set_cons_succ]
  refine rg_take (i := 2) (d := some 26) (l := #[false, true, true, false, false, false]) (fuel := 4) (v := .agg (stA b)) rfl (by kernel_rfl) (by kernel_rfl) (by kernel_rfl) (by kernel_rfl) (by kernel_rfl) (fun _ _ _ h => h) (by kernel_rfl) ?_ (by assumption) ?_
  · (intro wS hSw; (try dsimp only at hSw); exact row_load b rfl rfl hSw.2)
  try simp only [Act.put, List.setIfInBounds_toArray, List.set_cons_zero, List.set_cons_succ]
  refine rg_next (i := 0) (l := #[true, true, true, false, false, false]) (fuel := 3) (by kernel_rfl) rfl (by kernel_rfl) (by kernel_rfl) (fun K hK => ?_)
  go_simp
  go_at_call 19
  refine (snames_any (HT.out.below HB6.out.drew).nt).mono ?_
  rintro e w7 ⟨rfl, nmb, b7⟩
  first | (refine hK.out _ _ ?_ (fun hHeld => ?_)) | (go_wp2_with fail; refine hK.out _ _ ?_ (fun hHeld => ?_))
  · (try dsimp only); exact ⟨K6.out.1.drew_.below b7 K6.out.1.drew_.lt, K6.out.2.drew_.below b7 K6.out.2.drew_.lt⟩
  clear hK K
  try simp only [Act.put, List.setIfInBounds_toArray, List.set_cons_zero, List.set_cons_succ]
  have HSN7 := Lib.hid nmb
  have HB7 := Lib.hid (HB6.out.drew.trans (b7.mono HB6.out.drew.size))
  obtain ⟨gs, hgs⟩ : ∃ g, w6.drew.heap.size = g := ⟨_, rfl⟩
  rw [hgs] at HSN7
  have HNM7 := Lib.hid (HNM6.out.drew_.below b7 HNM6.out.drew_.lt)
  have HCL7 := Lib.hid (HCL6.out.drew_.below b7 HCL6.out.drew_.lt)
  have HCM7 := Lib.hid (HCM6.out.drew_.below b7 HCM6.out.drew_.lt)
  have K7 := Lib.hid hHeld
  clear b7 nmb K6 HNM6 HCL6 HCM6
  refine rg_next (i := 3) (l := #[true, true, true, true, false, false]) (fuel := 2) (by kernel_rfl) rfl (by kernel_rfl) (by kernel_rfl) (fun K hK => ?_)
  go_simp
  go_at_call 20
  refine (sother_any a b Ha.out Hb.out (HT.out.below HB7.out).nt).mono ?_
  rintro e w8 ⟨⟨v8, rfl, own8⟩, b8⟩
  first | (refine hK.out _ _ ?_ (fun hHeld => ?_)) | (go_wp2_with fail; refine hK.out _ _ ?_ (fun hHeld => ?_))
  · (try dsimp only); exact ⟨K7.out.1.below b8 K7.out.1.lt, K7.out.2.below b8 K7.out.2.lt⟩
  clear hK K
  try simp only [Act.put, List.setIfInBounds_toArray, List.set_cons_zero, List.set_cons_succ]
  obtain ⟨ao, co, rfl, hoc⟩ := own_any own8
  have HOC8 := Lib.hid hoc
  have HSN8 := Lib.hid (HSN7.out.below b8 HSN7.out.lt)
  have HNM8 := Lib.hid (HNM7.out.below b8 HNM7.out.lt)
  have HCL8 := Lib.hid (HCL7.out.below b8 HCL7.out.lt)
  have HCM8 := Lib.hid (HCM7.out.below b8 HCM7.out.lt)
  have HB8 := Lib.hid (HB7.out.trans (b8.mono HB7.out.size))
  have K8 := Lib.hid hHeld
  clear b8 own8 hoc K7 HSN7 HNM7 HCL7 HCM7 HB7 HB6
  refine rg_take (i := 4) (d := some 10) (l := #[true, true, true, true, true, false]) (fuel := 1) (v := ?_) rfl (by kernel_rfl) (by kernel_rfl) (by kernel_rfl) (by kernel_rfl) (by kernel_rfl) (fun _ _ _ h => h) (by kernel_rfl) ?_ (by assumption) ?_
  rotate_left 1
  · (intro wS hSw; (try dsimp only at hSw); go_simp; try with_reducible rfl)
  try simp only [Act.put, List.setIfInBounds_toArray, List.set_cons_zero, List.set_cons_succ]
  refine rg_take (i := 5) (d := some 11) (l := #[true, true, true, true, true, true]) (fuel := 0) (v := ?_) rfl (by kernel_rfl) (by kernel_rfl) (by kernel_rfl) (by kernel_rfl) (by kernel_rfl) (fun _ _ _ h => h) (by kernel_rfl) ?_ (by assumption) ?_
  rotate_left 1
  · (intro wS hSw; (try dsimp only at hSw); go_simp; try with_reducible rfl)
  try simp only [Act.put, List.setIfInBounds_toArray, List.set_cons_zero, List.set_cons_succ]
  refine wpAnyH_done (by kernel_rfl) ?_ _
  clear hHeld
  have k8 := K8.out.1
  go_wp2_with (refine wpList_load_row rfl 25 (.tmp 3) rfl (W.heap.size) (by rfl) 25 (stA a) (0, 0) _ k8 Tryd.underlying25 rfl (h8_st a) ?_)
  refine (sget_any a Ha.out (HT.out.below HB8.out).nt name).mono ?_
  rintro e w9 ⟨⟨v, bv, rfl, hp⟩, bq⟩
  have HSN := Lib.hid (HSN8.out.below bq HSN8.out.lt)
  have HNM := Lib.hid (HNM8.out.below bq HNM8.out.lt)
  have HCL := Lib.hid (HCL8.out.below bq HCL8.out.lt)
  have HCM := Lib.hid (HCM8.out.below bq HCM8.out.lt)
  have HB := Lib.hid (HB8.out.trans (bq.mono HB8.out.size))
  have HOC : Hid (∀ i, i < (otl a b 16).length → ∃ go, ao = some ⟨go, 0, none⟩ ∧ w9.cell? ⟨go, i, none⟩ = (otl a b 16)[i]?) := Lib.hid fun i hi => by
    obtain ⟨go, e1, hlt, e2⟩ := HOC8.out i hi
    exact ⟨go, e1, (bq.cell (p := ⟨go, i, none⟩) hlt).trans e2⟩
  clear k8 bq K8 HSN8 HNM8 HCL8 HCM8 HB8 HOC8
  rcases hp with ⟨k0, hk, hs, hv, rfl⟩ | ⟨hn, rfl, rfl⟩
  · have HK := Lib.hid hk
    have HNK := Lib.hid hs
    have HVV := Lib.hid hv
    clear hk hs hv
    go_wp2_with fail
    go_loopw [14, 15, 16] (fun k u i wr => ∃ q : Nat, q ≤ 16 ∧ i = .int .i64 q ∧ k = .int .i64 (((otl a b q).length : Nat) : Int) ∧ ((q ≤ k0 ∧ u = .bool false) ∨ (k0 < q ∧ u = .bool true)) ∧ ∃ m, wr = w9.drewN m) (fun _ _ i _ => 16 - (intOf i).toNat)
    case atStart => exact ⟨0, by omega, rfl, rfl, .inl ⟨by omega, rfl⟩, 0, rfl⟩
    case round =>
      obtain ⟨q, hq, rfl, rfl, his, md, rfl⟩ := hrel
      by_cases hlt : q < 16
      · skip
        have q0 : (0 : Int) ≤ q := by omega
        have q1 : (q : Int) < 16 := by omega
        have q2 : ¬ (16 : Int) ≤ q := by omega
        have cs1 : w9.cell? ⟨gs, q, none⟩ = some (.string (nmS q)) := (HSN.out.cell q).trans (nmA_at q hlt)
        have cn1 : w9.cell? ⟨gn, q, none⟩ = some (.string (nmS q)) := (HNM.out.cell q).trans (nmA_at q hlt)
        have cl1 : w9.cell? ⟨gl, q, none⟩ = some (.int .u16 (a q)) := by rw [HCL.out.cell, HXL.out q (by omega), intsOf_at _ _ _ _ (by omega)]
        have cm1 : w9.cell? ⟨gm, q, none⟩ = some (.int .u16 (b q)) := by rw [HCM.out.cell, HXM.out q (by omega), intsOf_at _ _ _ _ (by omega)]
        have hbt : ((nmS q).toList == (nmS q).toList) = true := ba_eq _
        have HQK : Hid ((q = k0 → nmS q = name) ∧ (q ≠ k0 → nmS q ≠ name)) := Lib.hid ⟨fun e => by rw [e]; exact HNK.out.symm, fun e h => e (nmS_inj hlt HK.out (h.trans HNK.out))⟩
        have HAK : Hid (q = k0 → a q = v) := Lib.hid fun e => by rw [e]; exact HVV.out.symm
        have hOL : Hid (a q = b q → (otl a b (q + 1)).length = (otl a b q).length) := Lib.hid fun e => by simp only [otl]; rw [if_pos e]
        have hOM : Hid (a q ≠ b q → (otl a b (q + 1)).length = (otl a b q).length + 1) := Lib.hid fun e => by simp only [otl]; rw [if_neg e, List.length_append]; rfl
        have hOC : Hid (a q ≠ b q → (otl a b q).length < (otl a b 16).length ∧ (otl a b 16)[(otl a b q).length]? = some (.string (nmS q))) := Lib.hid fun e => otl_at a b q hlt e
        obtain ⟨x, hx⟩ : ∃ x, a q = x := ⟨_, rfl⟩
        obtain ⟨y, hy⟩ : ∃ y, b q = y := ⟨_, rfl⟩
        obtain ⟨t, ht⟩ : ∃ t, nmS q = t := ⟨_, rfl⟩
        obtain ⟨kk, hkk⟩ : ∃ n, (otl a b q).length = n := ⟨_, rfl⟩
        rw [ht] at cs1 cn1 hbt HQK
        rw [hx] at cl1 HAK
        rw [hy] at cm1
        rw [hx, hy, hkk] at hOL hOM hOC
        rw [ht] at hOC
        rw [hkk]
        clear hx hy ht hkk
        by_cases hxy : x = y
        · have hxb : (x != y) = false := by simp [hxy]
          have HXY := Lib.hid (hOL.out hxy)
          clear hxy hOM hOC
          go_wp2_with fail
          go_quiet (fail)
          go_upto_region 12 with fail
          go_quiet (fail)
          go_upto_region 16 with fail
          by_cases he : q = k0
          · have hbn : (t.toList == name.toList) = true := by rw [HQK.out.1 he]; exact ba_eq name
            have hv : x = v := HAK.out he
            have HE := Lib.hid he
            subst hv
            clear he
            rcases his with ⟨_, rfl⟩ | ⟨h, _⟩
            · go_wp2_with fail
              go_roundw
              case rel => exact ⟨q + 1, by omega, by go_num, by rw [HXY.out]; try rfl, .inr ⟨by have := HE.out; omega, rfl⟩, _, by first | rfl | trivial⟩
              case measure => simp [intOf]; omega
            · exact absurd h (by have := HE.out; omega)
          · have hbn : (t.toList == name.toList) = false := ba_ne (HQK.out.2 he)
            have HE := Lib.hid he
            clear he
            rcases his with ⟨h, rfl⟩ | ⟨h, rfl⟩
            · have HH := Lib.hid h
              clear h
              go_wp2_with fail
              go_roundw
              case rel => exact ⟨q + 1, by omega, by go_num, by rw [HXY.out]; try rfl, .inl ⟨by have := HE.out; have := HH.out; omega, rfl⟩, _, by first | rfl | trivial⟩
              case measure => simp [intOf]; omega
            · have HH := Lib.hid h
              clear h
              go_wp2_with fail
              go_roundw
              case rel => exact ⟨q + 1, by omega, by go_num, by rw [HXY.out]; try rfl, .inr ⟨by have := HH.out; omega, rfl⟩, _, by first | rfl | trivial⟩
              case measure => simp [intOf]; omega
        · have hxb : (x != y) = true := by simp [hxy]
          have HXY := Lib.hid (hOM.out hxy)
          obtain ⟨hk1, hk2⟩ := hOC.out hxy
          obtain ⟨go, rfl, hco⟩ := HOC.out kk hk1
          have hk3 : ¬ (((otl a b 16).length : Nat) : Int) ≤ kk := by omega
          have hk4 : (0 : Int) ≤ kk := by omega
          have hk5 : (kk : Int) < (((otl a b 16).length : Nat) : Int) := by omega
          have co1 : w9.cell? ⟨go, kk, none⟩ = some (.string t) := hco.trans hk2
          have hkm : kk ≤ 16 := by have := otl_len a b 16; omega
          obtain ⟨NO, hNO⟩ : ∃ n, (otl a b 16).length = n := ⟨_, rfl⟩
          rw [hNO] at hk3 hk5 ⊢
          have HNO := Lib.hid hNO
          have hk6 : decide ((NO : Int) ≤ (kk : Int)) = false := by simp; omega
          clear hxy hOL hk1 hk2 hco hNO
          go_wp2_with fail
          go_quiet (fail)
          go_upto_region 12 with fail
          go_quiet (fail)
          go_upto_region 13 with fail
          refine rg_begin (S := fun w' => w'.cell? ⟨go, kk, none⟩ = some (.string t) ∧ w'.cell? ⟨gn, q, none⟩ = some (.string t)) 15 #[false, false, false, false, false, false, false, false, false, false, false, false, false, false, false] (by kernel_rfl) (by kernel_rfl) (by kernel_rfl) ?_ (fun hHeld => ?_)
          · exact ⟨co1, cn1⟩
          refine rg_take (i := 0) (d := some 62) (l := #[true, false, false, false, false, false, false, false, false, false, false, false, false, false, false]) (fuel := 14) (v := ?_) rfl (by kernel_rfl) (by kernel_rfl) (by kernel_rfl) (by kernel_rfl) (by kernel_rfl) (fun _ _ _ h => h) (by kernel_rfl) ?_ (by assumption) ?_
          rotate_left 1
          · (intro wS hSw; (try dsimp only at hSw); go_simp; try with_reducible rfl)
          try simp only [Act.put, List.setIfInBounds_toArray, List.set_cons_zero, List.set_cons_succ]
          refine rg_take (i := 1) (d := some 63) (l := #[true, true, false, false, false, false, false, false, false, false, false, false, false, false, false]) (fuel := 13) (v := ?_) rfl (by kernel_rfl) (by kernel_rfl) (by kernel_rfl) (by kernel_rfl) (by kernel_rfl) (fun _ _ _ h => h) (by kernel_rfl) ?_ (by assumption) ?_
          rotate_left 1
          · (intro wS hSw; (try dsimp only at hSw); go_simp; try with_reducible rfl)
          try simp only [Act.put, List.setIfInBounds_toArray, List.set_cons_zero, List.set_cons_succ]
          refine rg_take (i := 2) (d := some 64) (l := #[true, true, true, false, false, false, false, false, false, false, false, false, false, false, false]) (fuel := 12) (v := ?_) rfl (by kernel_rfl) (by kernel_rfl) (by kernel_rfl) (by kernel_rfl) (by kernel_rfl) (fun _ _ _ h => h) (by kernel_rfl) ?_ (by assumption) ?_
          rotate_left 1
          · (intro wS hSw; (try dsimp only at hSw); go_simp; try with_reducible rfl)
          try simp only [Act.put, List.setIfInBounds_toArray, List.set_cons_zero, List.set_cons_succ]
          refine rg_take (i := 3) (d := some 65) (l := #[true, true, true, true, false, false, false, false, false, false, false, false, false, false, false]) (fuel := 11) (v := .bool false) rfl (by kernel_rfl) (by kernel_rfl) (by kernel_rfl) (by kernel_rfl) (by kernel_rfl) (fun _ _ _ h => h) (by kernel_rfl) ?_ (by assumption) ?_
          · (intro wS hSw; (try dsimp only at hSw); (go_simp; try omega))
          try simp only [Act.put, List.setIfInBounds_toArray, List.set_cons_zero, List.set_cons_succ]
          refine rg_take (i := 4) (d := some 66) (l := #[true, true, true, true, true, false, false, false, false, false, false, false, false, false, false]) (fuel := 10) (v := ?_) rfl (by kernel_rfl) (by kernel_rfl) (by kernel_rfl) (by kernel_rfl) (by kernel_rfl) (fun _ _ _ h => h) (by kernel_rfl) ?_ (by assumption) ?_
          rotate_left 1
          · (intro wS hSw; (try dsimp only at hSw); go_simp; try with_reducible rfl)
          try simp only [Act.put, List.setIfInBounds_toArray, List.set_cons_zero, List.set_cons_succ]
          refine rg_take (i := 5) (d := some 67) (l := #[true, true, true, true, true, true, false, false, false, false, false, false, false, false, false]) (fuel := 9) (v := ?_) rfl (by kernel_rfl) (by kernel_rfl) (by kernel_rfl) (by kernel_rfl) (by kernel_rfl) (fun _ _ _ h => h) (by kernel_rfl) ?_ (by assumption) ?_
          rotate_left 1
          · (intro wS hSw; (try dsimp only at hSw); go_simp; try with_reducible rfl)
          try simp only [Act.put, List.setIfInBounds_toArray, List.set_cons_zero, List.set_cons_succ]
          refine rg_take (i := 6) (d := some 68) (l := #[true, true, true, true, true, true, true, false, false, false, false, false, false, false, false]) (fuel := 8) (v := ?_) rfl (by kernel_rfl) (by kernel_rfl) (by kernel_rfl) (by kernel_rfl) (by kernel_rfl) (fun _ _ _ h => h) (by kernel_rfl) ?_ (by assumption) ?_
          rotate_left 1
          · (intro wS hSw; (try dsimp only at hSw); go_simp; try with_reducible rfl)
          try simp only [Act.put, List.setIfInBounds_toArray, List.set_cons_zero, List.set_cons_succ]
          refine rg_take (i := 7) (d := some 69) (l := #[true, true, true, true, true, true, true, true, false, false, false, false, false, false, false]) (fuel := 7) (v := ?_) rfl (by kernel_rfl) (by kernel_rfl) (by kernel_rfl) (by kernel_rfl) (by kernel_rfl) (fun _ _ _ h => h) (by kernel_rfl) ?_ (by assumption) ?_
          rotate_left 1
          · (intro wS hSw; (try dsimp only at hSw); go_simp; try with_reducible rfl)
          try simp only [Act.put, List.setIfInBounds_toArray, List.set_cons_zero, List.set_cons_succ]
          refine rg_take (i := 8) (d := some 70) (l := #[true, true, true, true, true, true, true, true, true, false, false, false, false, false, false]) (fuel := 6) (v := ?_) rfl (by kernel_rfl) (by kernel_rfl) (by kernel_rfl) (by kernel_rfl) (by kernel_rfl) (fun _ _ _ h => h) (by kernel_rfl) ?_ (by assumption) ?_
          rotate_left 1
          · (intro wS hSw; (try dsimp only at hSw); go_simp; try with_reducible rfl)
          try simp only [Act.put, List.setIfInBounds_toArray, List.set_cons_zero, List.set_cons_succ]
          refine rg_take (i := 9) (d := some 71) (l := #[true, true, true, true, true, true, true, true, true, true, false, false, false, false, false]) (fuel := 5) (v := ?_) rfl (by kernel_rfl) (by kernel_rfl) (by kernel_rfl) (by kernel_rfl) (by kernel_rfl) (fun _ _ _ h => h) (by kernel_rfl) ?_ (by assumption) ?_
          rotate_left 1
          · (intro wS hSw; (try dsimp only at hSw); go_simp; try with_reducible rfl)
          try simp only [Act.put, List.setIfInBounds_toArray, List.set_cons_zero, List.set_cons_succ]
          refine rg_take (i := 10) (d := some 72) (l := #[true, true, true, true, true, true, true, true, true, true, true, false, false, false, false]) (fuel := 4) (v := ?_) rfl (by kernel_rfl) (by kernel_rfl) (by kernel_rfl) (by kernel_rfl) (by kernel_rfl) (fun _ _ _ h => h) (by kernel_rfl) ?_ (by assumption) ?_
          rotate_left 1
          · (intro wS hSw; (try dsimp only at hSw); go_simp; try with_reducible rfl)
          try simp only [Act.put, List.setIfInBounds_toArray, List.set_cons_zero, List.set_cons_succ]
          refine rg_take (i := 11) (d := some 73) (l := #[true, true, true, true, true, true, true, true, true, true, true, true, false, false, false]) (fuel := 3) (v := ?_) rfl (by kernel_rfl) (by kernel_rfl) (by kernel_rfl) (by kernel_rfl) (by kernel_rfl) (fun _ _ _ h => h) (by kernel_rfl) ?_ (by assumption) ?_
          rotate_left 1
          · (intro wS hSw; (try dsimp only at hSw); go_simp; try with_reducible rfl)
          try simp only [Act.put, List.setIfInBounds_toArray, List.set_cons_zero, List.set_cons_succ]
          refine rg_take (i := 12) (d := some 74) (l := #[true, true, true, true, true, true, true, true, true, true, true, true, true, false, false]) (fuel := 2) (v := ?_) rfl (by kernel_rfl) (by kernel_rfl) (by kernel_rfl) (by kernel_rfl) (by kernel_rfl) (fun _ _ _ h => h) (by kernel_rfl) ?_ (by assumption) ?_
          rotate_left 1
          · (intro wS hSw; (try dsimp only at hSw); go_simp; try with_reducible rfl)
          try simp only [Act.put, List.setIfInBounds_toArray, List.set_cons_zero, List.set_cons_succ]
          refine rg_take (i := 13) (d := some 75) (l := #[true, true, true, true, true, true, true, true, true, true, true, true, true, true, false]) (fuel := 1) (v := ?_) rfl (by kernel_rfl) (by kernel_rfl) (by kernel_rfl) (by kernel_rfl) (by kernel_rfl) (fun _ _ _ h => h) (by kernel_rfl) ?_ (by assumption) ?_
          rotate_left 1
          · (intro wS hSw; (try dsimp only at hSw); go_simp; try with_reducible rfl)
          try simp only [Act.put, List.setIfInBounds_toArray, List.set_cons_zero, List.set_cons_succ]
          refine rg_take (i := 14) (d := some 76) (l := #[true, true, true, true, true, true, true, true, true, true, true, true, true, true, true]) (fuel := 0) (v := ?_) rfl (by kernel_rfl) (by kernel_rfl) (by kernel_rfl) (by kernel_rfl) (by kernel_rfl) (fun _ _ _ h => h) (by kernel_rfl) ?_ (by assumption) ?_
          rotate_left 1
          · (intro wS hSw; (try dsimp only at hSw); go_simp; try with_reducible rfl)
          try simp only [Act.put, List.setIfInBounds_toArray, List.set_cons_zero, List.set_cons_succ]
          refine wpAnyH_done (by kernel_rfl) ?_ _
          clear hHeld
          go_upto_region 16 with fail
          by_cases he : q = k0
          · have hbn : (t.toList == name.toList) = true := by rw [HQK.out.1 he]; exact ba_eq name
            have hv : x = v := HAK.out he
            have HE := Lib.hid he
            subst hv
            clear he
            rcases his with ⟨_, rfl⟩ | ⟨h, _⟩
            · go_wp2_with fail
              go_roundw
              case rel => exact ⟨q + 1, by omega, by go_num, by rw [HXY.out]; try rfl, .inr ⟨by have := HE.out; omega, rfl⟩, _, by first | rfl | trivial⟩
              case measure => simp [intOf]; omega
            · exact absurd h (by have := HE.out; omega)
          · have hbn : (t.toList == name.toList) = false := ba_ne (HQK.out.2 he)
            have HE := Lib.hid he
            clear he
            rcases his with ⟨h, rfl⟩ | ⟨h, rfl⟩
            · have HH := Lib.hid h
              clear h
              go_wp2_with fail
              go_roundw
              case rel => exact ⟨q + 1, by omega, by go_num, by rw [HXY.out]; try rfl, .inl ⟨by have := HE.out; have := HH.out; omega, rfl⟩, _, by first | rfl | trivial⟩
              case measure => simp [intOf]; omega
            · have HH := Lib.hid h
              clear h
              go_wp2_with fail
              go_roundw
              case rel => exact ⟨q + 1, by omega, by go_num, by rw [HXY.out]; try rfl, .inr ⟨by have := HH.out; omega, rfl⟩, _, by first | rfl | trivial⟩
              case measure => simp [intOf]; omega
      · obtain rfl : q = 16 := by omega
        rcases his with ⟨h, _⟩ | ⟨_, rfl⟩
        · exact absurd h (by have := HK.out; omega)
        · go_wp2_with fail
          go_ret
          exact ⟨rfl, below_drewN HB.out _⟩
  · have HNN := Lib.hid hn
    clear hn
    go_wp2_with fail
    go_loopw [14, 15, 16] (fun k u i wr => ∃ q : Nat, q ≤ 16 ∧ i = .int .i64 q ∧ k = .int .i64 (((otl a b q).length : Nat) : Int) ∧ u = .bool false ∧ ∃ m, wr = w9.drewN m) (fun _ _ i _ => 16 - (intOf i).toNat)
    case atStart => exact ⟨0, by omega, rfl, rfl, rfl, 0, rfl⟩
    case round =>
      obtain ⟨q, hq, rfl, rfl, his, md, rfl⟩ := hrel
      by_cases hlt : q < 16
      · skip
        have q0 : (0 : Int) ≤ q := by omega
        have q1 : (q : Int) < 16 := by omega
        have q2 : ¬ (16 : Int) ≤ q := by omega
        have cs1 : w9.cell? ⟨gs, q, none⟩ = some (.string (nmS q)) := (HSN.out.cell q).trans (nmA_at q hlt)
        have cn1 : w9.cell? ⟨gn, q, none⟩ = some (.string (nmS q)) := (HNM.out.cell q).trans (nmA_at q hlt)
        have cl1 : w9.cell? ⟨gl, q, none⟩ = some (.int .u16 (a q)) := by rw [HCL.out.cell, HXL.out q (by omega), intsOf_at _ _ _ _ (by omega)]
        have cm1 : w9.cell? ⟨gm, q, none⟩ = some (.int .u16 (b q)) := by rw [HCM.out.cell, HXM.out q (by omega), intsOf_at _ _ _ _ (by omega)]
        have hbt : ((nmS q).toList == (nmS q).toList) = true := ba_eq _
        have hbn : ((nmS q).toList == name.toList) = false := ba_ne (HNN.out q hlt)
        have hOL : Hid (a q = b q → (otl a b (q + 1)).length = (otl a b q).length) := Lib.hid fun e => by simp only [otl]; rw [if_pos e]
        have hOM : Hid (a q ≠ b q → (otl a b (q + 1)).length = (otl a b q).length + 1) := Lib.hid fun e => by simp only [otl]; rw [if_neg e, List.length_append]; rfl
        have hOC : Hid (a q ≠ b q → (otl a b q).length < (otl a b 16).length ∧ (otl a b 16)[(otl a b q).length]? = some (.string (nmS q))) := Lib.hid fun e => otl_at a b q hlt e
        obtain ⟨x, hx⟩ : ∃ x, a q = x := ⟨_, rfl⟩
        obtain ⟨y, hy⟩ : ∃ y, b q = y := ⟨_, rfl⟩
        obtain ⟨t, ht⟩ : ∃ t, nmS q = t := ⟨_, rfl⟩
        obtain ⟨kk, hkk⟩ : ∃ n, (otl a b q).length = n := ⟨_, rfl⟩
        rw [ht] at cs1 cn1 hbt hbn
        rw [hx] at cl1 
        rw [hy] at cm1
        rw [hx, hy, hkk] at hOL hOM hOC
        rw [ht] at hOC
        rw [hkk]
        clear hx hy ht hkk
        by_cases hxy : x = y
        · have hxb : (x != y) = false := by simp [hxy]
          have HXY := Lib.hid (hOL.out hxy)
          clear hxy hOM hOC
          go_wp2_with fail
          go_quiet (fail)
          go_upto_region 12 with fail
          go_quiet (fail)
          go_upto_region 16 with fail
          subst his
          go_wp2_with fail
          go_roundw
          case rel => exact ⟨q + 1, by omega, by go_num, by rw [HXY.out]; try rfl, rfl, _, by first | rfl | trivial⟩
          case measure => simp [intOf]; omega
        · have hxb : (x != y) = true := by simp [hxy]
          have HXY := Lib.hid (hOM.out hxy)
          obtain ⟨hk1, hk2⟩ := hOC.out hxy
          obtain ⟨go, rfl, hco⟩ := HOC.out kk hk1
          have hk3 : ¬ (((otl a b 16).length : Nat) : Int) ≤ kk := by omega
          have hk4 : (0 : Int) ≤ kk := by omega
          have hk5 : (kk : Int) < (((otl a b 16).length : Nat) : Int) := by omega
          have co1 : w9.cell? ⟨go, kk, none⟩ = some (.string t) := hco.trans hk2
          have hkm : kk ≤ 16 := by have := otl_len a b 16; omega
          obtain ⟨NO, hNO⟩ : ∃ n, (otl a b 16).length = n := ⟨_, rfl⟩
          rw [hNO] at hk3 hk5 ⊢
          have HNO := Lib.hid hNO
          have hk6 : decide ((NO : Int) ≤ (kk : Int)) = false := by simp; omega
          clear hxy hOL hk1 hk2 hco hNO
          go_wp2_with fail
          go_quiet (fail)
          go_upto_region 12 with fail
          go_quiet (fail)
          go_upto_region 13 with fail
          refine rg_begin (S := fun w' => w'.cell? ⟨go, kk, none⟩ = some (.string t) ∧ w'.cell? ⟨gn, q, none⟩ = some (.string t)) 15 #[false, false, false, false, false, false, false, false, false, false, false, false, false, false, false] (by kernel_rfl) (by kernel_rfl) (by kernel_rfl) ?_ (fun hHeld => ?_)
          · exact ⟨co1, cn1⟩
          refine rg_take (i := 0) (d := some 62) (l := #[true, false, false, false, false, false, false, false, false, false, false, false, false, false, false]) (fuel := 14) (v := ?_) rfl (by kernel_rfl) (by kernel_rfl) (by kernel_rfl) (by kernel_rfl) (by kernel_rfl) (fun _ _ _ h => h) (by kernel_rfl) ?_ (by assumption) ?_
          rotate_left 1
          · (intro wS hSw; (try dsimp only at hSw); go_simp; try with_reducible rfl)
          try simp only [Act.put, List.setIfInBounds_toArray, List.set_cons_zero, List.set_cons_succ]
          refine rg_take (i := 1) (d := some 63) (l := #[true, true, false, false, false, false, false, false, false, false, false, false, false, false, false]) (fuel := 13) (v := ?_) rfl (by kernel_rfl) (by kernel_rfl) (by kernel_rfl) (by kernel_rfl) (by kernel_rfl) (fun _ _ _ h => h) (by kernel_rfl) ?_ (by assumption) ?_
          rotate_left 1
          · (intro wS hSw; (try dsimp only at hSw); go_simp; try with_reducible rfl)
          try simp only [Act.put, List.setIfInBounds_toArray, List.set_cons_zero, List.set_cons_succ]
          refine rg_take (i := 2) (d := some 64) (l := #[true, true, true, false, false, false, false, false, false, false, false, false, false, false, false]) (fuel := 12) (v := ?_) rfl (by kernel_rfl) (by kernel_rfl) (by kernel_rfl) (by kernel_rfl) (by kernel_rfl) (fun _ _ _ h => h) (by kernel_rfl) ?_ (by assumption) ?_
          rotate_left 1
          · (intro wS hSw; (try dsimp only at hSw); go_simp; try with_reducible rfl)
          try simp only [Act.put, List.setIfInBounds_toArray, List.set_cons_zero, List.set_cons_succ]
          refine rg_take (i := 3) (d := some 65) (l := #[true, true, true, true, false, false, false, false, false, false, false, false, false, false, false]) (fuel := 11) (v := .bool false) rfl (by kernel_rfl) (by kernel_rfl) (by kernel_rfl) (by kernel_rfl) (by kernel_rfl) (fun _ _ _ h => h) (by kernel_rfl) ?_ (by assumption) ?_
          · (intro wS hSw; (try dsimp only at hSw); (go_simp; try omega))
          try simp only [Act.put, List.setIfInBounds_toArray, List.set_cons_zero, List.set_cons_succ]
          refine rg_take (i := 4) (d := some 66) (l := #[true, true, true, true, true, false, false, false, false, false, false, false, false, false, false]) (fuel := 10) (v := ?_) rfl (by kernel_rfl) (by kernel_rfl) (by kernel_rfl) (by kernel_rfl) (by kernel_rfl) (fun _ _ _ h => h) (by kernel_rfl) ?_ (by assumption) ?_
          rotate_left 1
          · (intro wS hSw; (try dsimp only at hSw); go_simp; try with_reducible rfl)
          try simp only [Act.put, List.setIfInBounds_toArray, List.set_cons_zero, List.set_cons_succ]
          refine rg_take (i := 5) (d := some 67) (l := #[true, true, true, true, true, true, false, false, false, false, false, false, false, false, false]) (fuel := 9) (v := ?_) rfl (by kernel_rfl) (by kernel_rfl) (by kernel_rfl) (by kernel_rfl) (by kernel_rfl) (fun _ _ _ h => h) (by kernel_rfl) ?_ (by assumption) ?_
          rotate_left 1
          · (intro wS hSw; (try dsimp only at hSw); go_simp; try with_reducible rfl)
          try simp only [Act.put, List.setIfInBounds_toArray, List.set_cons_zero, List.set_cons_succ]
          refine rg_take (i := 6) (d := some 68) (l := #[true, true, true, true, true, true, true, false, false, false, false, false, false, false, false]) (fuel := 8) (v := ?_) rfl (by kernel_rfl) (by kernel_rfl) (by kernel_rfl) (by kernel_rfl) (by kernel_rfl) (fun _ _ _ h => h) (by kernel_rfl) ?_ (by assumption) ?_
          rotate_left 1
          · (intro wS hSw; (try dsimp only at hSw); go_simp; try with_reducible rfl)
          try simp only [Act.put, List.setIfInBounds_toArray, List.set_cons_zero, List.set_cons_succ]
          refine rg_take (i := 7) (d := some 69) (l := #[true, true, true, true, true, true, true, true, false, false, false, false, false, false, false]) (fuel := 7) (v := ?_) rfl (by kernel_rfl) (by kernel_rfl) (by kernel_rfl) (by kernel_rfl) (by kernel_rfl) (fun _ _ _ h => h) (by kernel_rfl) ?_ (by assumption) ?_
          rotate_left 1
          · (intro wS hSw; (try dsimp only at hSw); go_simp; try with_reducible rfl)
          try simp only [Act.put, List.setIfInBounds_toArray, List.set_cons_zero, List.set_cons_succ]
          refine rg_take (i := 8) (d := some 70) (l := #[true, true, true, true, true, true, true, true, true, false, false, false, false, false, false]) (fuel := 6) (v := ?_) rfl (by kernel_rfl) (by kernel_rfl) (by kernel_rfl) (by kernel_rfl) (by kernel_rfl) (fun _ _ _ h => h) (by kernel_rfl) ?_ (by assumption) ?_
          rotate_left 1
          · (intro wS hSw; (try dsimp only at hSw); go_simp; try with_reducible rfl)
          try simp only [Act.put, List.setIfInBounds_toArray, List.set_cons_zero, List.set_cons_succ]
          refine rg_take (i := 9) (d := some 71) (l := #[true, true, true, true, true, true, true, true, true, true, false, false, false, false, false]) (fuel := 5) (v := ?_) rfl (by kernel_rfl) (by kernel_rfl) (by kernel_rfl) (by kernel_rfl) (by kernel_rfl) (fun _ _ _ h => h) (by kernel_rfl) ?_ (by assumption) ?_
          rotate_left 1
          · (intro wS hSw; (try dsimp only at hSw); go_simp; try with_reducible rfl)
          try simp only [Act.put, List.setIfInBounds_toArray, List.set_cons_zero, List.set_cons_succ]
          refine rg_take (i := 10) (d := some 72) (l := #[true, true, true, true, true, true, true, true, true, true, true, false, false, false, false]) (fuel := 4) (v := ?_) rfl (by kernel_rfl) (by kernel_rfl) (by kernel_rfl) (by kernel_rfl) (by kernel_rfl) (fun _ _ _ h => h) (by kernel_rfl) ?_ (by assumption) ?_
          rotate_left 1
          · (intro wS hSw; (try dsimp only at hSw); go_simp; try with_reducible rfl)
          try simp only [Act.put, List.setIfInBounds_toArray, List.set_cons_zero, List.set_cons_succ]
          refine rg_take (i := 11) (d := some 73) (l := #[true, true, true, true, true, true, true, true, true, true, true, true, false, false, false]) (fuel := 3) (v := ?_) rfl (by kernel_rfl) (by kernel_rfl) (by kernel_rfl) (by kernel_rfl) (by kernel_rfl) (fun _ _ _ h => h) (by kernel_rfl) ?_ (by assumption) ?_
          rotate_left 1
          · (intro wS hSw; (try dsimp only at hSw); go_simp; try with_reducible rfl)
          try simp only [Act.put, List.setIfInBounds_toArray, List.set_cons_zero, List.set_cons_succ]
          refine rg_take (i := 12) (d := some 74) (l := #[true, true, true, true, true, true, true, true, true, true, true, true, true, false, false]) (fuel := 2) (v := ?_) rfl (by kernel_rfl) (by kernel_rfl) (by kernel_rfl) (by kernel_rfl) (by kernel_rfl) (fun _ _ _ h => h) (by kernel_rfl) ?_ (by assumption) ?_
          rotate_left 1
          · (intro wS hSw; (try dsimp only at hSw); go_simp; try with_reducible rfl)
          try simp only [Act.put, List.setIfInBounds_toArray, List.set_cons_zero, List.set_cons_succ]
          refine rg_take (i := 13) (d := some 75) (l := #[true, true, true, true, true, true, true, true, true, true, true, true, true, true, false]) (fuel := 1) (v := ?_) rfl (by kernel_rfl) (by kernel_rfl) (by kernel_rfl) (by kernel_rfl) (by kernel_rfl) (fun _ _ _ h => h) (by kernel_rfl) ?_ (by assumption) ?_
          rotate_left 1
          · (intro wS hSw; (try dsimp only at hSw); go_simp; try with_reducible rfl)
          try simp only [Act.put, List.setIfInBounds_toArray, List.set_cons_zero, List.set_cons_succ]
          refine rg_take (i := 14) (d := some 76) (l := #[true, true, true, true, true, true, true, true, true, true, true, true, true, true, true]) (fuel := 0) (v := ?_) rfl (by kernel_rfl) (by kernel_rfl) (by kernel_rfl) (by kernel_rfl) (by kernel_rfl) (fun _ _ _ h => h) (by kernel_rfl) ?_ (by assumption) ?_
          rotate_left 1
          · (intro wS hSw; (try dsimp only at hSw); go_simp; try with_reducible rfl)
          try simp only [Act.put, List.setIfInBounds_toArray, List.set_cons_zero, List.set_cons_succ]
          refine wpAnyH_done (by kernel_rfl) ?_ _
          clear hHeld
          go_upto_region 16 with fail
          subst his
          go_wp2_with fail
          go_roundw
          case rel => exact ⟨q + 1, by omega, by go_num, by rw [HXY.out]; try rfl, rfl, _, by first | rfl | trivial⟩
          case measure => simp [intOf]; omega
      · obtain rfl : q = 16 := by omega
        subst his
        go_wp2_with fail
        go_ret
        exact ⟨rfl, below_drewN HB.out _⟩

theorem own : ownKnob Tryd.prog.godebug = none := by kernel_rfl
theorem laidOut : laidOutB Tryd.prog = true := by kernel_rfl
theorem door_met (os : Os) (args : Array Value) : laidMetH Tryd.prog laid2 ((World.doorLaid Tryd.prog 400 os).forCall (fun _ _ => 0) ⟨#[], args, []⟩).memory :=
  laidMetH_of_parts3 (fuel := 8) (laidMet_of_run' 8 (by kernel_rfl) (by kernel_rfl)) (by kernel_rfl) (by kernel_rfl)
set_option maxRecDepth 100000 in
set_option maxHeartbeats 4000000 in
theorem lifted (os : Os) (started : os.Started) (H : Type) (enc : TypeId × Value → H) :
    ReturnsInHanded {} Tryd.checked os 5 .any (fun w args => (Rows.stateNamesSpec.pre enc Tryd.prog Tryd.f5 [] false w args ∧ laidMetH Tryd.prog laid2 w) ∧ sizedMet enc Tryd.prog Tryd.f5 (OpenSpec.ofChange Rows.stateNamesSpec) false w args)
      (Rows.stateNamesSpec.post enc Tryd.prog Tryd.f5 false true false false) := by
  refine returnsInHanded_of_change_and (C := Tryd.checked) (X := fun w _ => laidMetH Tryd.prog laid2 w) (fun _ _ _ hh h => h.of_heap hh) own started (by kernel_rfl) Tryd.func5
    (ChangeSpec.witness_shaped (enc := enc) (C := Tryd.checked) (os := os) (X := fun w _ => laidMetH Tryd.prog laid2 w) false (World.doorLaid Tryd.prog 400 os) #[.agg #[.int .u8 0, .int .u8 0, .int .u8 0, .int .u8 0, .int .u8 0, .int .u16 0, .int .u8 0, .int .u8 0, .int .u8 0, .int .u8 0, .int .u8 0, .int .u8 0, .int .u8 0, .int .u8 0, .int .u8 0, .bool false], .agg #[.int .u8 0, .int .u8 0, .int .u8 0, .int .u8 0, .int .u8 0, .int .u16 0, .int .u8 0, .int .u8 0, .int .u8 0, .int .u8 0, .int .u8 0, .int .u8 0, .int .u8 0, .int .u8 0, .int .u8 0, .bool false], .string ⟨#[]⟩] 8 rfl (World.shaped_of_RefB (by kernel_rfl) (by kernel_rfl)) (by kernel_rfl) (by kernel_rfl) (by kernel_rfl) (door_met os _)) ?_
  intro W base args ds gs before hval0 hW _ _ hL0 _
  have hL : laidMetH Tryd.prog laid2 W := hL0
  rw [MakeChecks.laidMetH_plain _ _ _ (by kernel_rfl)] at hL
  have HT := of_laid hL
  have hval : ∀ (j : Nat) t v, Tryd.f5.params[j]? = some t → args[j]? = some v → Value.okWide Tryd.prog W .any base t v := hval0
  have hW' := hW
  obtain ⟨p, q, hA0, hV, rfl, _, _⟩ := hW
  have hA : DataW.TrodAll enc Tryd.prog W 0 (fun _ => true) true Tryd.f5.params.toList args.toList ds p := hA0
  rw [Tryd.params5] at hA hval
  obtain ⟨v0, vs0, d0, ds0, p0, q0, hargs, rfl, rfl, h0, r0⟩ := trodAll_cons hA
  obtain ⟨v1, vs1, d1, ds1, p1, q1, rfl, rfl, rfl, h1, r1⟩ := trodAll_cons r0
  obtain ⟨v2, vs2, d2, ds2, p2, q2, rfl, rfl, rfl, h2, r2⟩ := trodAll_cons r1
  obtain ⟨rfl, rfl, rfl⟩ := trodAll_nil r2
  obtain rfl : args = #[v0, v1, v2] := by cases args; simp_all
  obtain ⟨rfl, rfl⟩ := trodVars_none hV
  obtain ⟨st0, rfl, So0⟩ := state_value Tryd.underlying25 (by kernel_rfl) (by kernel_rfl) (by kernel_rfl) Tryd.underlying5 Tryd.underlying5 Tryd.underlying5 Tryd.underlying5 Tryd.underlying5 Tryd.underlying22 Tryd.underlying23 Tryd.underlying5 (by kernel_rfl) Tryd.underlying5 Tryd.underlying4 (hval 0 25 v0 rfl rfl) h0
  obtain ⟨st1, rfl, So1⟩ := state_value Tryd.underlying25 (by kernel_rfl) (by kernel_rfl) (by kernel_rfl) Tryd.underlying5 Tryd.underlying5 Tryd.underlying5 Tryd.underlying5 Tryd.underlying5 Tryd.underlying22 Tryd.underlying23 Tryd.underlying5 (by kernel_rfl) Tryd.underlying5 Tryd.underlying4 (hval 1 25 v1 rfl rfl) h1
  obtain ⟨a2, rfl, rfl, rfl, w2⟩ := open_string Tryd.underlying9 (hval 2 9 v2 rfl rfl) h2
  clear hA0 hval0
  refine (walk st0 So0 st1 So1 a2 w2 HT).mono fun e W' ⟨he, hg⟩ => ?_
  subst he
  exact ⟨_, rfl, law_post rfl Tryd.underlying4 laidOut (by kernel_rfl) rfl hW' rfl hg⟩

theorem over : Rows.stateNamesRow.holds Tryd.pinned (OpenSpec.ofChange Rows.stateNamesSpec) :=
  OpenClaim.holds_of_wide 5 Tryd.f5 rfl rfl rfl rfl rfl rfl rfl ⟨rfl, rfl, rfl, rfl, rfl⟩ rfl rfl rfl rfl rfl (by kernel_rfl) Tryd.func5 (by kernel_rfl)
    (of_decide_eq_true (by kernel_rfl)) (by unfold Func.isWrapper; first | (rw [if_pos (by decide +kernel)]; kernel_rfl) | (rw [if_neg (by decide +kernel)]; exact ⟨rfl, rfl⟩))
    (fun os started H enc _ => lifted os started H enc)

theorem proved : Rows.StateNamesCardSaid :=
  Claim7.holds_tied_plain_at .later [] [.data, .data, .data] true _ false
    over (fun _ h => by cases h) (by kernel_rfl) (fun _ h => by cases h) stateNames_row_tie rfl ⟨rfl, rfl⟩ (by kernel_rfl) rfl
    (fun f fn hf hfn => by
      obtain rfl : f = 5 := Option.some.inj ((show Tryd.prog.funcNamed "gannet/gannetlaw25.StateNames" = some 5 by kernel_rfl).symm.trans hf) |>.symm
      obtain rfl : fn = Tryd.f5 := (Option.some.inj (Tryd.func5.symm.trans hfn)).symm
      exact ⟨by kernel_rfl, fun j t ht => by
        rw [Tryd.params5] at ht
        have hm : t ∈ [25, 25, 9] := by simpa using Array.mem_of_getElem? ht
        have hall : ([25, 25, 9].all fun u => !Tryd.prog.wantsStandIn u) = true := by kernel_rfl
        exact (show Tryd.prog.wantsStandIn t = false by simpa using List.all_eq_true.1 hall t hm)⟩)
    (by kernel_rfl)
#print axioms proved
end Go.Proofs.YtnnfnjbfjgjgnaaDoor.stateNames
