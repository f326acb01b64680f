/-
  For every input StateSets returns true, and each argument reads behind the call as it read before. The one condition: when the call begins the package-level variables that the row lists hold what the program lays in them (TIED: the card shows it of the text of the project, pruned to the packages that this seat loads).
-/
import Derived.Test.YtnnfnjbfjgjgnaaDoorRows
import Derived.Test.YtnnfnjbfjgjgnaaDoorKST01
import Derived.SevenTiedAt
import Derived.ProofKit
import Derived.LaidMore
import Derived.OpenShut
import Derived.Stop.Joined
import Derived.Test.YtnnfnjbfjgjgnaaDoorCards
import Derived.Test.YtnnfnjbfjgjgnaaDoorTie
import Derived.Test.YtnnfnjbfjgjgnaaDoorKST46
namespace Go.Proofs.YtnnfnjbfjgjgnaaDoor.stateSets
open Go.ChangeShapes Go.WideShapes Go.ChangeAt Go.RowKit
open Go.ChangeMaps (open_string)

set_option linter.unusedVariables false
set_option linter.unusedSimpArgs false
set_option maxRecDepth 100000 in
set_option maxHeartbeats 16000000 in
theorem walk {W : World} (r : Nat → Int) (hr : StOk r) (name : ByteArray) (hl : name.size ≤ maxLen) (v : Int) (wv : (Lit.int .u16 v).wf = true) (hT : Tabs W) :
    Calls Tryd.prog 6 #[.agg (stA r), .string name, .int .u16 v] W fun e w' => e = .returned (.bool true) ∧ Below W.heap.size W w' := by
  have HT := Lib.hid hT
  have K := Lib.hid (Blk.new W 25 (stA r))
  have HB := Lib.hid ((Below.refl _ W).alloc (Nat.le_refl _) (.cells (stA r) 25))
  have HT0 := Lib.hid (hT.below ((Below.refl _ W).alloc (Nat.le_refl _) (.cells (stA r) 25)))
  have HR := Lib.hid hr
  have zr := stA_size r
  clear hT hr
  obtain ⟨v0, v1⟩ := bounds_u16 wv
  clear wv hl
  go_enter Tryd.func6, Tryd.ntmps6
  go_upto_region 1 with fail
  generalize World.alloc W _ = w0 at *
  go_wp2_with fail
  refine (live25 HT0.out).mono ?_
  rintro e w1 ⟨rfl, b⟩
  have HBn := Lib.hid (HB.out.trans (b.mono HB.out.size))
  have Kn := Lib.hid (K.out.below b K.out.lt)
  clear b HB K
  have HB := HBn
  have K := Kn
  clear HBn Kn
  have k1 := K.out
  go_wp2_with (refine wpList_load_row rfl 25 (.tmp 3) rfl (W.heap.size) (by rfl) 25 (stA r) (0, 0) _ k1 Tryd.underlying25 rfl (h8_st r) ?_)
  refine (sset_any r HR.out (HT.out.below HB.out).nt name v v0 v1).mono ?_
  rintro e w2 ⟨⟨x, c, rfl, hp⟩, b⟩
  have HP := Lib.hid hp
  have zx := stA_size x
  clear k1 hp
  have HBn := Lib.hid (HB.out.trans (b.mono HB.out.size))
  have Kn := Lib.hid (K.out.below b K.out.lt)
  clear b HB K
  have HB := HBn
  have K := Kn
  clear HBn Kn
  have hsn := state_new x w2
  have Ng7 := Lib.hid (Blk.new w2 25 (stA x))
  have Kn := Lib.hid (K.out.alloc (.cells (stA x) 25))
  have neK := Lib.hid (show (W.heap.size) ≠ w2.heap.size by have := K.out.lt; omega)
  have HBn := Lib.hid (HB.out.alloc HB.out.size (.cells (stA x) 25))
  clear K HB
  go_upto_region 4 with fail
  clear hsn
  generalize World.alloc w2 _ = w3 at *
  generalize w2.heap.size = g7 at *
  have K := Kn
  clear Kn
  have HB := HBn
  clear HBn
  have KA := K
  clear K
  refine rg_begin (S := fun w' => Blk w' (W.heap.size) 25 (stA r) ∧ Blk w' g7 25 (stA x)) 5 #[false, false, false, false, false] (by kernel_rfl) (by kernel_rfl) (by kernel_rfl) ?_ (fun hHeld => ?_)
  · exact ⟨KA.out, Ng7.out⟩
  refine rg_take (i := 1) (d := some 26) (l := #[false, true, false, false, false]) (fuel := 4) (v := .agg (stA r)) rfl (by kernel_rfl) (by kernel_rfl) (by kernel_rfl) (by kernel_rfl) (by kernel_rfl) (fun _ _ _ h => h) (by kernel_rfl) ?_ (by assumption) ?_
  · (intro wS hSw; (try dsimp only at hSw); exact row_load r rfl rfl hSw.1)
  try simp only [Act.put, List.setIfInBounds_toArray, List.set_cons_zero, List.set_cons_succ]
  refine rg_next (i := 0) (l := #[true, true, false, false, false]) (fuel := 3) (by kernel_rfl) rfl (by kernel_rfl) (by kernel_rfl) (fun K hK => ?_)
  go_simp
  go_at_call 17
  refine (rsnames_any _).mono ?_
  rintro e w4 ⟨rfl, nmb, b4⟩
  first | (refine hK.out _ _ ?_ (fun hHeld => ?_)) | (go_wp2_with fail; refine hK.out _ _ ?_ (fun hHeld => ?_))
  · (try dsimp only); exact ⟨KA.out.drew_.below b4 KA.out.drew_.lt, Ng7.out.drew_.below b4 Ng7.out.drew_.lt⟩
  clear hK K
  try simp only [Act.put, List.setIfInBounds_toArray, List.set_cons_zero, List.set_cons_succ]
  have HNM4 := Lib.hid nmb
  have HB4 := Lib.hid (HB.out.drew.trans (b4.mono HB.out.drew.size))
  obtain ⟨gn, hgn⟩ : ∃ g, w3.drew.heap.size = g := ⟨_, rfl⟩
  rw [hgn] at HNM4
  have K4 := Lib.hid hHeld.1
  have N4 := Lib.hid hHeld.2
  clear b4 nmb hHeld
  refine rg_next (i := 2) (l := #[true, true, true, false, false]) (fuel := 2) (by kernel_rfl) rfl (by kernel_rfl) (by kernel_rfl) (fun K hK => ?_)
  go_simp
  go_at_call 18
  refine (rsall_any r HR.out _).mono ?_
  rintro e w5 ⟨⟨v5, rfl, own5⟩, b5⟩
  first | (refine hK.out _ _ ?_ (fun hHeld => ?_)) | (go_wp2_with fail; refine hK.out _ _ ?_ (fun hHeld => ?_))
  · (try dsimp only); exact ⟨K4.out.below b5 K4.out.lt, N4.out.below b5 N4.out.lt⟩
  clear hK K
  try simp only [Act.put, List.setIfInBounds_toArray, List.set_cons_zero, List.set_cons_succ]
  obtain ⟨gl, cl, cul, rfl, hgl, hcl, hccl, _, hxl⟩ := own_blk (n := 15) own5
  have HXL := Lib.hid hxl
  have HCL := Lib.hid hcl
  have HNM := Lib.hid (HNM4.out.below b5 HNM4.out.lt)
  have K5 := Lib.hid hHeld.1
  have N5 := Lib.hid hHeld.2
  have HB5 := Lib.hid (HB4.out.trans (b5.mono HB4.out.size))
  clear b5 own5 hxl hcl hgl K4 N4 HNM4 HB4 KA Ng7 HB
  refine rg_take (i := 3) (d := some 9) (l := #[true, true, true, true, false]) (fuel := 1) (v := ?_) rfl (by kernel_rfl) (by kernel_rfl) (by kernel_rfl) (by kernel_rfl) (by kernel_rfl) (fun _ _ _ h => h) (by kernel_rfl) ?_ (by assumption) ?_
  rotate_left 1
  · (intro wS hSw; (try dsimp only at hSw); go_simp; try with_reducible rfl)
  try simp only [Act.put, List.setIfInBounds_toArray, List.set_cons_zero, List.set_cons_succ]
  refine rg_take (i := 4) (d := some 10) (l := #[true, true, true, true, true]) (fuel := 0) (v := ?_) rfl (by kernel_rfl) (by kernel_rfl) (by kernel_rfl) (by kernel_rfl) (by kernel_rfl) (fun _ _ _ h => h) (by kernel_rfl) ?_ (by assumption) ?_
  rotate_left 1
  · (intro wS hSw; (try dsimp only at hSw); go_simp; try with_reducible rfl)
  try simp only [Act.put, List.setIfInBounds_toArray, List.set_cons_zero, List.set_cons_succ]
  refine wpAnyH_done (by kernel_rfl) ?_ _
  clear hHeld
  have Ng7 := N5
  have HB := HB5
  have K := K5
  clear N5 HB5 K5
  generalize w5 = w9 at *
  rcases HP.out with ⟨k, hk, hs, h1⟩ | ⟨hn, rfl, rfl⟩
  · have HK := Lib.hid hk
    have HNK := Lib.hid hs
    have k0 : (0 : Int) ≤ k := by omega
    have k1 : (k : Int) < 16 := by omega
    clear hk hs HP
    have M := mostP_bd k
    rcases h1 with ⟨hv, rfl, hx⟩ | ⟨hv, rfl, rfl⟩
    · have hok : StOk x := by rw [hx]; exact stOk_set HR.out v0 hv
      have HOK := Lib.hid hok
      have HX := Lib.hid hx
      have HV : k = 5 ∨ (k = 15 ∧ v ≤ 1) ∨ (k ≠ 5 ∧ k ≠ 15 ∧ v ≤ 255) := by
        unfold mostP at hv
        by_cases a5 : k = 5
        · exact .inl a5
        · rw [if_neg a5] at hv
          by_cases a15 : k = 15
          · rw [if_pos a15] at hv; exact .inr (.inl ⟨a15, hv⟩)
          · rw [if_neg a15] at hv; exact .inr (.inr ⟨a5, a15, hv⟩)
      clear hv M hok hx
      go_wp2_with fail
      go_loopw [11, 12] (fun a i wr => ∃ q : Nat, q ≤ 16 ∧ i = .int .i64 q ∧ (q ≤ k ∧ a = .int .i64 (-1) ∨ k < q ∧ a = .int .i64 (k : Int)) ∧ wr = w9) (fun _ i _ => 16 - (intOf i).toNat)
      case atStart => exact ⟨0, by omega, rfl, .inl ⟨by omega, rfl⟩, rfl⟩
      case round =>
        obtain ⟨q, hq, rfl, ha, rfl⟩ := hrel
        by_cases hlt : q < 16
        · have q0 : (0 : Int) ≤ q := by omega
          have q1 : (q : Int) < 16 := by omega
          have cn : wr.cell? ⟨gn, q, none⟩ = some (.string (nmS q)) := (HNM.out.cell q).trans (nmA_at q hlt)
          by_cases he : q = k
          · subst he
            rw [← HNK.out] at cn
            have hb : (name.toList == name.toList) = true := ba_eq name
            rcases ha with ⟨_, rfl⟩ | ⟨h, _⟩
            · go_wp2_with fail
              go_roundw
              case rel => exact ⟨q + 1, by omega, by go_num, .inr ⟨by omega, rfl⟩, by first | rfl | trivial⟩
              case measure => simp [intOf]; omega
            · exact absurd h (by omega)
          · have hne : nmS q ≠ name := fun e => he (nmS_inj hlt HK.out (e.trans HNK.out))
            have hb : ((nmS q).toList == name.toList) = false := ba_ne hne
            obtain ⟨t, ht⟩ : ∃ t, nmS q = t := ⟨_, rfl⟩
            rw [ht] at cn hb
            have HE := Lib.hid he
            clear hne ht he
            rcases ha with ⟨h, rfl⟩ | ⟨h, rfl⟩
            · have HH := Lib.hid h
              clear h
              go_wp2_with fail
              go_roundw
              case rel => exact ⟨q + 1, by omega, by go_num, .inl ⟨by have := HE.out; have := HH.out; omega, rfl⟩, by first | rfl | trivial⟩
              case measure => simp [intOf]; omega
            · have HH := Lib.hid h
              clear h
              go_wp2_with fail
              go_roundw
              case rel => exact ⟨q + 1, by omega, by go_num, .inr ⟨by have := HH.out; omega, rfl⟩, by first | rfl | trivial⟩
              case measure => simp [intOf]; omega
        · obtain rfl : q = 16 := by omega
          obtain rfl : u11 = .int .i64 (k : Int) := by
            rcases ha with ⟨h, _⟩ | ⟨_, h⟩
            · exact absurd h (by have := HK.out; omega)
            · exact h
          have n7 := Ng7.out
          rcases HV with rfl | ⟨rfl, hv⟩ | ⟨a5, a15, hv⟩
          · skip
            go_wp2_with (first | (refine wpList_load_row rfl 25 (.tmp 7) rfl g7 (by rfl) 25 (stA x) (0, 0) _ n7 Tryd.underlying25 rfl (h8_st x) ?_))
            refine (rsall_any x HOK.out _).mono ?_
            rintro e w12 ⟨⟨v6, rfl, own6⟩, b6⟩
            obtain ⟨gm, cm, cum, rfl, hgm, hcm', hccm, _, hxm⟩ := own_blk (n := 15) own6
            have HXM := Lib.hid hxm
            have HCM := Lib.hid hcm'
            have HCL2 := Lib.hid (HCL.out.below b6 HCL.out.lt)
            have HB2 := Lib.hid (HB.out.trans (b6.mono HB.out.size))
            clear b6 own6 hxm hcm' hgm n7
            go_wp2_with fail
            go_loopw [14, 15] (fun i u wr => ∃ q : Nat, q ≤ 16 ∧ i = .int .i64 q ∧ wr = w12) (fun i _ _ => 16 - (intOf i).toNat)
            case atStart => exact ⟨0, by omega, rfl, rfl⟩
            case round =>
              obtain ⟨q, hq, rfl, rfl⟩ := hrel
              by_cases hlt : q < 16
              · have q0 : (0 : Int) ≤ q := by omega
                have q1 : (q : Int) < 16 := by omega
                have cl1 : wr.cell? ⟨gl, q, none⟩ = some (.int .u16 (r q)) := by rw [HCL2.out.cell, HXL.out q (by omega), intsOf_at _ _ _ _ (by omega)]
                have cm1 : wr.cell? ⟨gm, q, none⟩ = some (.int .u16 (x q)) := by rw [HCM.out.cell, HXM.out q (by omega), intsOf_at _ _ _ _ (by omega)]
                rw [HX.out] at cm1
                dsimp only at cm1
                by_cases he : (q : Int) = 5
                · have hqk : q = 5 := by omega
                  have e0 : ((q : Int) == 5) = true := by simp [he]
                  rw [if_pos hqk] at cm1
                  obtain ⟨y, hy⟩ : ∃ y, r q = y := ⟨_, rfl⟩
                  rw [hy] at cl1
                  clear he hqk hy
                  go_wp2_with fail
                  go_roundw
                  case rel => exact ⟨q + 1, by omega, by go_num, by first | rfl | trivial⟩
                  case measure => simp [intOf]; omega
                · have hqk : ¬ q = 5 := by omega
                  have e0 : ((q : Int) == 5) = false := by simp [he]
                  rw [if_neg hqk] at cm1
                  obtain ⟨y, hy⟩ : ∃ y, r q = y := ⟨_, rfl⟩
                  rw [hy] at cl1 cm1
                  clear he hqk hy
                  go_wp2_with fail
                  go_roundw
                  case rel => exact ⟨q + 1, by omega, by go_num, by first | rfl | trivial⟩
                  case measure => simp [intOf]; omega
              · obtain rfl : q = 16 := by omega
                go_wp2_with fail
                go_ret
                exact ⟨rfl, HB2.out⟩
          · have hv2 : ¬ 1 < v := by omega
            have hv3 : ¬ 255 < v := by omega
            go_wp2_with (first | (refine wpList_load_row rfl 25 (.tmp 7) rfl g7 (by rfl) 25 (stA x) (0, 0) _ n7 Tryd.underlying25 rfl (h8_st x) ?_))
            refine (rsall_any x HOK.out _).mono ?_
            rintro e w12 ⟨⟨v6, rfl, own6⟩, b6⟩
            obtain ⟨gm, cm, cum, rfl, hgm, hcm', hccm, _, hxm⟩ := own_blk (n := 15) own6
            have HXM := Lib.hid hxm
            have HCM := Lib.hid hcm'
            have HCL2 := Lib.hid (HCL.out.below b6 HCL.out.lt)
            have HB2 := Lib.hid (HB.out.trans (b6.mono HB.out.size))
            clear b6 own6 hxm hcm' hgm n7
            go_wp2_with fail
            go_loopw [14, 15] (fun i u wr => ∃ q : Nat, q ≤ 16 ∧ i = .int .i64 q ∧ wr = w12) (fun i _ _ => 16 - (intOf i).toNat)
            case atStart => exact ⟨0, by omega, rfl, rfl⟩
            case round =>
              obtain ⟨q, hq, rfl, rfl⟩ := hrel
              by_cases hlt : q < 16
              · have q0 : (0 : Int) ≤ q := by omega
                have q1 : (q : Int) < 16 := by omega
                have cl1 : wr.cell? ⟨gl, q, none⟩ = some (.int .u16 (r q)) := by rw [HCL2.out.cell, HXL.out q (by omega), intsOf_at _ _ _ _ (by omega)]
                have cm1 : wr.cell? ⟨gm, q, none⟩ = some (.int .u16 (x q)) := by rw [HCM.out.cell, HXM.out q (by omega), intsOf_at _ _ _ _ (by omega)]
                rw [HX.out] at cm1
                dsimp only at cm1
                by_cases he : (q : Int) = 15
                · have hqk : q = 15 := by omega
                  have e0 : ((q : Int) == 15) = true := by simp [he]
                  rw [if_pos hqk] at cm1
                  obtain ⟨y, hy⟩ : ∃ y, r q = y := ⟨_, rfl⟩
                  rw [hy] at cl1
                  clear he hqk hy
                  go_wp2_with fail
                  go_roundw
                  case rel => exact ⟨q + 1, by omega, by go_num, by first | rfl | trivial⟩
                  case measure => simp [intOf]; omega
                · have hqk : ¬ q = 15 := by omega
                  have e0 : ((q : Int) == 15) = false := by simp [he]
                  rw [if_neg hqk] at cm1
                  obtain ⟨y, hy⟩ : ∃ y, r q = y := ⟨_, rfl⟩
                  rw [hy] at cl1 cm1
                  clear he hqk hy
                  go_wp2_with fail
                  go_roundw
                  case rel => exact ⟨q + 1, by omega, by go_num, by first | rfl | trivial⟩
                  case measure => simp [intOf]; omega
              · obtain rfl : q = 16 := by omega
                go_wp2_with fail
                go_ret
                exact ⟨rfl, HB2.out⟩
          · have e5 : ((k : Int) != 5) = true := by simp; omega
            have e15 : ((k : Int) == 15) = false := by simp; omega
            have hv3 : ¬ 255 < v := by omega
            clear a5 a15
            go_wp2_with (first | (refine wpList_load_row rfl 25 (.tmp 7) rfl g7 (by rfl) 25 (stA x) (0, 0) _ n7 Tryd.underlying25 rfl (h8_st x) ?_))
            refine (rsall_any x HOK.out _).mono ?_
            rintro e w12 ⟨⟨v6, rfl, own6⟩, b6⟩
            obtain ⟨gm, cm, cum, rfl, hgm, hcm', hccm, _, hxm⟩ := own_blk (n := 15) own6
            have HXM := Lib.hid hxm
            have HCM := Lib.hid hcm'
            have HCL2 := Lib.hid (HCL.out.below b6 HCL.out.lt)
            have HB2 := Lib.hid (HB.out.trans (b6.mono HB.out.size))
            clear b6 own6 hxm hcm' hgm n7
            go_wp2_with fail
            go_loopw [14, 15] (fun i u wr => ∃ q : Nat, q ≤ 16 ∧ i = .int .i64 q ∧ wr = w12) (fun i _ _ => 16 - (intOf i).toNat)
            case atStart => exact ⟨0, by omega, rfl, rfl⟩
            case round =>
              obtain ⟨q, hq, rfl, rfl⟩ := hrel
              by_cases hlt : q < 16
              · have q0 : (0 : Int) ≤ q := by omega
                have q1 : (q : Int) < 16 := by omega
                have cl1 : wr.cell? ⟨gl, q, none⟩ = some (.int .u16 (r q)) := by rw [HCL2.out.cell, HXL.out q (by omega), intsOf_at _ _ _ _ (by omega)]
                have cm1 : wr.cell? ⟨gm, q, none⟩ = some (.int .u16 (x q)) := by rw [HCM.out.cell, HXM.out q (by omega), intsOf_at _ _ _ _ (by omega)]
                rw [HX.out] at cm1
                dsimp only at cm1
                by_cases he : (q : Int) = (k : Int)
                · have hqk : q = k := by omega
                  have e0 : ((q : Int) == (k : Int)) = true := by simp [he]
                  rw [if_pos hqk] at cm1
                  obtain ⟨y, hy⟩ : ∃ y, r q = y := ⟨_, rfl⟩
                  rw [hy] at cl1
                  clear he hqk hy
                  go_wp2_with fail
                  go_roundw
                  case rel => exact ⟨q + 1, by omega, by go_num, by first | rfl | trivial⟩
                  case measure => simp [intOf]; omega
                · have hqk : ¬ q = k := by omega
                  have e0 : ((q : Int) == (k : Int)) = false := by simp [he]
                  rw [if_neg hqk] at cm1
                  obtain ⟨y, hy⟩ : ∃ y, r q = y := ⟨_, rfl⟩
                  rw [hy] at cl1 cm1
                  clear he hqk hy
                  go_wp2_with fail
                  go_roundw
                  case rel => exact ⟨q + 1, by omega, by go_num, by first | rfl | trivial⟩
                  case measure => simp [intOf]; omega
              · obtain rfl : q = 16 := by omega
                go_wp2_with fail
                go_ret
                exact ⟨rfl, HB2.out⟩
    · have HV : (k ≠ 5 ∧ k ≠ 15 ∧ 255 < v) ∨ (k = 15 ∧ 1 < v) := by
        unfold mostP at hv
        by_cases a5 : k = 5
        · rw [if_pos a5] at hv; omega
        · rw [if_neg a5] at hv
          by_cases a15 : k = 15
          · rw [if_pos a15] at hv; exact .inr ⟨a15, hv⟩
          · rw [if_neg a15] at hv; exact .inl ⟨a5, a15, hv⟩
      clear hv M
      go_wp2_with fail
      go_loopw [11, 12] (fun a i wr => ∃ q : Nat, q ≤ 16 ∧ i = .int .i64 q ∧ (q ≤ k ∧ a = .int .i64 (-1) ∨ k < q ∧ a = .int .i64 (k : Int)) ∧ wr = w9) (fun _ i _ => 16 - (intOf i).toNat)
      case atStart => exact ⟨0, by omega, rfl, .inl ⟨by omega, rfl⟩, rfl⟩
      case round =>
        obtain ⟨q, hq, rfl, ha, rfl⟩ := hrel
        by_cases hlt : q < 16
        · have q0 : (0 : Int) ≤ q := by omega
          have q1 : (q : Int) < 16 := by omega
          have cn : wr.cell? ⟨gn, q, none⟩ = some (.string (nmS q)) := (HNM.out.cell q).trans (nmA_at q hlt)
          by_cases he : q = k
          · subst he
            rw [← HNK.out] at cn
            have hb : (name.toList == name.toList) = true := ba_eq name
            rcases ha with ⟨_, rfl⟩ | ⟨h, _⟩
            · go_wp2_with fail
              go_roundw
              case rel => exact ⟨q + 1, by omega, by go_num, .inr ⟨by omega, rfl⟩, by first | rfl | trivial⟩
              case measure => simp [intOf]; omega
            · exact absurd h (by omega)
          · have hne : nmS q ≠ name := fun e => he (nmS_inj hlt HK.out (e.trans HNK.out))
            have hb : ((nmS q).toList == name.toList) = false := ba_ne hne
            obtain ⟨t, ht⟩ : ∃ t, nmS q = t := ⟨_, rfl⟩
            rw [ht] at cn hb
            have HE := Lib.hid he
            clear hne ht he
            rcases ha with ⟨h, rfl⟩ | ⟨h, rfl⟩
            · have HH := Lib.hid h
              clear h
              go_wp2_with fail
              go_roundw
              case rel => exact ⟨q + 1, by omega, by go_num, .inl ⟨by have := HE.out; have := HH.out; omega, rfl⟩, by first | rfl | trivial⟩
              case measure => simp [intOf]; omega
            · have HH := Lib.hid h
              clear h
              go_wp2_with fail
              go_roundw
              case rel => exact ⟨q + 1, by omega, by go_num, .inr ⟨by have := HH.out; omega, rfl⟩, by first | rfl | trivial⟩
              case measure => simp [intOf]; omega
        · obtain rfl : q = 16 := by omega
          obtain rfl : u11 = .int .i64 (k : Int) := by
            rcases ha with ⟨h, _⟩ | ⟨_, h⟩
            · exact absurd h (by have := HK.out; omega)
            · exact h
          have n7 : Blk wr g7 25 #[.int .u8 0, .int .u8 0, .int .u8 0, .int .u8 0, .int .u8 0, .int .u16 0, .int .u8 0, .int .u8 0, .int .u8 0, .int .u8 0, .int .u8 0, .int .u8 0, .int .u8 0, .int .u8 0, .int .u8 0, .bool false] := Ng7.out
          have hpg : ∀ W : World, (Op.equalIn 9999 23 (.agg #[.int .u8 0, .int .u8 0, .int .u8 0, .int .u8 0, .int .u8 0, .int .u8 0, .int .u8 0, .int .u8 0]) (.agg #[.int .u8 0, .int .u8 0, .int .u8 0, .int .u8 0, .int .u8 0, .int .u8 0, .int .u8 0, .int .u8 0])).run Tryd.prog W = .ok true W := st_pages sZ
          rcases HV with ⟨a5, a15, hv⟩ | ⟨rfl, hv⟩
          · have e5 : ((k : Int) != 5) = true := by simp; omega
            clear a5 a15
            go_wp2_with (first | (refine wpList_load_row_want (by kernel_rfl) 25 (.tmp 7) rfl g7 (by rfl) 25 #[.int .u8 0, .int .u8 0, .int .u8 0, .int .u8 0, .int .u8 0, .int .u16 0, .int .u8 0, .int .u8 0, .int .u8 0, .int .u8 0, .int .u8 0, .int .u8 0, .int .u8 0, .int .u8 0, .int .u8 0, .bool false] (0, 0) _ n7 Tryd.underlying25 rfl size_state ?_))
            all_goals (go_ret; exact ⟨rfl, HB.out⟩)
          · go_wp2_with (first | (refine wpList_load_row_want (by kernel_rfl) 25 (.tmp 7) rfl g7 (by rfl) 25 #[.int .u8 0, .int .u8 0, .int .u8 0, .int .u8 0, .int .u8 0, .int .u16 0, .int .u8 0, .int .u8 0, .int .u8 0, .int .u8 0, .int .u8 0, .int .u8 0, .int .u8 0, .int .u8 0, .int .u8 0, .bool false] (0, 0) _ n7 Tryd.underlying25 rfl size_state ?_))
            all_goals (go_ret; exact ⟨rfl, HB.out⟩)
  · have HNN := Lib.hid hn
    clear hn HP
    go_wp2_with fail
    go_loopw [11, 12] (fun a i wr => ∃ q : Nat, q ≤ 16 ∧ i = .int .i64 q ∧ a = .int .i64 (-1) ∧ wr = w9) (fun _ i _ => 16 - (intOf i).toNat)
    case atStart => exact ⟨0, by omega, rfl, rfl, rfl⟩
    case round =>
      obtain ⟨q, hq, rfl, ha, rfl⟩ := hrel
      by_cases hlt : q < 16
      · have q0 : (0 : Int) ≤ q := by omega
        have q1 : (q : Int) < 16 := by omega
        have cn : wr.cell? ⟨gn, q, none⟩ = some (.string (nmS q)) := (HNM.out.cell q).trans (nmA_at q hlt)
        have hb : ((nmS q).toList == name.toList) = false := ba_ne (HNN.out q hlt)
        obtain ⟨t, ht⟩ : ∃ t, nmS q = t := ⟨_, rfl⟩
        rw [ht] at cn hb
        clear ht
        subst ha
        go_wp2_with fail
        go_roundw
        case rel => exact ⟨q + 1, by omega, by go_num, rfl, by first | rfl | trivial⟩
        case measure => simp [intOf]; omega
      · obtain rfl : q = 16 := by omega
        subst ha
        have n7 : Blk wr g7 25 #[.int .u8 0, .int .u8 0, .int .u8 0, .int .u8 0, .int .u8 0, .int .u16 0, .int .u8 0, .int .u8 0, .int .u8 0, .int .u8 0, .int .u8 0, .int .u8 0, .int .u8 0, .int .u8 0, .int .u8 0, .bool false] := Ng7.out
        have hpg : ∀ W : World, (Op.equalIn 9999 23 (.agg #[.int .u8 0, .int .u8 0, .int .u8 0, .int .u8 0, .int .u8 0, .int .u8 0, .int .u8 0, .int .u8 0]) (.agg #[.int .u8 0, .int .u8 0, .int .u8 0, .int .u8 0, .int .u8 0, .int .u8 0, .int .u8 0, .int .u8 0])).run Tryd.prog W = .ok true W := st_pages sZ
        go_wp2_with (first | (refine wpList_load_row_want (by kernel_rfl) 25 (.tmp 7) rfl g7 (by rfl) 25 #[.int .u8 0, .int .u8 0, .int .u8 0, .int .u8 0, .int .u8 0, .int .u16 0, .int .u8 0, .int .u8 0, .int .u8 0, .int .u8 0, .int .u8 0, .int .u8 0, .int .u8 0, .int .u8 0, .int .u8 0, .bool false] (0, 0) _ n7 Tryd.underlying25 rfl size_state ?_))
        go_ret
        exact ⟨rfl, HB.out⟩

theorem own : ownKnob Tryd.prog.godebug = none := by kernel_rfl
theorem laidOut : laidOutB Tryd.prog = true := by kernel_rfl
theorem door_met (os : Os) (args : Array Value) : laidMetH Tryd.prog laid2 ((World.doorLaid Tryd.prog 400 os).forCall (fun _ _ => 0) ⟨#[], args, []⟩).memory :=
  laidMetH_of_parts3 (fuel := 8) (laidMet_of_run' 8 (by kernel_rfl) (by kernel_rfl)) (by kernel_rfl) (by kernel_rfl)
set_option maxRecDepth 100000 in
set_option maxHeartbeats 4000000 in
theorem lifted (os : Os) (started : os.Started) (H : Type) (enc : TypeId × Value → H) :
    ReturnsInHanded {} Tryd.checked os 6 .any (fun w args => (Rows.stateSetsSpec.pre enc Tryd.prog Tryd.f6 [] false w args ∧ laidMetH Tryd.prog laid2 w) ∧ sizedMet enc Tryd.prog Tryd.f6 (OpenSpec.ofChange Rows.stateSetsSpec) false w args)
      (Rows.stateSetsSpec.post enc Tryd.prog Tryd.f6 false true false false) := by
  refine returnsInHanded_of_change_and (C := Tryd.checked) (X := fun w _ => laidMetH Tryd.prog laid2 w) (fun _ _ _ hh h => h.of_heap hh) own started (by kernel_rfl) Tryd.func6
    (ChangeSpec.witness_shaped (enc := enc) (C := Tryd.checked) (os := os) (X := fun w _ => laidMetH Tryd.prog laid2 w) false (World.doorLaid Tryd.prog 400 os) #[.agg #[.int .u8 0, .int .u8 0, .int .u8 0, .int .u8 0, .int .u8 0, .int .u16 0, .int .u8 0, .int .u8 0, .int .u8 0, .int .u8 0, .int .u8 0, .int .u8 0, .int .u8 0, .int .u8 0, .int .u8 0, .bool false], .string ⟨#[]⟩, .int .u16 0] 8 rfl (World.shaped_of_RefB (by kernel_rfl) (by kernel_rfl)) (by kernel_rfl) (by kernel_rfl) (by kernel_rfl) (door_met os _)) ?_
  intro W base args ds gs before hval0 hW _ _ hL0 _
  have hL : laidMetH Tryd.prog laid2 W := hL0
  rw [MakeChecks.laidMetH_plain _ _ _ (by kernel_rfl)] at hL
  have HT := of_laid hL
  have hval : ∀ (j : Nat) t v, Tryd.f6.params[j]? = some t → args[j]? = some v → Value.okWide Tryd.prog W .any base t v := hval0
  have hW' := hW
  obtain ⟨p, q, hA0, hV, rfl, _, _⟩ := hW
  have hA : DataW.TrodAll enc Tryd.prog W 0 (fun _ => true) true Tryd.f6.params.toList args.toList ds p := hA0
  rw [Tryd.params6] at hA hval
  obtain ⟨v0, vs0, d0, ds0, p0, q0, hargs, rfl, rfl, h0, r0⟩ := trodAll_cons hA
  obtain ⟨v1, vs1, d1, ds1, p1, q1, rfl, rfl, rfl, h1, r1⟩ := trodAll_cons r0
  obtain ⟨v2, vs2, d2, ds2, p2, q2, rfl, rfl, rfl, h2, r2⟩ := trodAll_cons r1
  obtain ⟨rfl, rfl, rfl⟩ := trodAll_nil r2
  obtain rfl : args = #[v0, v1, v2] := by cases args; simp_all
  obtain ⟨rfl, rfl⟩ := trodVars_none hV
  obtain ⟨st0, rfl, So0⟩ := state_value Tryd.underlying25 (by kernel_rfl) (by kernel_rfl) (by kernel_rfl) Tryd.underlying5 Tryd.underlying5 Tryd.underlying5 Tryd.underlying5 Tryd.underlying5 Tryd.underlying22 Tryd.underlying23 Tryd.underlying5 (by kernel_rfl) Tryd.underlying5 Tryd.underlying4 (hval 0 25 v0 rfl rfl) h0
  obtain ⟨a1, rfl, rfl, rfl, w1⟩ := open_string Tryd.underlying9 (hval 1 9 v1 rfl rfl) h1
  obtain ⟨a2, rfl, rfl, rfl, w2⟩ := open_int Tryd.underlying22 (hval 2 22 v2 rfl rfl) h2
  clear hA0 hval0
  refine (walk st0 So0 a1 w1 a2 w2 HT).mono fun e W' ⟨he, hg⟩ => ?_
  subst he
  exact ⟨_, rfl, law_post rfl Tryd.underlying4 laidOut (by kernel_rfl) rfl hW' rfl hg⟩

theorem over : Rows.stateSetsRow.holds Tryd.pinned (OpenSpec.ofChange Rows.stateSetsSpec) :=
  OpenClaim.holds_of_wide 6 Tryd.f6 rfl rfl rfl rfl rfl rfl rfl ⟨rfl, rfl, rfl, rfl, rfl⟩ rfl rfl rfl rfl rfl (by kernel_rfl) Tryd.func6 (by kernel_rfl)
    (of_decide_eq_true (by kernel_rfl)) (by unfold Func.isWrapper; first | (rw [if_pos (by decide +kernel)]; kernel_rfl) | (rw [if_neg (by decide +kernel)]; exact ⟨rfl, rfl⟩))
    (fun os started H enc _ => lifted os started H enc)

theorem proved : Rows.StateSetsCardSaid :=
  Claim7.holds_tied_plain_at .later [] [.data, .data, .data] true _ false
    over (fun _ h => by cases h) (by kernel_rfl) (fun _ h => by cases h) stateSets_row_tie rfl ⟨rfl, rfl⟩ (by kernel_rfl) rfl
    (fun f fn hf hfn => by
      obtain rfl : f = 6 := Option.some.inj ((show Tryd.prog.funcNamed "gannet/gannetlaw25.StateSets" = some 6 by kernel_rfl).symm.trans hf) |>.symm
      obtain rfl : fn = Tryd.f6 := (Option.some.inj (Tryd.func6.symm.trans hfn)).symm
      exact ⟨by kernel_rfl, fun j t ht => by
        rw [Tryd.params6] at ht
        have hm : t ∈ [25, 9, 22] := by simpa using Array.mem_of_getElem? ht
        have hall : ([25, 9, 22].all fun u => !Tryd.prog.wantsStandIn u) = true := by kernel_rfl
        exact (show Tryd.prog.wantsStandIn t = false by simpa using List.all_eq_true.1 hall t hm)⟩)
    (by kernel_rfl)
#print axioms proved
end Go.Proofs.YtnnfnjbfjgjgnaaDoor.stateSets
