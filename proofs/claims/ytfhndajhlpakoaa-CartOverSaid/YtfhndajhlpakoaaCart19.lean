/-
  CartOver's walk, up to its cut.
-/
import Derived.Test.YtfhndajhlpakoaaCart17
import Derived.Test.YtfhndajhlpakoaaCart18
import Derived.Test.YtfhndajhlpakoaaCart11
import Derived.Test.YtfhndajhlpakoaaG14
import Derived.IntWalk
import Derived.Deep.Cut
import Derived.Deep.CutRange
import Derived.Deep.RegionHeld3
import Derived.Deep.DrawnRows
namespace Go.Proofs.Ytfhndajhlpakoaa
open Go.RowKit

set_option linter.unusedVariables false
set_option maxRecDepth 100000 in
set_option maxHeartbeats 100000000 in
theorem over_walk {W : World} (A : Option Addr) (m c : Nat) (ps : Nat → Pc) (hmc : m ≤ c) (hc : c ≤ maxLen) (R : PRow W A m ps) (p : Pc) (hp : PcOk W p) :
    Calls Try.prog 3 #[.slice A m c, .agg #[.int .i64 p.at_, .slice p.A p.n p.c]] W fun e w' => e = .returned (.bool true) ∧ Below W.heap.size W w' := by
  have HM := Lib.hid (show m ≤ maxLen by omega)
  clear hc hmc
  have hV0 := Blk.new W 25 #[.int .i64 p.at_, .slice p.A p.n p.c]
  have hB0 : Below W.heap.size W (W.alloc (.cells #[.int .i64 p.at_, .slice p.A p.n p.c] 25)) := (Below.refl _ _).alloc (Nat.le_refl _) _
  have R0 := R.keep hB0
  have hp0 := hp.keep hB0
  go_enter Try.func3, Try.ntmps3
  go_wp2_with fail
  refine (live04_any _).mono ?_
  rintro e w1 ⟨rfl, hb1⟩
  have R1 := R0.keep hb1
  have hp1 := hp0.keep hb1
  have hV1 := hV0.below hb1 hV0.lt
  have hB1 := hB0.trans (hb1.mono hB0.size)
  have v0 := hV1.cell 0
  have v1 := hV1.cell 1
  simp only [List.getElem?_toArray, List.getElem?_cons_zero, List.getElem?_cons_succ] at v0 v1
  clear hb1 R R0 hp hp0 hV0 hB0
  rcases Bool.eq_false_or_eq_true (smallB ps m) with hs | hs
  · have HS := Lib.hid hs
    clear hs
    by_cases hpn : p.n ≤ 20000
    · have i1 : ¬ (20000 : Int) < (p.n : Int) := by omega
      have hm : m ≤ 20 := by
        have h := HS.out
        unfold smallB at h
        rw [Bool.and_eq_true] at h
        exact of_decide_eq_true h.1
      have MK := Lib.hid (make_any 2 16384 A m c ps w1 (by kernel_rfl) (by omega) HM.out R1)
      go_wp2_with (go_at_call 12; refine (asV (small_any A m c ps HM.out R1) (by rw [HS.out])).mono ?_; rintro e w' ⟨rfl, rfl⟩)
      refine MK.out.mono ?_
      clear MK
      rintro e w3 ⟨hb3, hres⟩
      have R3 := R1.keep hb3
      have hp3 := hp1.keep hb3
      have hV3 := hV1.below hb3 hV1.lt
      have hB3 := hB1.trans (hb3.mono hB1.size)
      obtain ⟨av, fe, fa, rfl, HRES⟩ : ∃ (av : Value) (fe fa : Int), e = .returned (.tuple #[av, .agg #[.int .i64 fe, .int .i64 fa]]) ∧ Hid ((∃ j, j < m ∧ ¬ good 16384 (ps j) ∧ (∀ i, i < j → good 16384 (ps i)) ∧ av = .slice none 0 0 ∧ fe = 1 ∧ fa = j) ∨ ((∀ i, i < m → good 16384 (ps i)) ∧ fe = 0 ∧ fa = 0 ∧ ∃ g C, av = .slice (some ⟨g, 0, none⟩) 16384 16384 ∧ Blk w3 g 5 (List.toArray C) ∧ BArr C 16384 (laid ps m))) := by
        rcases hres with ⟨j, hj, hbad, hgd, rfl⟩ | ⟨hall, g, C, rfl, hg, hG, hA⟩
        · exact ⟨_, _, _, rfl, Lib.hid (Or.inl ⟨j, hj, hbad, hgd, rfl, rfl, rfl⟩)⟩
        · exact ⟨_, _, _, rfl, Lib.hid (Or.inr ⟨hall, rfl, rfl, g, C, rfl, hG, hA⟩)⟩
      clear hres hb3 R1 hp1 hV1
      have hF3 := Blk.new w3 30 #[.int .i64 fe, .int .i64 fa]
      go_upto_region 6 with fail
      go_cut [7, 8] from 27 to 102 (fun b f wx => OverR (w3.alloc (.cells #[.int .i64 fe, .int .i64 fa] 30)).drew (fun i => if i < m then ps i else p) (m + 1) b f wx)
      case first =>
        have hB4 := hB3.alloc hB3.size (.cells #[.int .i64 fe, .int .i64 fa] 30)
        have R4 : PRow (w3.alloc (.cells #[.int .i64 fe, .int .i64 fa] 30)) A m ps := R3.keep ((Below.refl _ _).alloc (Nat.le_refl _) _)
        have hV4 := hV3.alloc (.cells #[.int .i64 fe, .int .i64 fa] 30)
        have v0 := hV4.cell 0
        have v1 := hV4.cell 1
        simp only [List.getElem?_toArray, List.getElem?_cons_zero, List.getElem?_cons_succ] at v0 v1
        have hp4 : PcOk (w3.alloc (.cells #[.int .i64 fe, .int .i64 fa] 30)) p := hp3.keep ((Below.refl _ _).alloc (Nat.le_refl _) _)
        have lW := hB4.size
        have lW1 := hV4.lt
        clear hV3 R3 hB3 hF3
        generalize hw4 : w3.alloc (.cells #[.int .i64 fe, .int .i64 fa] 30) = w4 at *
        have n1 := World.new_ne w4 _ v0
        have RR : Hid (PRow w4.drew A m ps) := Lib.hid R4
        have HM6 : Hid (m ≤ 1048576) := Lib.hid (by omega)
        have HM7 : Hid (m + 1 ≤ maxLen) := Lib.hid (by unfold maxLen; omega)
        have PQ : Hid (∀ i, i < m + 1 → PcOk w4.drew ((fun i => if i < m then ps i else p) i)) := Lib.hid (fun i hi => by
          by_cases h : i < m
          · obtain ⟨_, _, _, _, _, hp⟩ := R4 i h
            simp only [if_pos h]; exact hp
          · simp only [if_neg h]; exact hp4)
        have hV4d : Blk w4.drew W.heap.size 25 #[.int .i64 p.at_, .slice p.A p.n p.c] := hV4
        refine rg_begin (S := fun w' => Below w4.drew.heap.size w4.drew w') 13 #[false,false,false,false,false,false,false,false,false,false,false,false,false] (by kernel_rfl) (by kernel_rfl) (by kernel_rfl) ?_ (fun hHeld => ?_)
        · exact Below.refl _ _
        · have sx := Sx.start (p := p) hHeld
          generalize hwD : w4.drew = wD at RR PQ hV4d hHeld sx ⊢
          refine rg_take (i := 1) (d := some 29) (l := #[false, true, false, false, false, false, false, false, false, false, false, false, false]) (fuel := 12) (v := ?_) rfl (by kernel_rfl) (by kernel_rfl) (by kernel_rfl) (by kernel_rfl) (by kernel_rfl) (fun _ _ _ h => h) (by kernel_rfl) ?_ (by assumption) ?_
          rotate_left 1
          · (intro wS hSw; (try dsimp only at hSw); go_simp; try with_reducible rfl)
          try simp only [Act.put, List.setIfInBounds_toArray, List.set_cons_zero, List.set_cons_succ]
          refine rg_take (i := 3) (d := some 31) (l := #[false, true, false, true, false, false, false, false, false, false, false, false, false]) (fuel := 11) (v := .agg #[.int .i64 p.at_, .slice p.A p.n p.c]) rfl (by kernel_rfl) (by kernel_rfl) (by kernel_rfl) (by kernel_rfl) (by kernel_rfl) (fun _ _ _ h => h) (by kernel_rfl) ?_ (by assumption) ?_
          · (intro wS hSw; exact exec_load_row 25 (.tmp 3) rfl W.heap.size rfl 25 _ (0, 0) _ (hV4d.below hSw hV4d.lt) Try.underlying25 rfl (by kernel_rfl))
          try simp only [Act.put, List.setIfInBounds_toArray, List.set_cons_zero, List.set_cons_succ]
          refine rg_of (rs := [0, 4, 10]) (fuel := 10) (by kernel_rfl) rfl ?_
          refine rg_step (i := 0) (l := #[true, true, false, true, false, false, false, false, false, false, false, false, false]) rfl (by kernel_rfl) (by kernel_rfl) ?_ ?_
          · intro K hK
            go_simp
            go_wp2_with fail
            refine hK.out _ _ (sx.rowed).bx (fun hHeld => ?_)
            replace sx := sx.rowed
            clear hK K
            try simp only [Act.put, List.setIfInBounds_toArray, List.set_cons_zero, List.set_cons_succ]
            generalize World.alloc _ _ = wN at sx hHeld ⊢
            refine rg_of (rs := [2, 4, 10]) (fuel := 9) (by kernel_rfl) rfl ?_
            refine rg_step (i := 2) (l := #[true, true, true, true, false, false, false, false, false, false, false, false, false]) rfl (by kernel_rfl) (by kernel_rfl) ?_ ?_
            · intro K hK
              obtain ⟨vN, wN, run, sx2⟩ := sx.app1 (ty := 22) (c := c) RR.out HM6.out
              refine wp_append_any (.tmp 28) (.tmp 29) 22 rfl rfl rfl run ?_
              refine hK.out _ _ sx2.bx (fun hHeld => ?_)
              clear hK K run sx
              have sx := sx2
              clear sx2
              try simp only [Act.put, List.setIfInBounds_toArray, List.set_cons_zero, List.set_cons_succ]
              refine rg_of (rs := [4, 10]) (fuel := 8) (by kernel_rfl) rfl ?_
              refine rg_step (i := 4) (l := #[true, true, true, true, true, false, false, false, false, false, false, false, false]) rfl (by kernel_rfl) (by kernel_rfl) ?_ ?_
              · intro K hK
                go_simp
                go_wp2_with fail
                refine hK.out _ _ (sx.box).bx (fun hHeld => ?_)
                replace sx := sx.box
                clear hK K
                try simp only [Act.put, List.setIfInBounds_toArray, List.set_cons_zero, List.set_cons_succ]
                generalize World.alloc _ _ = wN at sx hHeld ⊢
                refine rg_of (rs := [5, 10]) (fuel := 7) (by kernel_rfl) rfl ?_
                refine rg_step (i := 5) (l := #[true, true, true, true, true, true, false, false, false, false, false, false, false]) rfl (by kernel_rfl) (by kernel_rfl) ?_ ?_
                · intro K hK
                  obtain ⟨vN, wN, run, sx2⟩ := sx.app2 (ty := 22) (c := 1) HM6.out
                  refine wp_append_any (.tmp 30) (.tmp 32) 22 rfl rfl rfl run ?_
                  refine hK.out _ _ sx2.bx (fun hHeld => ?_)
                  clear hK K run sx
                  have sx := sx2
                  clear sx2
                  try simp only [Act.put, List.setIfInBounds_toArray, List.set_cons_zero, List.set_cons_succ]
                  refine rg_of (rs := [6, 10]) (fuel := 6) (by kernel_rfl) rfl ?_
                  refine rg_step (i := 6) (l := #[true, true, true, true, true, true, true, false, false, false, false, false, false]) rfl (by kernel_rfl) (by kernel_rfl) ?_ ?_
                  · intro K hK
                    obtain ⟨Ap, cap, rfl, PR⟩ := sx.pieces PQ.out
                    go_simp
                    go_at_call 13
                    refine (make_any 2 16384 Ap (m + 1) cap _ _ (by kernel_rfl) (by omega) HM7.out PR).mono ?_
                    rintro e wN hres
                    obtain ⟨bv, ge, ga, rfl, HR⟩ := made_of hres
                    have hb := hres.1
                    clear PR hres
                    have sx2 := sx.call hb
                    clear hb sx
                    first | (refine hK.out _ _ sx2.bx (fun hHeld => ?_)) | (go_wp2_with fail; refine hK.out _ _ sx2.bx (fun hHeld => ?_))
                    clear hK K
                    have sx := sx2
                    clear sx2
                    try simp only [Act.put, List.setIfInBounds_toArray, List.set_cons_zero, List.set_cons_succ]
                    refine rg_take (i := 7) (d := some 27) (l := #[true, true, true, true, true, true, true, true, false, false, false, false, false]) (fuel := 5) (v := ?_) rfl (by kernel_rfl) (by kernel_rfl) (by kernel_rfl) (by kernel_rfl) (by kernel_rfl) (fun _ _ _ h => h) (by kernel_rfl) ?_ (by assumption) ?_
                    rotate_left 1
                    · (intro wS hSw; (try dsimp only at hSw); go_simp; try with_reducible rfl)
                    try simp only [Act.put, List.setIfInBounds_toArray, List.set_cons_zero, List.set_cons_succ]
                    refine rg_take (i := 8) (d := some 35) (l := #[true, true, true, true, true, true, true, true, true, false, false, false, false]) (fuel := 4) (v := ?_) rfl (by kernel_rfl) (by kernel_rfl) (by kernel_rfl) (by kernel_rfl) (by kernel_rfl) (fun _ _ _ h => h) (by kernel_rfl) ?_ (by assumption) ?_
                    rotate_left 1
                    · (intro wS hSw; (try dsimp only at hSw); go_simp; try with_reducible rfl)
                    try simp only [Act.put, List.setIfInBounds_toArray, List.set_cons_zero, List.set_cons_succ]
                    refine rg_take (i := 9) (d := some 36) (l := #[true, true, true, true, true, true, true, true, true, true, false, false, false]) (fuel := 3) (v := ?_) rfl (by kernel_rfl) (by kernel_rfl) (by kernel_rfl) (by kernel_rfl) (by kernel_rfl) (fun _ _ _ h => h) (by kernel_rfl) ?_ (by assumption) ?_
                    rotate_left 1
                    · (intro wS hSw; (try dsimp only at hSw); go_simp; try with_reducible rfl)
                    try simp only [Act.put, List.setIfInBounds_toArray, List.set_cons_zero, List.set_cons_succ]
                    refine rg_of (rs := [10]) (fuel := 2) (by kernel_rfl) rfl ?_
                    refine rg_step (i := 10) (l := #[true, true, true, true, true, true, true, true, true, true, true, false, false]) rfl (by kernel_rfl) (by kernel_rfl) ?_ ?_
                    · intro K hK
                      go_simp
                      go_wp2_with fail
                      refine hK.out _ _ (sx.fault).bx (fun hHeld => ?_)
                      replace sx := sx.fault
                      clear hK K
                      replace HR := Lib.hid (HR.out.alloc (.cells #[.int .i64 0, .int .i64 0] 30))
                      try simp only [Act.put, List.setIfInBounds_toArray, List.set_cons_zero, List.set_cons_succ]
                      generalize World.alloc _ _ = wN at sx hHeld HR ⊢
                      refine rg_take (i := 11) (d := some 7) (l := #[true, true, true, true, true, true, true, true, true, true, true, true, false]) (fuel := 1) (v := ?_) rfl (by kernel_rfl) (by kernel_rfl) (by kernel_rfl) (by kernel_rfl) (by kernel_rfl) (fun _ _ _ h => h) (by kernel_rfl) ?_ (by assumption) ?_
                      rotate_left 1
                      · (intro wS hSw; (try dsimp only at hSw); go_simp; try with_reducible rfl)
                      try simp only [Act.put, List.setIfInBounds_toArray, List.set_cons_zero, List.set_cons_succ]
                      refine rg_of (rs := [12]) (fuel := 0) (by kernel_rfl) rfl ?_
                      refine rg_step (i := 12) (l := #[true, true, true, true, true, true, true, true, true, true, true, true, true]) rfl (by kernel_rfl) (by kernel_rfl) ?_ AllReadyH.nil
                      intro K hK
                      have QF := (sx.flt _ rfl).1
                      have f0 := QF.cell 0
                      have f1 := QF.cell 1
                      have z0 := QF.frozen 0
                      have z1 := QF.frozen 1
                      simp only [List.getElem?_toArray, List.getElem?_cons_zero, List.getElem?_cons_succ] at f0 f1
                      go_simp
                      go_wp2_with fail
                      have ST := Lib.hid (sx.stored HR.out)
                      refine hK.out _ _ ST.out.1 (fun hHeld => ?_)
                      clear hK HR QF f0 f1 z0 z1 sx
                      refine wpAnyH_done (by kernel_rfl) ?_ _
                      go_wp2_with fail
                      go_meet
                      case rel => exact ⟨_, ge, ga, rfl, by rw [hwD]; exact ST.out⟩
                    exact AllReadyH.nil
                  refine rg_step (i := 10) (l := #[true, true, true, true, true, true, false, false, false, false, true, false, false]) rfl (by kernel_rfl) (by kernel_rfl) ?_ ?_
                  · intro K hK
                    go_simp
                    go_wp2_with fail
                    refine hK.out _ _ (sx.fault).bx (fun hHeld => ?_)
                    replace sx := sx.fault
                    clear hK K
                    try simp only [Act.put, List.setIfInBounds_toArray, List.set_cons_zero, List.set_cons_succ]
                    generalize World.alloc _ _ = wN at sx hHeld ⊢
                    refine rg_of (rs := [6]) (fuel := 5) (by kernel_rfl) rfl ?_
                    refine rg_step (i := 6) (l := #[true, true, true, true, true, true, true, false, false, false, true, false, false]) rfl (by kernel_rfl) (by kernel_rfl) ?_ ?_
                    · intro K hK
                      obtain ⟨Ap, cap, rfl, PR⟩ := sx.pieces PQ.out
                      go_simp
                      go_at_call 13
                      refine (make_any 2 16384 Ap (m + 1) cap _ _ (by kernel_rfl) (by omega) HM7.out PR).mono ?_
                      rintro e wN hres
                      obtain ⟨bv, ge, ga, rfl, HR⟩ := made_of hres
                      have hb := hres.1
                      clear PR hres
                      have sx2 := sx.call hb
                      clear hb sx
                      first | (refine hK.out _ _ sx2.bx (fun hHeld => ?_)) | (go_wp2_with fail; refine hK.out _ _ sx2.bx (fun hHeld => ?_))
                      clear hK K
                      have sx := sx2
                      clear sx2
                      try simp only [Act.put, List.setIfInBounds_toArray, List.set_cons_zero, List.set_cons_succ]
                      refine rg_take (i := 7) (d := some 27) (l := #[true, true, true, true, true, true, true, true, false, false, true, false, false]) (fuel := 4) (v := ?_) rfl (by kernel_rfl) (by kernel_rfl) (by kernel_rfl) (by kernel_rfl) (by kernel_rfl) (fun _ _ _ h => h) (by kernel_rfl) ?_ (by assumption) ?_
                      rotate_left 1
                      · (intro wS hSw; (try dsimp only at hSw); go_simp; try with_reducible rfl)
                      try simp only [Act.put, List.setIfInBounds_toArray, List.set_cons_zero, List.set_cons_succ]
                      refine rg_take (i := 8) (d := some 35) (l := #[true, true, true, true, true, true, true, true, true, false, true, false, false]) (fuel := 3) (v := ?_) rfl (by kernel_rfl) (by kernel_rfl) (by kernel_rfl) (by kernel_rfl) (by kernel_rfl) (fun _ _ _ h => h) (by kernel_rfl) ?_ (by assumption) ?_
                      rotate_left 1
                      · (intro wS hSw; (try dsimp only at hSw); go_simp; try with_reducible rfl)
                      try simp only [Act.put, List.setIfInBounds_toArray, List.set_cons_zero, List.set_cons_succ]
                      refine rg_take (i := 9) (d := some 36) (l := #[true, true, true, true, true, true, true, true, true, true, true, false, false]) (fuel := 2) (v := ?_) rfl (by kernel_rfl) (by kernel_rfl) (by kernel_rfl) (by kernel_rfl) (by kernel_rfl) (fun _ _ _ h => h) (by kernel_rfl) ?_ (by assumption) ?_
                      rotate_left 1
                      · (intro wS hSw; (try dsimp only at hSw); go_simp; try with_reducible rfl)
                      try simp only [Act.put, List.setIfInBounds_toArray, List.set_cons_zero, List.set_cons_succ]
                      refine rg_take (i := 11) (d := some 7) (l := #[true, true, true, true, true, true, true, true, true, true, true, true, false]) (fuel := 1) (v := ?_) rfl (by kernel_rfl) (by kernel_rfl) (by kernel_rfl) (by kernel_rfl) (by kernel_rfl) (fun _ _ _ h => h) (by kernel_rfl) ?_ (by assumption) ?_
                      rotate_left 1
                      · (intro wS hSw; (try dsimp only at hSw); go_simp; try with_reducible rfl)
                      try simp only [Act.put, List.setIfInBounds_toArray, List.set_cons_zero, List.set_cons_succ]
                      refine rg_of (rs := [12]) (fuel := 0) (by kernel_rfl) rfl ?_
                      refine rg_step (i := 12) (l := #[true, true, true, true, true, true, true, true, true, true, true, true, true]) rfl (by kernel_rfl) (by kernel_rfl) ?_ AllReadyH.nil
                      intro K hK
                      have QF := (sx.flt _ rfl).1
                      have f0 := QF.cell 0
                      have f1 := QF.cell 1
                      have z0 := QF.frozen 0
                      have z1 := QF.frozen 1
                      simp only [List.getElem?_toArray, List.getElem?_cons_zero, List.getElem?_cons_succ] at f0 f1
                      go_simp
                      go_wp2_with fail
                      have ST := Lib.hid (sx.stored HR.out)
                      refine hK.out _ _ ST.out.1 (fun hHeld => ?_)
                      clear hK HR QF f0 f1 z0 z1 sx
                      refine wpAnyH_done (by kernel_rfl) ?_ _
                      go_wp2_with fail
                      go_meet
                      case rel => exact ⟨_, ge, ga, rfl, by rw [hwD]; exact ST.out⟩
                    exact AllReadyH.nil
                  exact AllReadyH.nil
                refine rg_step (i := 10) (l := #[true, true, true, true, true, false, false, false, false, false, true, false, false]) rfl (by kernel_rfl) (by kernel_rfl) ?_ ?_
                · intro K hK
                  go_simp
                  go_wp2_with fail
                  refine hK.out _ _ (sx.fault).bx (fun hHeld => ?_)
                  replace sx := sx.fault
                  clear hK K
                  try simp only [Act.put, List.setIfInBounds_toArray, List.set_cons_zero, List.set_cons_succ]
                  generalize World.alloc _ _ = wN at sx hHeld ⊢
                  refine rg_of (rs := [5]) (fuel := 6) (by kernel_rfl) rfl ?_
                  refine rg_step (i := 5) (l := #[true, true, true, true, true, true, false, false, false, false, true, false, false]) rfl (by kernel_rfl) (by kernel_rfl) ?_ ?_
                  · intro K hK
                    obtain ⟨vN, wN, run, sx2⟩ := sx.app2 (ty := 22) (c := 1) HM6.out
                    refine wp_append_any (.tmp 30) (.tmp 32) 22 rfl rfl rfl run ?_
                    refine hK.out _ _ sx2.bx (fun hHeld => ?_)
                    clear hK K run sx
                    have sx := sx2
                    clear sx2
                    try simp only [Act.put, List.setIfInBounds_toArray, List.set_cons_zero, List.set_cons_succ]
                    refine rg_of (rs := [6]) (fuel := 5) (by kernel_rfl) rfl ?_
                    refine rg_step (i := 6) (l := #[true, true, true, true, true, true, true, false, false, false, true, false, false]) rfl (by kernel_rfl) (by kernel_rfl) ?_ ?_
                    · intro K hK
                      obtain ⟨Ap, cap, rfl, PR⟩ := sx.pieces PQ.out
                      go_simp
                      go_at_call 13
                      refine (make_any 2 16384 Ap (m + 1) cap _ _ (by kernel_rfl) (by omega) HM7.out PR).mono ?_
                      rintro e wN hres
                      obtain ⟨bv, ge, ga, rfl, HR⟩ := made_of hres
                      have hb := hres.1
                      clear PR hres
                      have sx2 := sx.call hb
                      clear hb sx
                      first | (refine hK.out _ _ sx2.bx (fun hHeld => ?_)) | (go_wp2_with fail; refine hK.out _ _ sx2.bx (fun hHeld => ?_))
                      clear hK K
                      have sx := sx2
                      clear sx2
                      try simp only [Act.put, List.setIfInBounds_toArray, List.set_cons_zero, List.set_cons_succ]
                      refine rg_take (i := 7) (d := some 27) (l := #[true, true, true, true, true, true, true, true, false, false, true, false, false]) (fuel := 4) (v := ?_) rfl (by kernel_rfl) (by kernel_rfl) (by kernel_rfl) (by kernel_rfl) (by kernel_rfl) (fun _ _ _ h => h) (by kernel_rfl) ?_ (by assumption) ?_
                      rotate_left 1
                      · (intro wS hSw; (try dsimp only at hSw); go_simp; try with_reducible rfl)
                      try simp only [Act.put, List.setIfInBounds_toArray, List.set_cons_zero, List.set_cons_succ]
                      refine rg_take (i := 8) (d := some 35) (l := #[true, true, true, true, true, true, true, true, true, false, true, false, false]) (fuel := 3) (v := ?_) rfl (by kernel_rfl) (by kernel_rfl) (by kernel_rfl) (by kernel_rfl) (by kernel_rfl) (fun _ _ _ h => h) (by kernel_rfl) ?_ (by assumption) ?_
                      rotate_left 1
                      · (intro wS hSw; (try dsimp only at hSw); go_simp; try with_reducible rfl)
                      try simp only [Act.put, List.setIfInBounds_toArray, List.set_cons_zero, List.set_cons_succ]
                      refine rg_take (i := 9) (d := some 36) (l := #[true, true, true, true, true, true, true, true, true, true, true, false, false]) (fuel := 2) (v := ?_) rfl (by kernel_rfl) (by kernel_rfl) (by kernel_rfl) (by kernel_rfl) (by kernel_rfl) (fun _ _ _ h => h) (by kernel_rfl) ?_ (by assumption) ?_
                      rotate_left 1
                      · (intro wS hSw; (try dsimp only at hSw); go_simp; try with_reducible rfl)
                      try simp only [Act.put, List.setIfInBounds_toArray, List.set_cons_zero, List.set_cons_succ]
                      refine rg_take (i := 11) (d := some 7) (l := #[true, true, true, true, true, true, true, true, true, true, true, true, false]) (fuel := 1) (v := ?_) rfl (by kernel_rfl) (by kernel_rfl) (by kernel_rfl) (by kernel_rfl) (by kernel_rfl) (fun _ _ _ h => h) (by kernel_rfl) ?_ (by assumption) ?_
                      rotate_left 1
                      · (intro wS hSw; (try dsimp only at hSw); go_simp; try with_reducible rfl)
                      try simp only [Act.put, List.setIfInBounds_toArray, List.set_cons_zero, List.set_cons_succ]
                      refine rg_of (rs := [12]) (fuel := 0) (by kernel_rfl) rfl ?_
                      refine rg_step (i := 12) (l := #[true, true, true, true, true, true, true, true, true, true, true, true, true]) rfl (by kernel_rfl) (by kernel_rfl) ?_ AllReadyH.nil
                      intro K hK
                      have QF := (sx.flt _ rfl).1
                      have f0 := QF.cell 0
                      have f1 := QF.cell 1
                      have z0 := QF.frozen 0
                      have z1 := QF.frozen 1
                      simp only [List.getElem?_toArray, List.getElem?_cons_zero, List.getElem?_cons_succ] at f0 f1
                      go_simp
                      go_wp2_with fail
                      have ST := Lib.hid (sx.stored HR.out)
                      refine hK.out _ _ ST.out.1 (fun hHeld => ?_)
                      clear hK HR QF f0 f1 z0 z1 sx
                      refine wpAnyH_done (by kernel_rfl) ?_ _
                      go_wp2_with fail
                      go_meet
                      case rel => exact ⟨_, ge, ga, rfl, by rw [hwD]; exact ST.out⟩
                    exact AllReadyH.nil
                  exact AllReadyH.nil
                exact AllReadyH.nil
              refine rg_step (i := 10) (l := #[true, true, true, true, false, false, false, false, false, false, true, false, false]) rfl (by kernel_rfl) (by kernel_rfl) ?_ ?_
              · intro K hK
                go_simp
                go_wp2_with fail
                refine hK.out _ _ (sx.fault).bx (fun hHeld => ?_)
                replace sx := sx.fault
                clear hK K
                try simp only [Act.put, List.setIfInBounds_toArray, List.set_cons_zero, List.set_cons_succ]
                generalize World.alloc _ _ = wN at sx hHeld ⊢
                refine rg_of (rs := [4]) (fuel := 7) (by kernel_rfl) rfl ?_
                refine rg_step (i := 4) (l := #[true, true, true, true, true, false, false, false, false, false, true, false, false]) rfl (by kernel_rfl) (by kernel_rfl) ?_ ?_
                · intro K hK
                  go_simp
                  go_wp2_with fail
                  refine hK.out _ _ (sx.box).bx (fun hHeld => ?_)
                  replace sx := sx.box
                  clear hK K
                  try simp only [Act.put, List.setIfInBounds_toArray, List.set_cons_zero, List.set_cons_succ]
                  generalize World.alloc _ _ = wN at sx hHeld ⊢
                  refine rg_of (rs := [5]) (fuel := 6) (by kernel_rfl) rfl ?_
                  refine rg_step (i := 5) (l := #[true, true, true, true, true, true, false, false, false, false, true, false, false]) rfl (by kernel_rfl) (by kernel_rfl) ?_ ?_
                  · intro K hK
                    obtain ⟨vN, wN, run, sx2⟩ := sx.app2 (ty := 22) (c := 1) HM6.out
                    refine wp_append_any (.tmp 30) (.tmp 32) 22 rfl rfl rfl run ?_
                    refine hK.out _ _ sx2.bx (fun hHeld => ?_)
                    clear hK K run sx
                    have sx := sx2
                    clear sx2
                    try simp only [Act.put, List.setIfInBounds_toArray, List.set_cons_zero, List.set_cons_succ]
                    refine rg_of (rs := [6]) (fuel := 5) (by kernel_rfl) rfl ?_
                    refine rg_step (i := 6) (l := #[true, true, true, true, true, true, true, false, false, false, true, false, false]) rfl (by kernel_rfl) (by kernel_rfl) ?_ ?_
                    · intro K hK
                      obtain ⟨Ap, cap, rfl, PR⟩ := sx.pieces PQ.out
                      go_simp
                      go_at_call 13
                      refine (make_any 2 16384 Ap (m + 1) cap _ _ (by kernel_rfl) (by omega) HM7.out PR).mono ?_
                      rintro e wN hres
                      obtain ⟨bv, ge, ga, rfl, HR⟩ := made_of hres
                      have hb := hres.1
                      clear PR hres
                      have sx2 := sx.call hb
                      clear hb sx
                      first | (refine hK.out _ _ sx2.bx (fun hHeld => ?_)) | (go_wp2_with fail; refine hK.out _ _ sx2.bx (fun hHeld => ?_))
                      clear hK K
                      have sx := sx2
                      clear sx2
                      try simp only [Act.put, List.setIfInBounds_toArray, List.set_cons_zero, List.set_cons_succ]
                      refine rg_take (i := 7) (d := some 27) (l := #[true, true, true, true, true, true, true, true, false, false, true, false, false]) (fuel := 4) (v := ?_) rfl (by kernel_rfl) (by kernel_rfl) (by kernel_rfl) (by kernel_rfl) (by kernel_rfl) (fun _ _ _ h => h) (by kernel_rfl) ?_ (by assumption) ?_
                      rotate_left 1
                      · (intro wS hSw; (try dsimp only at hSw); go_simp; try with_reducible rfl)
                      try simp only [Act.put, List.setIfInBounds_toArray, List.set_cons_zero, List.set_cons_succ]
                      refine rg_take (i := 8) (d := some 35) (l := #[true, true, true, true, true, true, true, true, true, false, true, false, false]) (fuel := 3) (v := ?_) rfl (by kernel_rfl) (by kernel_rfl) (by kernel_rfl) (by kernel_rfl) (by kernel_rfl) (fun _ _ _ h => h) (by kernel_rfl) ?_ (by assumption) ?_
                      rotate_left 1
                      · (intro wS hSw; (try dsimp only at hSw); go_simp; try with_reducible rfl)
                      try simp only [Act.put, List.setIfInBounds_toArray, List.set_cons_zero, List.set_cons_succ]
                      refine rg_take (i := 9) (d := some 36) (l := #[true, true, true, true, true, true, true, true, true, true, true, false, false]) (fuel := 2) (v := ?_) rfl (by kernel_rfl) (by kernel_rfl) (by kernel_rfl) (by kernel_rfl) (by kernel_rfl) (fun _ _ _ h => h) (by kernel_rfl) ?_ (by assumption) ?_
                      rotate_left 1
                      · (intro wS hSw; (try dsimp only at hSw); go_simp; try with_reducible rfl)
                      try simp only [Act.put, List.setIfInBounds_toArray, List.set_cons_zero, List.set_cons_succ]
                      refine rg_take (i := 11) (d := some 7) (l := #[true, true, true, true, true, true, true, true, true, true, true, true, false]) (fuel := 1) (v := ?_) rfl (by kernel_rfl) (by kernel_rfl) (by kernel_rfl) (by kernel_rfl) (by kernel_rfl) (fun _ _ _ h => h) (by kernel_rfl) ?_ (by assumption) ?_
                      rotate_left 1
                      · (intro wS hSw; (try dsimp only at hSw); go_simp; try with_reducible rfl)
                      try simp only [Act.put, List.setIfInBounds_toArray, List.set_cons_zero, List.set_cons_succ]
                      refine rg_of (rs := [12]) (fuel := 0) (by kernel_rfl) rfl ?_
                      refine rg_step (i := 12) (l := #[true, true, true, true, true, true, true, true, true, true, true, true, true]) rfl (by kernel_rfl) (by kernel_rfl) ?_ AllReadyH.nil
                      intro K hK
                      have QF := (sx.flt _ rfl).1
                      have f0 := QF.cell 0
                      have f1 := QF.cell 1
                      have z0 := QF.frozen 0
                      have z1 := QF.frozen 1
                      simp only [List.getElem?_toArray, List.getElem?_cons_zero, List.getElem?_cons_succ] at f0 f1
                      go_simp
                      go_wp2_with fail
                      have ST := Lib.hid (sx.stored HR.out)
                      refine hK.out _ _ ST.out.1 (fun hHeld => ?_)
                      clear hK HR QF f0 f1 z0 z1 sx
                      refine wpAnyH_done (by kernel_rfl) ?_ _
                      go_wp2_with fail
                      go_meet
                      case rel => exact ⟨_, ge, ga, rfl, by rw [hwD]; exact ST.out⟩
                    exact AllReadyH.nil
                  exact AllReadyH.nil
                exact AllReadyH.nil
              exact AllReadyH.nil
            refine rg_step (i := 4) (l := #[true, true, false, true, true, false, false, false, false, false, false, false, false]) rfl (by kernel_rfl) (by kernel_rfl) ?_ ?_
            · intro K hK
              go_simp
              go_wp2_with fail
              refine hK.out _ _ (sx.box).bx (fun hHeld => ?_)
              replace sx := sx.box
              clear hK K
              try simp only [Act.put, List.setIfInBounds_toArray, List.set_cons_zero, List.set_cons_succ]
              generalize World.alloc _ _ = wN at sx hHeld ⊢
              refine rg_of (rs := [2, 10]) (fuel := 8) (by kernel_rfl) rfl ?_
              refine rg_step (i := 2) (l := #[true, true, true, true, true, false, false, false, false, false, false, false, false]) rfl (by kernel_rfl) (by kernel_rfl) ?_ ?_
              · intro K hK
                obtain ⟨vN, wN, run, sx2⟩ := sx.app1 (ty := 22) (c := c) RR.out HM6.out
                refine wp_append_any (.tmp 28) (.tmp 29) 22 rfl rfl rfl run ?_
                refine hK.out _ _ sx2.bx (fun hHeld => ?_)
                clear hK K run sx
                have sx := sx2
                clear sx2
                try simp only [Act.put, List.setIfInBounds_toArray, List.set_cons_zero, List.set_cons_succ]
                refine rg_of (rs := [5, 10]) (fuel := 7) (by kernel_rfl) rfl ?_
                refine rg_step (i := 5) (l := #[true, true, true, true, true, true, false, false, false, false, false, false, false]) rfl (by kernel_rfl) (by kernel_rfl) ?_ ?_
                · intro K hK
                  obtain ⟨vN, wN, run, sx2⟩ := sx.app2 (ty := 22) (c := 1) HM6.out
                  refine wp_append_any (.tmp 30) (.tmp 32) 22 rfl rfl rfl run ?_
                  refine hK.out _ _ sx2.bx (fun hHeld => ?_)
                  clear hK K run sx
                  have sx := sx2
                  clear sx2
                  try simp only [Act.put, List.setIfInBounds_toArray, List.set_cons_zero, List.set_cons_succ]
                  refine rg_of (rs := [6, 10]) (fuel := 6) (by kernel_rfl) rfl ?_
                  refine rg_step (i := 6) (l := #[true, true, true, true, true, true, true, false, false, false, false, false, false]) rfl (by kernel_rfl) (by kernel_rfl) ?_ ?_
                  · intro K hK
                    obtain ⟨Ap, cap, rfl, PR⟩ := sx.pieces PQ.out
                    go_simp
                    go_at_call 13
                    refine (make_any 2 16384 Ap (m + 1) cap _ _ (by kernel_rfl) (by omega) HM7.out PR).mono ?_
                    rintro e wN hres
                    obtain ⟨bv, ge, ga, rfl, HR⟩ := made_of hres
                    have hb := hres.1
                    clear PR hres
                    have sx2 := sx.call hb
                    clear hb sx
                    first | (refine hK.out _ _ sx2.bx (fun hHeld => ?_)) | (go_wp2_with fail; refine hK.out _ _ sx2.bx (fun hHeld => ?_))
                    clear hK K
                    have sx := sx2
                    clear sx2
                    try simp only [Act.put, List.setIfInBounds_toArray, List.set_cons_zero, List.set_cons_succ]
                    refine rg_take (i := 7) (d := some 27) (l := #[true, true, true, true, true, true, true, true, false, false, false, false, false]) (fuel := 5) (v := ?_) rfl (by kernel_rfl) (by kernel_rfl) (by kernel_rfl) (by kernel_rfl) (by kernel_rfl) (fun _ _ _ h => h) (by kernel_rfl) ?_ (by assumption) ?_
                    rotate_left 1
                    · (intro wS hSw; (try dsimp only at hSw); go_simp; try with_reducible rfl)
                    try simp only [Act.put, List.setIfInBounds_toArray, List.set_cons_zero, List.set_cons_succ]
                    refine rg_take (i := 8) (d := some 35) (l := #[true, true, true, true, true, true, true, true, true, false, false, false, false]) (fuel := 4) (v := ?_) rfl (by kernel_rfl) (by kernel_rfl) (by kernel_rfl) (by kernel_rfl) (by kernel_rfl) (fun _ _ _ h => h) (by kernel_rfl) ?_ (by assumption) ?_
                    rotate_left 1
                    · (intro wS hSw; (try dsimp only at hSw); go_simp; try with_reducible rfl)
                    try simp only [Act.put, List.setIfInBounds_toArray, List.set_cons_zero, List.set_cons_succ]
                    refine rg_take (i := 9) (d := some 36) (l := #[true, true, true, true, true, true, true, true, true, true, false, false, false]) (fuel := 3) (v := ?_) rfl (by kernel_rfl) (by kernel_rfl) (by kernel_rfl) (by kernel_rfl) (by kernel_rfl) (fun _ _ _ h => h) (by kernel_rfl) ?_ (by assumption) ?_
                    rotate_left 1
                    · (intro wS hSw; (try dsimp only at hSw); go_simp; try with_reducible rfl)
                    try simp only [Act.put, List.setIfInBounds_toArray, List.set_cons_zero, List.set_cons_succ]
                    refine rg_of (rs := [10]) (fuel := 2) (by kernel_rfl) rfl ?_
                    refine rg_step (i := 10) (l := #[true, true, true, true, true, true, true, true, true, true, true, false, false]) rfl (by kernel_rfl) (by kernel_rfl) ?_ ?_
                    · intro K hK
                      go_simp
                      go_wp2_with fail
                      refine hK.out _ _ (sx.fault).bx (fun hHeld => ?_)
                      replace sx := sx.fault
                      clear hK K
                      replace HR := Lib.hid (HR.out.alloc (.cells #[.int .i64 0, .int .i64 0] 30))
                      try simp only [Act.put, List.setIfInBounds_toArray, List.set_cons_zero, List.set_cons_succ]
                      generalize World.alloc _ _ = wN at sx hHeld HR ⊢
                      refine rg_take (i := 11) (d := some 7) (l := #[true, true, true, true, true, true, true, true, true, true, true, true, false]) (fuel := 1) (v := ?_) rfl (by kernel_rfl) (by kernel_rfl) (by kernel_rfl) (by kernel_rfl) (by kernel_rfl) (fun _ _ _ h => h) (by kernel_rfl) ?_ (by assumption) ?_
                      rotate_left 1
                      · (intro wS hSw; (try dsimp only at hSw); go_simp; try with_reducible rfl)
                      try simp only [Act.put, List.setIfInBounds_toArray, List.set_cons_zero, List.set_cons_succ]
                      refine rg_of (rs := [12]) (fuel := 0) (by kernel_rfl) rfl ?_
                      refine rg_step (i := 12) (l := #[true, true, true, true, true, true, true, true, true, true, true, true, true]) rfl (by kernel_rfl) (by kernel_rfl) ?_ AllReadyH.nil
                      intro K hK
                      have QF := (sx.flt _ rfl).1
                      have f0 := QF.cell 0
                      have f1 := QF.cell 1
                      have z0 := QF.frozen 0
                      have z1 := QF.frozen 1
                      simp only [List.getElem?_toArray, List.getElem?_cons_zero, List.getElem?_cons_succ] at f0 f1
                      go_simp
                      go_wp2_with fail
                      have ST := Lib.hid (sx.stored HR.out)
                      refine hK.out _ _ ST.out.1 (fun hHeld => ?_)
                      clear hK HR QF f0 f1 z0 z1 sx
                      refine wpAnyH_done (by kernel_rfl) ?_ _
                      go_wp2_with fail
                      go_meet
                      case rel => exact ⟨_, ge, ga, rfl, by rw [hwD]; exact ST.out⟩
                    exact AllReadyH.nil
                  refine rg_step (i := 10) (l := #[true, true, true, true, true, true, false, false, false, false, true, false, false]) rfl (by kernel_rfl) (by kernel_rfl) ?_ ?_
                  · intro K hK
                    go_simp
                    go_wp2_with fail
                    refine hK.out _ _ (sx.fault).bx (fun hHeld => ?_)
                    replace sx := sx.fault
                    clear hK K
                    try simp only [Act.put, List.setIfInBounds_toArray, List.set_cons_zero, List.set_cons_succ]
                    generalize World.alloc _ _ = wN at sx hHeld ⊢
                    refine rg_of (rs := [6]) (fuel := 5) (by kernel_rfl) rfl ?_
                    refine rg_step (i := 6) (l := #[true, true, true, true, true, true, true, false, false, false, true, false, false]) rfl (by kernel_rfl) (by kernel_rfl) ?_ ?_
                    · intro K hK
                      obtain ⟨Ap, cap, rfl, PR⟩ := sx.pieces PQ.out
                      go_simp
                      go_at_call 13
                      refine (make_any 2 16384 Ap (m + 1) cap _ _ (by kernel_rfl) (by omega) HM7.out PR).mono ?_
                      rintro e wN hres
                      obtain ⟨bv, ge, ga, rfl, HR⟩ := made_of hres
                      have hb := hres.1
                      clear PR hres
                      have sx2 := sx.call hb
                      clear hb sx
                      first | (refine hK.out _ _ sx2.bx (fun hHeld => ?_)) | (go_wp2_with fail; refine hK.out _ _ sx2.bx (fun hHeld => ?_))
                      clear hK K
                      have sx := sx2
                      clear sx2
                      try simp only [Act.put, List.setIfInBounds_toArray, List.set_cons_zero, List.set_cons_succ]
                      refine rg_take (i := 7) (d := some 27) (l := #[true, true, true, true, true, true, true, true, false, false, true, false, false]) (fuel := 4) (v := ?_) rfl (by kernel_rfl) (by kernel_rfl) (by kernel_rfl) (by kernel_rfl) (by kernel_rfl) (fun _ _ _ h => h) (by kernel_rfl) ?_ (by assumption) ?_
                      rotate_left 1
                      · (intro wS hSw; (try dsimp only at hSw); go_simp; try with_reducible rfl)
                      try simp only [Act.put, List.setIfInBounds_toArray, List.set_cons_zero, List.set_cons_succ]
                      refine rg_take (i := 8) (d := some 35) (l := #[true, true, true, true, true, true, true, true, true, false, true, false, false]) (fuel := 3) (v := ?_) rfl (by kernel_rfl) (by kernel_rfl) (by kernel_rfl) (by kernel_rfl) (by kernel_rfl) (fun _ _ _ h => h) (by kernel_rfl) ?_ (by assumption) ?_
                      rotate_left 1
                      · (intro wS hSw; (try dsimp only at hSw); go_simp; try with_reducible rfl)
                      try simp only [Act.put, List.setIfInBounds_toArray, List.set_cons_zero, List.set_cons_succ]
                      refine rg_take (i := 9) (d := some 36) (l := #[true, true, true, true, true, true, true, true, true, true, true, false, false]) (fuel := 2) (v := ?_) rfl (by kernel_rfl) (by kernel_rfl) (by kernel_rfl) (by kernel_rfl) (by kernel_rfl) (fun _ _ _ h => h) (by kernel_rfl) ?_ (by assumption) ?_
                      rotate_left 1
                      · (intro wS hSw; (try dsimp only at hSw); go_simp; try with_reducible rfl)
                      try simp only [Act.put, List.setIfInBounds_toArray, List.set_cons_zero, List.set_cons_succ]
                      refine rg_take (i := 11) (d := some 7) (l := #[true, true, true, true, true, true, true, true, true, true, true, true, false]) (fuel := 1) (v := ?_) rfl (by kernel_rfl) (by kernel_rfl) (by kernel_rfl) (by kernel_rfl) (by kernel_rfl) (fun _ _ _ h => h) (by kernel_rfl) ?_ (by assumption) ?_
                      rotate_left 1
                      · (intro wS hSw; (try dsimp only at hSw); go_simp; try with_reducible rfl)
                      try simp only [Act.put, List.setIfInBounds_toArray, List.set_cons_zero, List.set_cons_succ]
                      refine rg_of (rs := [12]) (fuel := 0) (by kernel_rfl) rfl ?_
                      refine rg_step (i := 12) (l := #[true, true, true, true, true, true, true, true, true, true, true, true, true]) rfl (by kernel_rfl) (by kernel_rfl) ?_ AllReadyH.nil
                      intro K hK
                      have QF := (sx.flt _ rfl).1
                      have f0 := QF.cell 0
                      have f1 := QF.cell 1
                      have z0 := QF.frozen 0
                      have z1 := QF.frozen 1
                      simp only [List.getElem?_toArray, List.getElem?_cons_zero, List.getElem?_cons_succ] at f0 f1
                      go_simp
                      go_wp2_with fail
                      have ST := Lib.hid (sx.stored HR.out)
                      refine hK.out _ _ ST.out.1 (fun hHeld => ?_)
                      clear hK HR QF f0 f1 z0 z1 sx
                      refine wpAnyH_done (by kernel_rfl) ?_ _
                      go_wp2_with fail
                      go_meet
                      case rel => exact ⟨_, ge, ga, rfl, by rw [hwD]; exact ST.out⟩
                    exact AllReadyH.nil
                  exact AllReadyH.nil
                refine rg_step (i := 10) (l := #[true, true, true, true, true, false, false, false, false, false, true, false, false]) rfl (by kernel_rfl) (by kernel_rfl) ?_ ?_
                · intro K hK
                  go_simp
                  go_wp2_with fail
                  refine hK.out _ _ (sx.fault).bx (fun hHeld => ?_)
                  replace sx := sx.fault
                  clear hK K
                  try simp only [Act.put, List.setIfInBounds_toArray, List.set_cons_zero, List.set_cons_succ]
                  generalize World.alloc _ _ = wN at sx hHeld ⊢
                  refine rg_of (rs := [5]) (fuel := 6) (by kernel_rfl) rfl ?_
                  refine rg_step (i := 5) (l := #[true, true, true, true, true, true, false, false, false, false, true, false, false]) rfl (by kernel_rfl) (by kernel_rfl) ?_ ?_
                  · intro K hK
                    obtain ⟨vN, wN, run, sx2⟩ := sx.app2 (ty := 22) (c := 1) HM6.out
                    refine wp_append_any (.tmp 30) (.tmp 32) 22 rfl rfl rfl run ?_
                    refine hK.out _ _ sx2.bx (fun hHeld => ?_)
                    clear hK K run sx
                    have sx := sx2
                    clear sx2
                    try simp only [Act.put, List.setIfInBounds_toArray, List.set_cons_zero, List.set_cons_succ]
                    refine rg_of (rs := [6]) (fuel := 5) (by kernel_rfl) rfl ?_
                    refine rg_step (i := 6) (l := #[true, true, true, true, true, true, true, false, false, false, true, false, false]) rfl (by kernel_rfl) (by kernel_rfl) ?_ ?_
                    · intro K hK
                      obtain ⟨Ap, cap, rfl, PR⟩ := sx.pieces PQ.out
                      go_simp
                      go_at_call 13
                      refine (make_any 2 16384 Ap (m + 1) cap _ _ (by kernel_rfl) (by omega) HM7.out PR).mono ?_
                      rintro e wN hres
                      obtain ⟨bv, ge, ga, rfl, HR⟩ := made_of hres
                      have hb := hres.1
                      clear PR hres
                      have sx2 := sx.call hb
                      clear hb sx
                      first | (refine hK.out _ _ sx2.bx (fun hHeld => ?_)) | (go_wp2_with fail; refine hK.out _ _ sx2.bx (fun hHeld => ?_))
                      clear hK K
                      have sx := sx2
                      clear sx2
                      try simp only [Act.put, List.setIfInBounds_toArray, List.set_cons_zero, List.set_cons_succ]
                      refine rg_take (i := 7) (d := some 27) (l := #[true, true, true, true, true, true, true, true, false, false, true, false, false]) (fuel := 4) (v := ?_) rfl (by kernel_rfl) (by kernel_rfl) (by kernel_rfl) (by kernel_rfl) (by kernel_rfl) (fun _ _ _ h => h) (by kernel_rfl) ?_ (by assumption) ?_
                      rotate_left 1
                      · (intro wS hSw; (try dsimp only at hSw); go_simp; try with_reducible rfl)
                      try simp only [Act.put, List.setIfInBounds_toArray, List.set_cons_zero, List.set_cons_succ]
                      refine rg_take (i := 8) (d := some 35) (l := #[true, true, true, true, true, true, true, true, true, false, true, false, false]) (fuel := 3) (v := ?_) rfl (by kernel_rfl) (by kernel_rfl) (by kernel_rfl) (by kernel_rfl) (by kernel_rfl) (fun _ _ _ h => h) (by kernel_rfl) ?_ (by assumption) ?_
                      rotate_left 1
                      · (intro wS hSw; (try dsimp only at hSw); go_simp; try with_reducible rfl)
                      try simp only [Act.put, List.setIfInBounds_toArray, List.set_cons_zero, List.set_cons_succ]
                      refine rg_take (i := 9) (d := some 36) (l := #[true, true, true, true, true, true, true, true, true, true, true, false, false]) (fuel := 2) (v := ?_) rfl (by kernel_rfl) (by kernel_rfl) (by kernel_rfl) (by kernel_rfl) (by kernel_rfl) (fun _ _ _ h => h) (by kernel_rfl) ?_ (by assumption) ?_
                      rotate_left 1
                      · (intro wS hSw; (try dsimp only at hSw); go_simp; try with_reducible rfl)
                      try simp only [Act.put, List.setIfInBounds_toArray, List.set_cons_zero, List.set_cons_succ]
                      refine rg_take (i := 11) (d := some 7) (l := #[true, true, true, true, true, true, true, true, true, true, true, true, false]) (fuel := 1) (v := ?_) rfl (by kernel_rfl) (by kernel_rfl) (by kernel_rfl) (by kernel_rfl) (by kernel_rfl) (fun _ _ _ h => h) (by kernel_rfl) ?_ (by assumption) ?_
                      rotate_left 1
                      · (intro wS hSw; (try dsimp only at hSw); go_simp; try with_reducible rfl)
                      try simp only [Act.put, List.setIfInBounds_toArray, List.set_cons_zero, List.set_cons_succ]
                      refine rg_of (rs := [12]) (fuel := 0) (by kernel_rfl) rfl ?_
                      refine rg_step (i := 12) (l := #[true, true, true, true, true, true, true, true, true, true, true, true, true]) rfl (by kernel_rfl) (by kernel_rfl) ?_ AllReadyH.nil
                      intro K hK
                      have QF := (sx.flt _ rfl).1
                      have f0 := QF.cell 0
                      have f1 := QF.cell 1
                      have z0 := QF.frozen 0
                      have z1 := QF.frozen 1
                      simp only [List.getElem?_toArray, List.getElem?_cons_zero, List.getElem?_cons_succ] at f0 f1
                      go_simp
                      go_wp2_with fail
                      have ST := Lib.hid (sx.stored HR.out)
                      refine hK.out _ _ ST.out.1 (fun hHeld => ?_)
                      clear hK HR QF f0 f1 z0 z1 sx
                      refine wpAnyH_done (by kernel_rfl) ?_ _
                      go_wp2_with fail
                      go_meet
                      case rel => exact ⟨_, ge, ga, rfl, by rw [hwD]; exact ST.out⟩
                    exact AllReadyH.nil
                  exact AllReadyH.nil
                exact AllReadyH.nil
              refine rg_step (i := 10) (l := #[true, true, false, true, true, false, false, false, false, false, true, false, false]) rfl (by kernel_rfl) (by kernel_rfl) ?_ ?_
              · intro K hK
                go_simp
                go_wp2_with fail
                refine hK.out _ _ (sx.fault).bx (fun hHeld => ?_)
                replace sx := sx.fault
                clear hK K
                try simp only [Act.put, List.setIfInBounds_toArray, List.set_cons_zero, List.set_cons_succ]
                generalize World.alloc _ _ = wN at sx hHeld ⊢
                refine rg_of (rs := [2]) (fuel := 7) (by kernel_rfl) rfl ?_
                refine rg_step (i := 2) (l := #[true, true, true, true, true, false, false, false, false, false, true, false, false]) rfl (by kernel_rfl) (by kernel_rfl) ?_ ?_
                · intro K hK
                  obtain ⟨vN, wN, run, sx2⟩ := sx.app1 (ty := 22) (c := c) RR.out HM6.out
                  refine wp_append_any (.tmp 28) (.tmp 29) 22 rfl rfl rfl run ?_
                  refine hK.out _ _ sx2.bx (fun hHeld => ?_)
                  clear hK K run sx
                  have sx := sx2
                  clear sx2
                  try simp only [Act.put, List.setIfInBounds_toArray, List.set_cons_zero, List.set_cons_succ]
                  refine rg_of (rs := [5]) (fuel := 6) (by kernel_rfl) rfl ?_
                  refine rg_step (i := 5) (l := #[true, true, true, true, true, true, false, false, false, false, true, false, false]) rfl (by kernel_rfl) (by kernel_rfl) ?_ ?_
                  · intro K hK
                    obtain ⟨vN, wN, run, sx2⟩ := sx.app2 (ty := 22) (c := 1) HM6.out
                    refine wp_append_any (.tmp 30) (.tmp 32) 22 rfl rfl rfl run ?_
                    refine hK.out _ _ sx2.bx (fun hHeld => ?_)
                    clear hK K run sx
                    have sx := sx2
                    clear sx2
                    try simp only [Act.put, List.setIfInBounds_toArray, List.set_cons_zero, List.set_cons_succ]
                    refine rg_of (rs := [6]) (fuel := 5) (by kernel_rfl) rfl ?_
                    refine rg_step (i := 6) (l := #[true, true, true, true, true, true, true, false, false, false, true, false, false]) rfl (by kernel_rfl) (by kernel_rfl) ?_ ?_
                    · intro K hK
                      obtain ⟨Ap, cap, rfl, PR⟩ := sx.pieces PQ.out
                      go_simp
                      go_at_call 13
                      refine (make_any 2 16384 Ap (m + 1) cap _ _ (by kernel_rfl) (by omega) HM7.out PR).mono ?_
                      rintro e wN hres
                      obtain ⟨bv, ge, ga, rfl, HR⟩ := made_of hres
                      have hb := hres.1
                      clear PR hres
                      have sx2 := sx.call hb
                      clear hb sx
                      first | (refine hK.out _ _ sx2.bx (fun hHeld => ?_)) | (go_wp2_with fail; refine hK.out _ _ sx2.bx (fun hHeld => ?_))
                      clear hK K
                      have sx := sx2
                      clear sx2
                      try simp only [Act.put, List.setIfInBounds_toArray, List.set_cons_zero, List.set_cons_succ]
                      refine rg_take (i := 7) (d := some 27) (l := #[true, true, true, true, true, true, true, true, false, false, true, false, false]) (fuel := 4) (v := ?_) rfl (by kernel_rfl) (by kernel_rfl) (by kernel_rfl) (by kernel_rfl) (by kernel_rfl) (fun _ _ _ h => h) (by kernel_rfl) ?_ (by assumption) ?_
                      rotate_left 1
                      · (intro wS hSw; (try dsimp only at hSw); go_simp; try with_reducible rfl)
                      try simp only [Act.put, List.setIfInBounds_toArray, List.set_cons_zero, List.set_cons_succ]
                      refine rg_take (i := 8) (d := some 35) (l := #[true, true, true, true, true, true, true, true, true, false, true, false, false]) (fuel := 3) (v := ?_) rfl (by kernel_rfl) (by kernel_rfl) (by kernel_rfl) (by kernel_rfl) (by kernel_rfl) (fun _ _ _ h => h) (by kernel_rfl) ?_ (by assumption) ?_
                      rotate_left 1
                      · (intro wS hSw; (try dsimp only at hSw); go_simp; try with_reducible rfl)
                      try simp only [Act.put, List.setIfInBounds_toArray, List.set_cons_zero, List.set_cons_succ]
                      refine rg_take (i := 9) (d := some 36) (l := #[true, true, true, true, true, true, true, true, true, true, true, false, false]) (fuel := 2) (v := ?_) rfl (by kernel_rfl) (by kernel_rfl) (by kernel_rfl) (by kernel_rfl) (by kernel_rfl) (fun _ _ _ h => h) (by kernel_rfl) ?_ (by assumption) ?_
                      rotate_left 1
                      · (intro wS hSw; (try dsimp only at hSw); go_simp; try with_reducible rfl)
                      try simp only [Act.put, List.setIfInBounds_toArray, List.set_cons_zero, List.set_cons_succ]
                      refine rg_take (i := 11) (d := some 7) (l := #[true, true, true, true, true, true, true, true, true, true, true, true, false]) (fuel := 1) (v := ?_) rfl (by kernel_rfl) (by kernel_rfl) (by kernel_rfl) (by kernel_rfl) (by kernel_rfl) (fun _ _ _ h => h) (by kernel_rfl) ?_ (by assumption) ?_
                      rotate_left 1
                      · (intro wS hSw; (try dsimp only at hSw); go_simp; try with_reducible rfl)
                      try simp only [Act.put, List.setIfInBounds_toArray, List.set_cons_zero, List.set_cons_succ]
                      refine rg_of (rs := [12]) (fuel := 0) (by kernel_rfl) rfl ?_
                      refine rg_step (i := 12) (l := #[true, true, true, true, true, true, true, true, true, true, true, true, true]) rfl (by kernel_rfl) (by kernel_rfl) ?_ AllReadyH.nil
                      intro K hK
                      have QF := (sx.flt _ rfl).1
                      have f0 := QF.cell 0
                      have f1 := QF.cell 1
                      have z0 := QF.frozen 0
                      have z1 := QF.frozen 1
                      simp only [List.getElem?_toArray, List.getElem?_cons_zero, List.getElem?_cons_succ] at f0 f1
                      go_simp
                      go_wp2_with fail
                      have ST := Lib.hid (sx.stored HR.out)
                      refine hK.out _ _ ST.out.1 (fun hHeld => ?_)
                      clear hK HR QF f0 f1 z0 z1 sx
                      refine wpAnyH_done (by kernel_rfl) ?_ _
                      go_wp2_with fail
                      go_meet
                      case rel => exact ⟨_, ge, ga, rfl, by rw [hwD]; exact ST.out⟩
                    exact AllReadyH.nil
                  exact AllReadyH.nil
                exact AllReadyH.nil
              exact AllReadyH.nil
            refine rg_step (i := 10) (l := #[true, true, false, true, false, false, false, false, false, false, true, false, false]) rfl (by kernel_rfl) (by kernel_rfl) ?_ ?_
            · intro K hK
              go_simp
              go_wp2_with fail
              refine hK.out _ _ (sx.fault).bx (fun hHeld => ?_)
              replace sx := sx.fault
              clear hK K
              try simp only [Act.put, List.setIfInBounds_toArray, List.set_cons_zero, List.set_cons_succ]
              generalize World.alloc _ _ = wN at sx hHeld ⊢
              refine rg_of (rs := [2, 4]) (fuel := 8) (by kernel_rfl) rfl ?_
              refine rg_step (i := 2) (l := #[true, true, true, true, false, false, false, false, false, false, true, false, false]) rfl (by kernel_rfl) (by kernel_rfl) ?_ ?_
              · intro K hK
                obtain ⟨vN, wN, run, sx2⟩ := sx.app1 (ty := 22) (c := c) RR.out HM6.out
                refine wp_append_any (.tmp 28) (.tmp 29) 22 rfl rfl rfl run ?_
                refine hK.out _ _ sx2.bx (fun hHeld => ?_)
                clear hK K run sx
                have sx := sx2
                clear sx2
                try simp only [Act.put, List.setIfInBounds_toArray, List.set_cons_zero, List.set_cons_succ]
                refine rg_of (rs := [4]) (fuel := 7) (by kernel_rfl) rfl ?_
                refine rg_step (i := 4) (l := #[true, true, true, true, true, false, false, false, false, false, true, false, false]) rfl (by kernel_rfl) (by kernel_rfl) ?_ ?_
                · intro K hK
                  go_simp
                  go_wp2_with fail
                  refine hK.out _ _ (sx.box).bx (fun hHeld => ?_)
                  replace sx := sx.box
                  clear hK K
                  try simp only [Act.put, List.setIfInBounds_toArray, List.set_cons_zero, List.set_cons_succ]
                  generalize World.alloc _ _ = wN at sx hHeld ⊢
                  refine rg_of (rs := [5]) (fuel := 6) (by kernel_rfl) rfl ?_
                  refine rg_step (i := 5) (l := #[true, true, true, true, true, true, false, false, false, false, true, false, false]) rfl (by kernel_rfl) (by kernel_rfl) ?_ ?_
                  · intro K hK
                    obtain ⟨vN, wN, run, sx2⟩ := sx.app2 (ty := 22) (c := 1) HM6.out
                    refine wp_append_any (.tmp 30) (.tmp 32) 22 rfl rfl rfl run ?_
                    refine hK.out _ _ sx2.bx (fun hHeld => ?_)
                    clear hK K run sx
                    have sx := sx2
                    clear sx2
                    try simp only [Act.put, List.setIfInBounds_toArray, List.set_cons_zero, List.set_cons_succ]
                    refine rg_of (rs := [6]) (fuel := 5) (by kernel_rfl) rfl ?_
                    refine rg_step (i := 6) (l := #[true, true, true, true, true, true, true, false, false, false, true, false, false]) rfl (by kernel_rfl) (by kernel_rfl) ?_ ?_
                    · intro K hK
                      obtain ⟨Ap, cap, rfl, PR⟩ := sx.pieces PQ.out
                      go_simp
                      go_at_call 13
                      refine (make_any 2 16384 Ap (m + 1) cap _ _ (by kernel_rfl) (by omega) HM7.out PR).mono ?_
                      rintro e wN hres
                      obtain ⟨bv, ge, ga, rfl, HR⟩ := made_of hres
                      have hb := hres.1
                      clear PR hres
                      have sx2 := sx.call hb
                      clear hb sx
                      first | (refine hK.out _ _ sx2.bx (fun hHeld => ?_)) | (go_wp2_with fail; refine hK.out _ _ sx2.bx (fun hHeld => ?_))
                      clear hK K
                      have sx := sx2
                      clear sx2
                      try simp only [Act.put, List.setIfInBounds_toArray, List.set_cons_zero, List.set_cons_succ]
                      refine rg_take (i := 7) (d := some 27) (l := #[true, true, true, true, true, true, true, true, false, false, true, false, false]) (fuel := 4) (v := ?_) rfl (by kernel_rfl) (by kernel_rfl) (by kernel_rfl) (by kernel_rfl) (by kernel_rfl) (fun _ _ _ h => h) (by kernel_rfl) ?_ (by assumption) ?_
                      rotate_left 1
                      · (intro wS hSw; (try dsimp only at hSw); go_simp; try with_reducible rfl)
                      try simp only [Act.put, List.setIfInBounds_toArray, List.set_cons_zero, List.set_cons_succ]
                      refine rg_take (i := 8) (d := some 35) (l := #[true, true, true, true, true, true, true, true, true, false, true, false, false]) (fuel := 3) (v := ?_) rfl (by kernel_rfl) (by kernel_rfl) (by kernel_rfl) (by kernel_rfl) (by kernel_rfl) (fun _ _ _ h => h) (by kernel_rfl) ?_ (by assumption) ?_
                      rotate_left 1
                      · (intro wS hSw; (try dsimp only at hSw); go_simp; try with_reducible rfl)
                      try simp only [Act.put, List.setIfInBounds_toArray, List.set_cons_zero, List.set_cons_succ]
                      refine rg_take (i := 9) (d := some 36) (l := #[true, true, true, true, true, true, true, true, true, true, true, false, false]) (fuel := 2) (v := ?_) rfl (by kernel_rfl) (by kernel_rfl) (by kernel_rfl) (by kernel_rfl) (by kernel_rfl) (fun _ _ _ h => h) (by kernel_rfl) ?_ (by assumption) ?_
                      rotate_left 1
                      · (intro wS hSw; (try dsimp only at hSw); go_simp; try with_reducible rfl)
                      try simp only [Act.put, List.setIfInBounds_toArray, List.set_cons_zero, List.set_cons_succ]
                      refine rg_take (i := 11) (d := some 7) (l := #[true, true, true, true, true, true, true, true, true, true, true, true, false]) (fuel := 1) (v := ?_) rfl (by kernel_rfl) (by kernel_rfl) (by kernel_rfl) (by kernel_rfl) (by kernel_rfl) (fun _ _ _ h => h) (by kernel_rfl) ?_ (by assumption) ?_
                      rotate_left 1
                      · (intro wS hSw; (try dsimp only at hSw); go_simp; try with_reducible rfl)
                      try simp only [Act.put, List.setIfInBounds_toArray, List.set_cons_zero, List.set_cons_succ]
                      refine rg_of (rs := [12]) (fuel := 0) (by kernel_rfl) rfl ?_
                      refine rg_step (i := 12) (l := #[true, true, true, true, true, true, true, true, true, true, true, true, true]) rfl (by kernel_rfl) (by kernel_rfl) ?_ AllReadyH.nil
                      intro K hK
                      have QF := (sx.flt _ rfl).1
                      have f0 := QF.cell 0
                      have f1 := QF.cell 1
                      have z0 := QF.frozen 0
                      have z1 := QF.frozen 1
                      simp only [List.getElem?_toArray, List.getElem?_cons_zero, List.getElem?_cons_succ] at f0 f1
                      go_simp
                      go_wp2_with fail
                      have ST := Lib.hid (sx.stored HR.out)
                      refine hK.out _ _ ST.out.1 (fun hHeld => ?_)
                      clear hK HR QF f0 f1 z0 z1 sx
                      refine wpAnyH_done (by kernel_rfl) ?_ _
                      go_wp2_with fail
                      go_meet
                      case rel => exact ⟨_, ge, ga, rfl, by rw [hwD]; exact ST.out⟩
                    exact AllReadyH.nil
                  exact AllReadyH.nil
                exact AllReadyH.nil
              refine rg_step (i := 4) (l := #[true, true, false, true, true, false, false, false, false, false, true, false, false]) rfl (by kernel_rfl) (by kernel_rfl) ?_ ?_
              · intro K hK
                go_simp
                go_wp2_with fail
                refine hK.out _ _ (sx.box).bx (fun hHeld => ?_)
                replace sx := sx.box
                clear hK K
                try simp only [Act.put, List.setIfInBounds_toArray, List.set_cons_zero, List.set_cons_succ]
                generalize World.alloc _ _ = wN at sx hHeld ⊢
                refine rg_of (rs := [2]) (fuel := 7) (by kernel_rfl) rfl ?_
                refine rg_step (i := 2) (l := #[true, true, true, true, true, false, false, false, false, false, true, false, false]) rfl (by kernel_rfl) (by kernel_rfl) ?_ ?_
                · intro K hK
                  obtain ⟨vN, wN, run, sx2⟩ := sx.app1 (ty := 22) (c := c) RR.out HM6.out
                  refine wp_append_any (.tmp 28) (.tmp 29) 22 rfl rfl rfl run ?_
                  refine hK.out _ _ sx2.bx (fun hHeld => ?_)
                  clear hK K run sx
                  have sx := sx2
                  clear sx2
                  try simp only [Act.put, List.setIfInBounds_toArray, List.set_cons_zero, List.set_cons_succ]
                  refine rg_of (rs := [5]) (fuel := 6) (by kernel_rfl) rfl ?_
                  refine rg_step (i := 5) (l := #[true, true, true, true, true, true, false, false, false, false, true, false, false]) rfl (by kernel_rfl) (by kernel_rfl) ?_ ?_
                  · intro K hK
                    obtain ⟨vN, wN, run, sx2⟩ := sx.app2 (ty := 22) (c := 1) HM6.out
                    refine wp_append_any (.tmp 30) (.tmp 32) 22 rfl rfl rfl run ?_
                    refine hK.out _ _ sx2.bx (fun hHeld => ?_)
                    clear hK K run sx
                    have sx := sx2
                    clear sx2
                    try simp only [Act.put, List.setIfInBounds_toArray, List.set_cons_zero, List.set_cons_succ]
                    refine rg_of (rs := [6]) (fuel := 5) (by kernel_rfl) rfl ?_
                    refine rg_step (i := 6) (l := #[true, true, true, true, true, true, true, false, false, false, true, false, false]) rfl (by kernel_rfl) (by kernel_rfl) ?_ ?_
                    · intro K hK
                      obtain ⟨Ap, cap, rfl, PR⟩ := sx.pieces PQ.out
                      go_simp
                      go_at_call 13
                      refine (make_any 2 16384 Ap (m + 1) cap _ _ (by kernel_rfl) (by omega) HM7.out PR).mono ?_
                      rintro e wN hres
                      obtain ⟨bv, ge, ga, rfl, HR⟩ := made_of hres
                      have hb := hres.1
                      clear PR hres
                      have sx2 := sx.call hb
                      clear hb sx
                      first | (refine hK.out _ _ sx2.bx (fun hHeld => ?_)) | (go_wp2_with fail; refine hK.out _ _ sx2.bx (fun hHeld => ?_))
                      clear hK K
                      have sx := sx2
                      clear sx2
                      try simp only [Act.put, List.setIfInBounds_toArray, List.set_cons_zero, List.set_cons_succ]
                      refine rg_take (i := 7) (d := some 27) (l := #[true, true, true, true, true, true, true, true, false, false, true, false, false]) (fuel := 4) (v := ?_) rfl (by kernel_rfl) (by kernel_rfl) (by kernel_rfl) (by kernel_rfl) (by kernel_rfl) (fun _ _ _ h => h) (by kernel_rfl) ?_ (by assumption) ?_
                      rotate_left 1
                      · (intro wS hSw; (try dsimp only at hSw); go_simp; try with_reducible rfl)
                      try simp only [Act.put, List.setIfInBounds_toArray, List.set_cons_zero, List.set_cons_succ]
                      refine rg_take (i := 8) (d := some 35) (l := #[true, true, true, true, true, true, true, true, true, false, true, false, false]) (fuel := 3) (v := ?_) rfl (by kernel_rfl) (by kernel_rfl) (by kernel_rfl) (by kernel_rfl) (by kernel_rfl) (fun _ _ _ h => h) (by kernel_rfl) ?_ (by assumption) ?_
                      rotate_left 1
                      · (intro wS hSw; (try dsimp only at hSw); go_simp; try with_reducible rfl)
                      try simp only [Act.put, List.setIfInBounds_toArray, List.set_cons_zero, List.set_cons_succ]
                      refine rg_take (i := 9) (d := some 36) (l := #[true, true, true, true, true, true, true, true, true, true, true, false, false]) (fuel := 2) (v := ?_) rfl (by kernel_rfl) (by kernel_rfl) (by kernel_rfl) (by kernel_rfl) (by kernel_rfl) (fun _ _ _ h => h) (by kernel_rfl) ?_ (by assumption) ?_
                      rotate_left 1
                      · (intro wS hSw; (try dsimp only at hSw); go_simp; try with_reducible rfl)
                      try simp only [Act.put, List.setIfInBounds_toArray, List.set_cons_zero, List.set_cons_succ]
                      refine rg_take (i := 11) (d := some 7) (l := #[true, true, true, true, true, true, true, true, true, true, true, true, false]) (fuel := 1) (v := ?_) rfl (by kernel_rfl) (by kernel_rfl) (by kernel_rfl) (by kernel_rfl) (by kernel_rfl) (fun _ _ _ h => h) (by kernel_rfl) ?_ (by assumption) ?_
                      rotate_left 1
                      · (intro wS hSw; (try dsimp only at hSw); go_simp; try with_reducible rfl)
                      try simp only [Act.put, List.setIfInBounds_toArray, List.set_cons_zero, List.set_cons_succ]
                      refine rg_of (rs := [12]) (fuel := 0) (by kernel_rfl) rfl ?_
                      refine rg_step (i := 12) (l := #[true, true, true, true, true, true, true, true, true, true, true, true, true]) rfl (by kernel_rfl) (by kernel_rfl) ?_ AllReadyH.nil
                      intro K hK
                      have QF := (sx.flt _ rfl).1
                      have f0 := QF.cell 0
                      have f1 := QF.cell 1
                      have z0 := QF.frozen 0
                      have z1 := QF.frozen 1
                      simp only [List.getElem?_toArray, List.getElem?_cons_zero, List.getElem?_cons_succ] at f0 f1
                      go_simp
                      go_wp2_with fail
                      have ST := Lib.hid (sx.stored HR.out)
                      refine hK.out _ _ ST.out.1 (fun hHeld => ?_)
                      clear hK HR QF f0 f1 z0 z1 sx
                      refine wpAnyH_done (by kernel_rfl) ?_ _
                      go_wp2_with fail
                      go_meet
                      case rel => exact ⟨_, ge, ga, rfl, by rw [hwD]; exact ST.out⟩
                    exact AllReadyH.nil
                  exact AllReadyH.nil
                exact AllReadyH.nil
              exact AllReadyH.nil
            exact AllReadyH.nil
          refine rg_step (i := 4) (l := #[false, true, false, true, true, false, false, false, false, false, false, false, false]) rfl (by kernel_rfl) (by kernel_rfl) ?_ ?_
          · intro K hK
            go_simp
            go_wp2_with fail
            refine hK.out _ _ (sx.box).bx (fun hHeld => ?_)
            replace sx := sx.box
            clear hK K
            try simp only [Act.put, List.setIfInBounds_toArray, List.set_cons_zero, List.set_cons_succ]
            generalize World.alloc _ _ = wN at sx hHeld ⊢
            refine rg_of (rs := [0, 10]) (fuel := 9) (by kernel_rfl) rfl ?_
            refine rg_step (i := 0) (l := #[true, true, false, true, true, false, false, false, false, false, false, false, false]) rfl (by kernel_rfl) (by kernel_rfl) ?_ ?_
            · intro K hK
              go_simp
              go_wp2_with fail
              refine hK.out _ _ (sx.rowed).bx (fun hHeld => ?_)
              replace sx := sx.rowed
              clear hK K
              try simp only [Act.put, List.setIfInBounds_toArray, List.set_cons_zero, List.set_cons_succ]
              generalize World.alloc _ _ = wN at sx hHeld ⊢
              refine rg_of (rs := [2, 10]) (fuel := 8) (by kernel_rfl) rfl ?_
              refine rg_step (i := 2) (l := #[true, true, true, true, true, false, false, false, false, false, false, false, false]) rfl (by kernel_rfl) (by kernel_rfl) ?_ ?_
              · intro K hK
                obtain ⟨vN, wN, run, sx2⟩ := sx.app1 (ty := 22) (c := c) RR.out HM6.out
                refine wp_append_any (.tmp 28) (.tmp 29) 22 rfl rfl rfl run ?_
                refine hK.out _ _ sx2.bx (fun hHeld => ?_)
                clear hK K run sx
                have sx := sx2
                clear sx2
                try simp only [Act.put, List.setIfInBounds_toArray, List.set_cons_zero, List.set_cons_succ]
                refine rg_of (rs := [5, 10]) (fuel := 7) (by kernel_rfl) rfl ?_
                refine rg_step (i := 5) (l := #[true, true, true, true, true, true, false, false, false, false, false, false, false]) rfl (by kernel_rfl) (by kernel_rfl) ?_ ?_
                · intro K hK
                  obtain ⟨vN, wN, run, sx2⟩ := sx.app2 (ty := 22) (c := 1) HM6.out
                  refine wp_append_any (.tmp 30) (.tmp 32) 22 rfl rfl rfl run ?_
                  refine hK.out _ _ sx2.bx (fun hHeld => ?_)
                  clear hK K run sx
                  have sx := sx2
                  clear sx2
                  try simp only [Act.put, List.setIfInBounds_toArray, List.set_cons_zero, List.set_cons_succ]
                  refine rg_of (rs := [6, 10]) (fuel := 6) (by kernel_rfl) rfl ?_
                  refine rg_step (i := 6) (l := #[true, true, true, true, true, true, true, false, false, false, false, false, false]) rfl (by kernel_rfl) (by kernel_rfl) ?_ ?_
                  · intro K hK
                    obtain ⟨Ap, cap, rfl, PR⟩ := sx.pieces PQ.out
                    go_simp
                    go_at_call 13
                    refine (make_any 2 16384 Ap (m + 1) cap _ _ (by kernel_rfl) (by omega) HM7.out PR).mono ?_
                    rintro e wN hres
                    obtain ⟨bv, ge, ga, rfl, HR⟩ := made_of hres
                    have hb := hres.1
                    clear PR hres
                    have sx2 := sx.call hb
                    clear hb sx
                    first | (refine hK.out _ _ sx2.bx (fun hHeld => ?_)) | (go_wp2_with fail; refine hK.out _ _ sx2.bx (fun hHeld => ?_))
                    clear hK K
                    have sx := sx2
                    clear sx2
                    try simp only [Act.put, List.setIfInBounds_toArray, List.set_cons_zero, List.set_cons_succ]
                    refine rg_take (i := 7) (d := some 27) (l := #[true, true, true, true, true, true, true, true, false, false, false, false, false]) (fuel := 5) (v := ?_) rfl (by kernel_rfl) (by kernel_rfl) (by kernel_rfl) (by kernel_rfl) (by kernel_rfl) (fun _ _ _ h => h) (by kernel_rfl) ?_ (by assumption) ?_
                    rotate_left 1
                    · (intro wS hSw; (try dsimp only at hSw); go_simp; try with_reducible rfl)
                    try simp only [Act.put, List.setIfInBounds_toArray, List.set_cons_zero, List.set_cons_succ]
                    refine rg_take (i := 8) (d := some 35) (l := #[true, true, true, true, true, true, true, true, true, false, false, false, false]) (fuel := 4) (v := ?_) rfl (by kernel_rfl) (by kernel_rfl) (by kernel_rfl) (by kernel_rfl) (by kernel_rfl) (fun _ _ _ h => h) (by kernel_rfl) ?_ (by assumption) ?_
                    rotate_left 1
                    · (intro wS hSw; (try dsimp only at hSw); go_simp; try with_reducible rfl)
                    try simp only [Act.put, List.setIfInBounds_toArray, List.set_cons_zero, List.set_cons_succ]
                    refine rg_take (i := 9) (d := some 36) (l := #[true, true, true, true, true, true, true, true, true, true, false, false, false]) (fuel := 3) (v := ?_) rfl (by kernel_rfl) (by kernel_rfl) (by kernel_rfl) (by kernel_rfl) (by kernel_rfl) (fun _ _ _ h => h) (by kernel_rfl) ?_ (by assumption) ?_
                    rotate_left 1
                    · (intro wS hSw; (try dsimp only at hSw); go_simp; try with_reducible rfl)
                    try simp only [Act.put, List.setIfInBounds_toArray, List.set_cons_zero, List.set_cons_succ]
                    refine rg_of (rs := [10]) (fuel := 2) (by kernel_rfl) rfl ?_
                    refine rg_step (i := 10) (l := #[true, true, true, true, true, true, true, true, true, true, true, false, false]) rfl (by kernel_rfl) (by kernel_rfl) ?_ ?_
                    · intro K hK
                      go_simp
                      go_wp2_with fail
                      refine hK.out _ _ (sx.fault).bx (fun hHeld => ?_)
                      replace sx := sx.fault
                      clear hK K
                      replace HR := Lib.hid (HR.out.alloc (.cells #[.int .i64 0, .int .i64 0] 30))
                      try simp only [Act.put, List.setIfInBounds_toArray, List.set_cons_zero, List.set_cons_succ]
                      generalize World.alloc _ _ = wN at sx hHeld HR ⊢
                      refine rg_take (i := 11) (d := some 7) (l := #[true, true, true, true, true, true, true, true, true, true, true, true, false]) (fuel := 1) (v := ?_) rfl (by kernel_rfl) (by kernel_rfl) (by kernel_rfl) (by kernel_rfl) (by kernel_rfl) (fun _ _ _ h => h) (by kernel_rfl) ?_ (by assumption) ?_
                      rotate_left 1
                      · (intro wS hSw; (try dsimp only at hSw); go_simp; try with_reducible rfl)
                      try simp only [Act.put, List.setIfInBounds_toArray, List.set_cons_zero, List.set_cons_succ]
                      refine rg_of (rs := [12]) (fuel := 0) (by kernel_rfl) rfl ?_
                      refine rg_step (i := 12) (l := #[true, true, true, true, true, true, true, true, true, true, true, true, true]) rfl (by kernel_rfl) (by kernel_rfl) ?_ AllReadyH.nil
                      intro K hK
                      have QF := (sx.flt _ rfl).1
                      have f0 := QF.cell 0
                      have f1 := QF.cell 1
                      have z0 := QF.frozen 0
                      have z1 := QF.frozen 1
                      simp only [List.getElem?_toArray, List.getElem?_cons_zero, List.getElem?_cons_succ] at f0 f1
                      go_simp
                      go_wp2_with fail
                      have ST := Lib.hid (sx.stored HR.out)
                      refine hK.out _ _ ST.out.1 (fun hHeld => ?_)
                      clear hK HR QF f0 f1 z0 z1 sx
                      refine wpAnyH_done (by kernel_rfl) ?_ _
                      go_wp2_with fail
                      go_meet
                      case rel => exact ⟨_, ge, ga, rfl, by rw [hwD]; exact ST.out⟩
                    exact AllReadyH.nil
                  refine rg_step (i := 10) (l := #[true, true, true, true, true, true, false, false, false, false, true, false, false]) rfl (by kernel_rfl) (by kernel_rfl) ?_ ?_
                  · intro K hK
                    go_simp
                    go_wp2_with fail
                    refine hK.out _ _ (sx.fault).bx (fun hHeld => ?_)
                    replace sx := sx.fault
                    clear hK K
                    try simp only [Act.put, List.setIfInBounds_toArray, List.set_cons_zero, List.set_cons_succ]
                    generalize World.alloc _ _ = wN at sx hHeld ⊢
                    refine rg_of (rs := [6]) (fuel := 5) (by kernel_rfl) rfl ?_
                    refine rg_step (i := 6) (l := #[true, true, true, true, true, true, true, false, false, false, true, false, false]) rfl (by kernel_rfl) (by kernel_rfl) ?_ ?_
                    · intro K hK
                      obtain ⟨Ap, cap, rfl, PR⟩ := sx.pieces PQ.out
                      go_simp
                      go_at_call 13
                      refine (make_any 2 16384 Ap (m + 1) cap _ _ (by kernel_rfl) (by omega) HM7.out PR).mono ?_
                      rintro e wN hres
                      obtain ⟨bv, ge, ga, rfl, HR⟩ := made_of hres
                      have hb := hres.1
                      clear PR hres
                      have sx2 := sx.call hb
                      clear hb sx
                      first | (refine hK.out _ _ sx2.bx (fun hHeld => ?_)) | (go_wp2_with fail; refine hK.out _ _ sx2.bx (fun hHeld => ?_))
                      clear hK K
                      have sx := sx2
                      clear sx2
                      try simp only [Act.put, List.setIfInBounds_toArray, List.set_cons_zero, List.set_cons_succ]
                      refine rg_take (i := 7) (d := some 27) (l := #[true, true, true, true, true, true, true, true, false, false, true, false, false]) (fuel := 4) (v := ?_) rfl (by kernel_rfl) (by kernel_rfl) (by kernel_rfl) (by kernel_rfl) (by kernel_rfl) (fun _ _ _ h => h) (by kernel_rfl) ?_ (by assumption) ?_
                      rotate_left 1
                      · (intro wS hSw; (try dsimp only at hSw); go_simp; try with_reducible rfl)
                      try simp only [Act.put, List.setIfInBounds_toArray, List.set_cons_zero, List.set_cons_succ]
                      refine rg_take (i := 8) (d := some 35) (l := #[true, true, true, true, true, true, true, true, true, false, true, false, false]) (fuel := 3) (v := ?_) rfl (by kernel_rfl) (by kernel_rfl) (by kernel_rfl) (by kernel_rfl) (by kernel_rfl) (fun _ _ _ h => h) (by kernel_rfl) ?_ (by assumption) ?_
                      rotate_left 1
                      · (intro wS hSw; (try dsimp only at hSw); go_simp; try with_reducible rfl)
                      try simp only [Act.put, List.setIfInBounds_toArray, List.set_cons_zero, List.set_cons_succ]
                      refine rg_take (i := 9) (d := some 36) (l := #[true, true, true, true, true, true, true, true, true, true, true, false, false]) (fuel := 2) (v := ?_) rfl (by kernel_rfl) (by kernel_rfl) (by kernel_rfl) (by kernel_rfl) (by kernel_rfl) (fun _ _ _ h => h) (by kernel_rfl) ?_ (by assumption) ?_
                      rotate_left 1
                      · (intro wS hSw; (try dsimp only at hSw); go_simp; try with_reducible rfl)
                      try simp only [Act.put, List.setIfInBounds_toArray, List.set_cons_zero, List.set_cons_succ]
                      refine rg_take (i := 11) (d := some 7) (l := #[true, true, true, true, true, true, true, true, true, true, true, true, false]) (fuel := 1) (v := ?_) rfl (by kernel_rfl) (by kernel_rfl) (by kernel_rfl) (by kernel_rfl) (by kernel_rfl) (fun _ _ _ h => h) (by kernel_rfl) ?_ (by assumption) ?_
                      rotate_left 1
                      · (intro wS hSw; (try dsimp only at hSw); go_simp; try with_reducible rfl)
                      try simp only [Act.put, List.setIfInBounds_toArray, List.set_cons_zero, List.set_cons_succ]
                      refine rg_of (rs := [12]) (fuel := 0) (by kernel_rfl) rfl ?_
                      refine rg_step (i := 12) (l := #[true, true, true, true, true, true, true, true, true, true, true, true, true]) rfl (by kernel_rfl) (by kernel_rfl) ?_ AllReadyH.nil
                      intro K hK
                      have QF := (sx.flt _ rfl).1
                      have f0 := QF.cell 0
                      have f1 := QF.cell 1
                      have z0 := QF.frozen 0
                      have z1 := QF.frozen 1
                      simp only [List.getElem?_toArray, List.getElem?_cons_zero, List.getElem?_cons_succ] at f0 f1
                      go_simp
                      go_wp2_with fail
                      have ST := Lib.hid (sx.stored HR.out)
                      refine hK.out _ _ ST.out.1 (fun hHeld => ?_)
                      clear hK HR QF f0 f1 z0 z1 sx
                      refine wpAnyH_done (by kernel_rfl) ?_ _
                      go_wp2_with fail
                      go_meet
                      case rel => exact ⟨_, ge, ga, rfl, by rw [hwD]; exact ST.out⟩
                    exact AllReadyH.nil
                  exact AllReadyH.nil
                refine rg_step (i := 10) (l := #[true, true, true, true, true, false, false, false, false, false, true, false, false]) rfl (by kernel_rfl) (by kernel_rfl) ?_ ?_
                · intro K hK
                  go_simp
                  go_wp2_with fail
                  refine hK.out _ _ (sx.fault).bx (fun hHeld => ?_)
                  replace sx := sx.fault
                  clear hK K
                  try simp only [Act.put, List.setIfInBounds_toArray, List.set_cons_zero, List.set_cons_succ]
                  generalize World.alloc _ _ = wN at sx hHeld ⊢
                  refine rg_of (rs := [5]) (fuel := 6) (by kernel_rfl) rfl ?_
                  refine rg_step (i := 5) (l := #[true, true, true, true, true, true, false, false, false, false, true, false, false]) rfl (by kernel_rfl) (by kernel_rfl) ?_ ?_
                  · intro K hK
                    obtain ⟨vN, wN, run, sx2⟩ := sx.app2 (ty := 22) (c := 1) HM6.out
                    refine wp_append_any (.tmp 30) (.tmp 32) 22 rfl rfl rfl run ?_
                    refine hK.out _ _ sx2.bx (fun hHeld => ?_)
                    clear hK K run sx
                    have sx := sx2
                    clear sx2
                    try simp only [Act.put, List.setIfInBounds_toArray, List.set_cons_zero, List.set_cons_succ]
                    refine rg_of (rs := [6]) (fuel := 5) (by kernel_rfl) rfl ?_
                    refine rg_step (i := 6) (l := #[true, true, true, true, true, true, true, false, false, false, true, false, false]) rfl (by kernel_rfl) (by kernel_rfl) ?_ ?_
                    · intro K hK
                      obtain ⟨Ap, cap, rfl, PR⟩ := sx.pieces PQ.out
                      go_simp
                      go_at_call 13
                      refine (make_any 2 16384 Ap (m + 1) cap _ _ (by kernel_rfl) (by omega) HM7.out PR).mono ?_
                      rintro e wN hres
                      obtain ⟨bv, ge, ga, rfl, HR⟩ := made_of hres
                      have hb := hres.1
                      clear PR hres
                      have sx2 := sx.call hb
                      clear hb sx
                      first | (refine hK.out _ _ sx2.bx (fun hHeld => ?_)) | (go_wp2_with fail; refine hK.out _ _ sx2.bx (fun hHeld => ?_))
                      clear hK K
                      have sx := sx2
                      clear sx2
                      try simp only [Act.put, List.setIfInBounds_toArray, List.set_cons_zero, List.set_cons_succ]
                      refine rg_take (i := 7) (d := some 27) (l := #[true, true, true, true, true, true, true, true, false, false, true, false, false]) (fuel := 4) (v := ?_) rfl (by kernel_rfl) (by kernel_rfl) (by kernel_rfl) (by kernel_rfl) (by kernel_rfl) (fun _ _ _ h => h) (by kernel_rfl) ?_ (by assumption) ?_
                      rotate_left 1
                      · (intro wS hSw; (try dsimp only at hSw); go_simp; try with_reducible rfl)
                      try simp only [Act.put, List.setIfInBounds_toArray, List.set_cons_zero, List.set_cons_succ]
                      refine rg_take (i := 8) (d := some 35) (l := #[true, true, true, true, true, true, true, true, true, false, true, false, false]) (fuel := 3) (v := ?_) rfl (by kernel_rfl) (by kernel_rfl) (by kernel_rfl) (by kernel_rfl) (by kernel_rfl) (fun _ _ _ h => h) (by kernel_rfl) ?_ (by assumption) ?_
                      rotate_left 1
                      · (intro wS hSw; (try dsimp only at hSw); go_simp; try with_reducible rfl)
                      try simp only [Act.put, List.setIfInBounds_toArray, List.set_cons_zero, List.set_cons_succ]
                      refine rg_take (i := 9) (d := some 36) (l := #[true, true, true, true, true, true, true, true, true, true, true, false, false]) (fuel := 2) (v := ?_) rfl (by kernel_rfl) (by kernel_rfl) (by kernel_rfl) (by kernel_rfl) (by kernel_rfl) (fun _ _ _ h => h) (by kernel_rfl) ?_ (by assumption) ?_
                      rotate_left 1
                      · (intro wS hSw; (try dsimp only at hSw); go_simp; try with_reducible rfl)
                      try simp only [Act.put, List.setIfInBounds_toArray, List.set_cons_zero, List.set_cons_succ]
                      refine rg_take (i := 11) (d := some 7) (l := #[true, true, true, true, true, true, true, true, true, true, true, true, false]) (fuel := 1) (v := ?_) rfl (by kernel_rfl) (by kernel_rfl) (by kernel_rfl) (by kernel_rfl) (by kernel_rfl) (fun _ _ _ h => h) (by kernel_rfl) ?_ (by assumption) ?_
                      rotate_left 1
                      · (intro wS hSw; (try dsimp only at hSw); go_simp; try with_reducible rfl)
                      try simp only [Act.put, List.setIfInBounds_toArray, List.set_cons_zero, List.set_cons_succ]
                      refine rg_of (rs := [12]) (fuel := 0) (by kernel_rfl) rfl ?_
                      refine rg_step (i := 12) (l := #[true, true, true, true, true, true, true, true, true, true, true, true, true]) rfl (by kernel_rfl) (by kernel_rfl) ?_ AllReadyH.nil
                      intro K hK
                      have QF := (sx.flt _ rfl).1
                      have f0 := QF.cell 0
                      have f1 := QF.cell 1
                      have z0 := QF.frozen 0
                      have z1 := QF.frozen 1
                      simp only [List.getElem?_toArray, List.getElem?_cons_zero, List.getElem?_cons_succ] at f0 f1
                      go_simp
                      go_wp2_with fail
                      have ST := Lib.hid (sx.stored HR.out)
                      refine hK.out _ _ ST.out.1 (fun hHeld => ?_)
                      clear hK HR QF f0 f1 z0 z1 sx
                      refine wpAnyH_done (by kernel_rfl) ?_ _
                      go_wp2_with fail
                      go_meet
                      case rel => exact ⟨_, ge, ga, rfl, by rw [hwD]; exact ST.out⟩
                    exact AllReadyH.nil
                  exact AllReadyH.nil
                exact AllReadyH.nil
              refine rg_step (i := 10) (l := #[true, true, false, true, true, false, false, false, false, false, true, false, false]) rfl (by kernel_rfl) (by kernel_rfl) ?_ ?_
              · intro K hK
                go_simp
                go_wp2_with fail
                refine hK.out _ _ (sx.fault).bx (fun hHeld => ?_)
                replace sx := sx.fault
                clear hK K
                try simp only [Act.put, List.setIfInBounds_toArray, List.set_cons_zero, List.set_cons_succ]
                generalize World.alloc _ _ = wN at sx hHeld ⊢
                refine rg_of (rs := [2]) (fuel := 7) (by kernel_rfl) rfl ?_
                refine rg_step (i := 2) (l := #[true, true, true, true, true, false, false, false, false, false, true, false, false]) rfl (by kernel_rfl) (by kernel_rfl) ?_ ?_
                · intro K hK
                  obtain ⟨vN, wN, run, sx2⟩ := sx.app1 (ty := 22) (c := c) RR.out HM6.out
                  refine wp_append_any (.tmp 28) (.tmp 29) 22 rfl rfl rfl run ?_
                  refine hK.out _ _ sx2.bx (fun hHeld => ?_)
                  clear hK K run sx
                  have sx := sx2
                  clear sx2
                  try simp only [Act.put, List.setIfInBounds_toArray, List.set_cons_zero, List.set_cons_succ]
                  refine rg_of (rs := [5]) (fuel := 6) (by kernel_rfl) rfl ?_
                  refine rg_step (i := 5) (l := #[true, true, true, true, true, true, false, false, false, false, true, false, false]) rfl (by kernel_rfl) (by kernel_rfl) ?_ ?_
                  · intro K hK
                    obtain ⟨vN, wN, run, sx2⟩ := sx.app2 (ty := 22) (c := 1) HM6.out
                    refine wp_append_any (.tmp 30) (.tmp 32) 22 rfl rfl rfl run ?_
                    refine hK.out _ _ sx2.bx (fun hHeld => ?_)
                    clear hK K run sx
                    have sx := sx2
                    clear sx2
                    try simp only [Act.put, List.setIfInBounds_toArray, List.set_cons_zero, List.set_cons_succ]
                    refine rg_of (rs := [6]) (fuel := 5) (by kernel_rfl) rfl ?_
                    refine rg_step (i := 6) (l := #[true, true, true, true, true, true, true, false, false, false, true, false, false]) rfl (by kernel_rfl) (by kernel_rfl) ?_ ?_
                    · intro K hK
                      obtain ⟨Ap, cap, rfl, PR⟩ := sx.pieces PQ.out
                      go_simp
                      go_at_call 13
                      refine (make_any 2 16384 Ap (m + 1) cap _ _ (by kernel_rfl) (by omega) HM7.out PR).mono ?_
                      rintro e wN hres
                      obtain ⟨bv, ge, ga, rfl, HR⟩ := made_of hres
                      have hb := hres.1
                      clear PR hres
                      have sx2 := sx.call hb
                      clear hb sx
                      first | (refine hK.out _ _ sx2.bx (fun hHeld => ?_)) | (go_wp2_with fail; refine hK.out _ _ sx2.bx (fun hHeld => ?_))
                      clear hK K
                      have sx := sx2
                      clear sx2
                      try simp only [Act.put, List.setIfInBounds_toArray, List.set_cons_zero, List.set_cons_succ]
                      refine rg_take (i := 7) (d := some 27) (l := #[true, true, true, true, true, true, true, true, false, false, true, false, false]) (fuel := 4) (v := ?_) rfl (by kernel_rfl) (by kernel_rfl) (by kernel_rfl) (by kernel_rfl) (by kernel_rfl) (fun _ _ _ h => h) (by kernel_rfl) ?_ (by assumption) ?_
                      rotate_left 1
                      · (intro wS hSw; (try dsimp only at hSw); go_simp; try with_reducible rfl)
                      try simp only [Act.put, List.setIfInBounds_toArray, List.set_cons_zero, List.set_cons_succ]
                      refine rg_take (i := 8) (d := some 35) (l := #[true, true, true, true, true, true, true, true, true, false, true, false, false]) (fuel := 3) (v := ?_) rfl (by kernel_rfl) (by kernel_rfl) (by kernel_rfl) (by kernel_rfl) (by kernel_rfl) (fun _ _ _ h => h) (by kernel_rfl) ?_ (by assumption) ?_
                      rotate_left 1
                      · (intro wS hSw; (try dsimp only at hSw); go_simp; try with_reducible rfl)
                      try simp only [Act.put, List.setIfInBounds_toArray, List.set_cons_zero, List.set_cons_succ]
                      refine rg_take (i := 9) (d := some 36) (l := #[true, true, true, true, true, true, true, true, true, true, true, false, false]) (fuel := 2) (v := ?_) rfl (by kernel_rfl) (by kernel_rfl) (by kernel_rfl) (by kernel_rfl) (by kernel_rfl) (fun _ _ _ h => h) (by kernel_rfl) ?_ (by assumption) ?_
                      rotate_left 1
                      · (intro wS hSw; (try dsimp only at hSw); go_simp; try with_reducible rfl)
                      try simp only [Act.put, List.setIfInBounds_toArray, List.set_cons_zero, List.set_cons_succ]
                      refine rg_take (i := 11) (d := some 7) (l := #[true, true, true, true, true, true, true, true, true, true, true, true, false]) (fuel := 1) (v := ?_) rfl (by kernel_rfl) (by kernel_rfl) (by kernel_rfl) (by kernel_rfl) (by kernel_rfl) (fun _ _ _ h => h) (by kernel_rfl) ?_ (by assumption) ?_
                      rotate_left 1
                      · (intro wS hSw; (try dsimp only at hSw); go_simp; try with_reducible rfl)
                      try simp only [Act.put, List.setIfInBounds_toArray, List.set_cons_zero, List.set_cons_succ]
                      refine rg_of (rs := [12]) (fuel := 0) (by kernel_rfl) rfl ?_
                      refine rg_step (i := 12) (l := #[true, true, true, true, true, true, true, true, true, true, true, true, true]) rfl (by kernel_rfl) (by kernel_rfl) ?_ AllReadyH.nil
                      intro K hK
                      have QF := (sx.flt _ rfl).1
                      have f0 := QF.cell 0
                      have f1 := QF.cell 1
                      have z0 := QF.frozen 0
                      have z1 := QF.frozen 1
                      simp only [List.getElem?_toArray, List.getElem?_cons_zero, List.getElem?_cons_succ] at f0 f1
                      go_simp
                      go_wp2_with fail
                      have ST := Lib.hid (sx.stored HR.out)
                      refine hK.out _ _ ST.out.1 (fun hHeld => ?_)
                      clear hK HR QF f0 f1 z0 z1 sx
                      refine wpAnyH_done (by kernel_rfl) ?_ _
                      go_wp2_with fail
                      go_meet
                      case rel => exact ⟨_, ge, ga, rfl, by rw [hwD]; exact ST.out⟩
                    exact AllReadyH.nil
                  exact AllReadyH.nil
                exact AllReadyH.nil
              exact AllReadyH.nil
            refine rg_step (i := 10) (l := #[false, true, false, true, true, false, false, false, false, false, true, false, false]) rfl (by kernel_rfl) (by kernel_rfl) ?_ ?_
            · intro K hK
              go_simp
              go_wp2_with fail
              refine hK.out _ _ (sx.fault).bx (fun hHeld => ?_)
              replace sx := sx.fault
              clear hK K
              try simp only [Act.put, List.setIfInBounds_toArray, List.set_cons_zero, List.set_cons_succ]
              generalize World.alloc _ _ = wN at sx hHeld ⊢
              refine rg_of (rs := [0]) (fuel := 8) (by kernel_rfl) rfl ?_
              refine rg_step (i := 0) (l := #[true, true, false, true, true, false, false, false, false, false, true, false, false]) rfl (by kernel_rfl) (by kernel_rfl) ?_ ?_
              · intro K hK
                go_simp
                go_wp2_with fail
                refine hK.out _ _ (sx.rowed).bx (fun hHeld => ?_)
                replace sx := sx.rowed
                clear hK K
                try simp only [Act.put, List.setIfInBounds_toArray, List.set_cons_zero, List.set_cons_succ]
                generalize World.alloc _ _ = wN at sx hHeld ⊢
                refine rg_of (rs := [2]) (fuel := 7) (by kernel_rfl) rfl ?_
                refine rg_step (i := 2) (l := #[true, true, true, true, true, false, false, false, false, false, true, false, false]) rfl (by kernel_rfl) (by kernel_rfl) ?_ ?_
                · intro K hK
                  obtain ⟨vN, wN, run, sx2⟩ := sx.app1 (ty := 22) (c := c) RR.out HM6.out
                  refine wp_append_any (.tmp 28) (.tmp 29) 22 rfl rfl rfl run ?_
                  refine hK.out _ _ sx2.bx (fun hHeld => ?_)
                  clear hK K run sx
                  have sx := sx2
                  clear sx2
                  try simp only [Act.put, List.setIfInBounds_toArray, List.set_cons_zero, List.set_cons_succ]
                  refine rg_of (rs := [5]) (fuel := 6) (by kernel_rfl) rfl ?_
                  refine rg_step (i := 5) (l := #[true, true, true, true, true, true, false, false, false, false, true, false, false]) rfl (by kernel_rfl) (by kernel_rfl) ?_ ?_
                  · intro K hK
                    obtain ⟨vN, wN, run, sx2⟩ := sx.app2 (ty := 22) (c := 1) HM6.out
                    refine wp_append_any (.tmp 30) (.tmp 32) 22 rfl rfl rfl run ?_
                    refine hK.out _ _ sx2.bx (fun hHeld => ?_)
                    clear hK K run sx
                    have sx := sx2
                    clear sx2
                    try simp only [Act.put, List.setIfInBounds_toArray, List.set_cons_zero, List.set_cons_succ]
                    refine rg_of (rs := [6]) (fuel := 5) (by kernel_rfl) rfl ?_
                    refine rg_step (i := 6) (l := #[true, true, true, true, true, true, true, false, false, false, true, false, false]) rfl (by kernel_rfl) (by kernel_rfl) ?_ ?_
                    · intro K hK
                      obtain ⟨Ap, cap, rfl, PR⟩ := sx.pieces PQ.out
                      go_simp
                      go_at_call 13
                      refine (make_any 2 16384 Ap (m + 1) cap _ _ (by kernel_rfl) (by omega) HM7.out PR).mono ?_
                      rintro e wN hres
                      obtain ⟨bv, ge, ga, rfl, HR⟩ := made_of hres
                      have hb := hres.1
                      clear PR hres
                      have sx2 := sx.call hb
                      clear hb sx
                      first | (refine hK.out _ _ sx2.bx (fun hHeld => ?_)) | (go_wp2_with fail; refine hK.out _ _ sx2.bx (fun hHeld => ?_))
                      clear hK K
                      have sx := sx2
                      clear sx2
                      try simp only [Act.put, List.setIfInBounds_toArray, List.set_cons_zero, List.set_cons_succ]
                      refine rg_take (i := 7) (d := some 27) (l := #[true, true, true, true, true, true, true, true, false, false, true, false, false]) (fuel := 4) (v := ?_) rfl (by kernel_rfl) (by kernel_rfl) (by kernel_rfl) (by kernel_rfl) (by kernel_rfl) (fun _ _ _ h => h) (by kernel_rfl) ?_ (by assumption) ?_
                      rotate_left 1
                      · (intro wS hSw; (try dsimp only at hSw); go_simp; try with_reducible rfl)
                      try simp only [Act.put, List.setIfInBounds_toArray, List.set_cons_zero, List.set_cons_succ]
                      refine rg_take (i := 8) (d := some 35) (l := #[true, true, true, true, true, true, true, true, true, false, true, false, false]) (fuel := 3) (v := ?_) rfl (by kernel_rfl) (by kernel_rfl) (by kernel_rfl) (by kernel_rfl) (by kernel_rfl) (fun _ _ _ h => h) (by kernel_rfl) ?_ (by assumption) ?_
                      rotate_left 1
                      · (intro wS hSw; (try dsimp only at hSw); go_simp; try with_reducible rfl)
                      try simp only [Act.put, List.setIfInBounds_toArray, List.set_cons_zero, List.set_cons_succ]
                      refine rg_take (i := 9) (d := some 36) (l := #[true, true, true, true, true, true, true, true, true, true, true, false, false]) (fuel := 2) (v := ?_) rfl (by kernel_rfl) (by kernel_rfl) (by kernel_rfl) (by kernel_rfl) (by kernel_rfl) (fun _ _ _ h => h) (by kernel_rfl) ?_ (by assumption) ?_
                      rotate_left 1
                      · (intro wS hSw; (try dsimp only at hSw); go_simp; try with_reducible rfl)
                      try simp only [Act.put, List.setIfInBounds_toArray, List.set_cons_zero, List.set_cons_succ]
                      refine rg_take (i := 11) (d := some 7) (l := #[true, true, true, true, true, true, true, true, true, true, true, true, false]) (fuel := 1) (v := ?_) rfl (by kernel_rfl) (by kernel_rfl) (by kernel_rfl) (by kernel_rfl) (by kernel_rfl) (fun _ _ _ h => h) (by kernel_rfl) ?_ (by assumption) ?_
                      rotate_left 1
                      · (intro wS hSw; (try dsimp only at hSw); go_simp; try with_reducible rfl)
                      try simp only [Act.put, List.setIfInBounds_toArray, List.set_cons_zero, List.set_cons_succ]
                      refine rg_of (rs := [12]) (fuel := 0) (by kernel_rfl) rfl ?_
                      refine rg_step (i := 12) (l := #[true, true, true, true, true, true, true, true, true, true, true, true, true]) rfl (by kernel_rfl) (by kernel_rfl) ?_ AllReadyH.nil
                      intro K hK
                      have QF := (sx.flt _ rfl).1
                      have f0 := QF.cell 0
                      have f1 := QF.cell 1
                      have z0 := QF.frozen 0
                      have z1 := QF.frozen 1
                      simp only [List.getElem?_toArray, List.getElem?_cons_zero, List.getElem?_cons_succ] at f0 f1
                      go_simp
                      go_wp2_with fail
                      have ST := Lib.hid (sx.stored HR.out)
                      refine hK.out _ _ ST.out.1 (fun hHeld => ?_)
                      clear hK HR QF f0 f1 z0 z1 sx
                      refine wpAnyH_done (by kernel_rfl) ?_ _
                      go_wp2_with fail
                      go_meet
                      case rel => exact ⟨_, ge, ga, rfl, by rw [hwD]; exact ST.out⟩
                    exact AllReadyH.nil
                  exact AllReadyH.nil
                exact AllReadyH.nil
              exact AllReadyH.nil
            exact AllReadyH.nil
          refine rg_step (i := 10) (l := #[false, true, false, true, false, false, false, false, false, false, true, false, false]) rfl (by kernel_rfl) (by kernel_rfl) ?_ ?_
          · intro K hK
            go_simp
            go_wp2_with fail
            refine hK.out _ _ (sx.fault).bx (fun hHeld => ?_)
            replace sx := sx.fault
            clear hK K
            try simp only [Act.put, List.setIfInBounds_toArray, List.set_cons_zero, List.set_cons_succ]
            generalize World.alloc _ _ = wN at sx hHeld ⊢
            refine rg_of (rs := [0, 4]) (fuel := 9) (by kernel_rfl) rfl ?_
            refine rg_step (i := 0) (l := #[true, true, false, true, false, false, false, false, false, false, true, false, false]) rfl (by kernel_rfl) (by kernel_rfl) ?_ ?_
            · intro K hK
              go_simp
              go_wp2_with fail
              refine hK.out _ _ (sx.rowed).bx (fun hHeld => ?_)
              replace sx := sx.rowed
              clear hK K
              try simp only [Act.put, List.setIfInBounds_toArray, List.set_cons_zero, List.set_cons_succ]
              generalize World.alloc _ _ = wN at sx hHeld ⊢
              refine rg_of (rs := [2, 4]) (fuel := 8) (by kernel_rfl) rfl ?_
              refine rg_step (i := 2) (l := #[true, true, true, true, false, false, false, false, false, false, true, false, false]) rfl (by kernel_rfl) (by kernel_rfl) ?_ ?_
              · intro K hK
                obtain ⟨vN, wN, run, sx2⟩ := sx.app1 (ty := 22) (c := c) RR.out HM6.out
                refine wp_append_any (.tmp 28) (.tmp 29) 22 rfl rfl rfl run ?_
                refine hK.out _ _ sx2.bx (fun hHeld => ?_)
                clear hK K run sx
                have sx := sx2
                clear sx2
                try simp only [Act.put, List.setIfInBounds_toArray, List.set_cons_zero, List.set_cons_succ]
                refine rg_of (rs := [4]) (fuel := 7) (by kernel_rfl) rfl ?_
                refine rg_step (i := 4) (l := #[true, true, true, true, true, false, false, false, false, false, true, false, false]) rfl (by kernel_rfl) (by kernel_rfl) ?_ ?_
                · intro K hK
                  go_simp
                  go_wp2_with fail
                  refine hK.out _ _ (sx.box).bx (fun hHeld => ?_)
                  replace sx := sx.box
                  clear hK K
                  try simp only [Act.put, List.setIfInBounds_toArray, List.set_cons_zero, List.set_cons_succ]
                  generalize World.alloc _ _ = wN at sx hHeld ⊢
                  refine rg_of (rs := [5]) (fuel := 6) (by kernel_rfl) rfl ?_
                  refine rg_step (i := 5) (l := #[true, true, true, true, true, true, false, false, false, false, true, false, false]) rfl (by kernel_rfl) (by kernel_rfl) ?_ ?_
                  · intro K hK
                    obtain ⟨vN, wN, run, sx2⟩ := sx.app2 (ty := 22) (c := 1) HM6.out
                    refine wp_append_any (.tmp 30) (.tmp 32) 22 rfl rfl rfl run ?_
                    refine hK.out _ _ sx2.bx (fun hHeld => ?_)
                    clear hK K run sx
                    have sx := sx2
                    clear sx2
                    try simp only [Act.put, List.setIfInBounds_toArray, List.set_cons_zero, List.set_cons_succ]
                    refine rg_of (rs := [6]) (fuel := 5) (by kernel_rfl) rfl ?_
                    refine rg_step (i := 6) (l := #[true, true, true, true, true, true, true, false, false, false, true, false, false]) rfl (by kernel_rfl) (by kernel_rfl) ?_ ?_
                    · intro K hK
                      obtain ⟨Ap, cap, rfl, PR⟩ := sx.pieces PQ.out
                      go_simp
                      go_at_call 13
                      refine (make_any 2 16384 Ap (m + 1) cap _ _ (by kernel_rfl) (by omega) HM7.out PR).mono ?_
                      rintro e wN hres
                      obtain ⟨bv, ge, ga, rfl, HR⟩ := made_of hres
                      have hb := hres.1
                      clear PR hres
                      have sx2 := sx.call hb
                      clear hb sx
                      first | (refine hK.out _ _ sx2.bx (fun hHeld => ?_)) | (go_wp2_with fail; refine hK.out _ _ sx2.bx (fun hHeld => ?_))
                      clear hK K
                      have sx := sx2
                      clear sx2
                      try simp only [Act.put, List.setIfInBounds_toArray, List.set_cons_zero, List.set_cons_succ]
                      refine rg_take (i := 7) (d := some 27) (l := #[true, true, true, true, true, true, true, true, false, false, true, false, false]) (fuel := 4) (v := ?_) rfl (by kernel_rfl) (by kernel_rfl) (by kernel_rfl) (by kernel_rfl) (by kernel_rfl) (fun _ _ _ h => h) (by kernel_rfl) ?_ (by assumption) ?_
                      rotate_left 1
                      · (intro wS hSw; (try dsimp only at hSw); go_simp; try with_reducible rfl)
                      try simp only [Act.put, List.setIfInBounds_toArray, List.set_cons_zero, List.set_cons_succ]
                      refine rg_take (i := 8) (d := some 35) (l := #[true, true, true, true, true, true, true, true, true, false, true, false, false]) (fuel := 3) (v := ?_) rfl (by kernel_rfl) (by kernel_rfl) (by kernel_rfl) (by kernel_rfl) (by kernel_rfl) (fun _ _ _ h => h) (by kernel_rfl) ?_ (by assumption) ?_
                      rotate_left 1
                      · (intro wS hSw; (try dsimp only at hSw); go_simp; try with_reducible rfl)
                      try simp only [Act.put, List.setIfInBounds_toArray, List.set_cons_zero, List.set_cons_succ]
                      refine rg_take (i := 9) (d := some 36) (l := #[true, true, true, true, true, true, true, true, true, true, true, false, false]) (fuel := 2) (v := ?_) rfl (by kernel_rfl) (by kernel_rfl) (by kernel_rfl) (by kernel_rfl) (by kernel_rfl) (fun _ _ _ h => h) (by kernel_rfl) ?_ (by assumption) ?_
                      rotate_left 1
                      · (intro wS hSw; (try dsimp only at hSw); go_simp; try with_reducible rfl)
                      try simp only [Act.put, List.setIfInBounds_toArray, List.set_cons_zero, List.set_cons_succ]
                      refine rg_take (i := 11) (d := some 7) (l := #[true, true, true, true, true, true, true, true, true, true, true, true, false]) (fuel := 1) (v := ?_) rfl (by kernel_rfl) (by kernel_rfl) (by kernel_rfl) (by kernel_rfl) (by kernel_rfl) (fun _ _ _ h => h) (by kernel_rfl) ?_ (by assumption) ?_
                      rotate_left 1
                      · (intro wS hSw; (try dsimp only at hSw); go_simp; try with_reducible rfl)
                      try simp only [Act.put, List.setIfInBounds_toArray, List.set_cons_zero, List.set_cons_succ]
                      refine rg_of (rs := [12]) (fuel := 0) (by kernel_rfl) rfl ?_
                      refine rg_step (i := 12) (l := #[true, true, true, true, true, true, true, true, true, true, true, true, true]) rfl (by kernel_rfl) (by kernel_rfl) ?_ AllReadyH.nil
                      intro K hK
                      have QF := (sx.flt _ rfl).1
                      have f0 := QF.cell 0
                      have f1 := QF.cell 1
                      have z0 := QF.frozen 0
                      have z1 := QF.frozen 1
                      simp only [List.getElem?_toArray, List.getElem?_cons_zero, List.getElem?_cons_succ] at f0 f1
                      go_simp
                      go_wp2_with fail
                      have ST := Lib.hid (sx.stored HR.out)
                      refine hK.out _ _ ST.out.1 (fun hHeld => ?_)
                      clear hK HR QF f0 f1 z0 z1 sx
                      refine wpAnyH_done (by kernel_rfl) ?_ _
                      go_wp2_with fail
                      go_meet
                      case rel => exact ⟨_, ge, ga, rfl, by rw [hwD]; exact ST.out⟩
                    exact AllReadyH.nil
                  exact AllReadyH.nil
                exact AllReadyH.nil
              refine rg_step (i := 4) (l := #[true, true, false, true, true, false, false, false, false, false, true, false, false]) rfl (by kernel_rfl) (by kernel_rfl) ?_ ?_
              · intro K hK
                go_simp
                go_wp2_with fail
                refine hK.out _ _ (sx.box).bx (fun hHeld => ?_)
                replace sx := sx.box
                clear hK K
                try simp only [Act.put, List.setIfInBounds_toArray, List.set_cons_zero, List.set_cons_succ]
                generalize World.alloc _ _ = wN at sx hHeld ⊢
                refine rg_of (rs := [2]) (fuel := 7) (by kernel_rfl) rfl ?_
                refine rg_step (i := 2) (l := #[true, true, true, true, true, false, false, false, false, false, true, false, false]) rfl (by kernel_rfl) (by kernel_rfl) ?_ ?_
                · intro K hK
                  obtain ⟨vN, wN, run, sx2⟩ := sx.app1 (ty := 22) (c := c) RR.out HM6.out
                  refine wp_append_any (.tmp 28) (.tmp 29) 22 rfl rfl rfl run ?_
                  refine hK.out _ _ sx2.bx (fun hHeld => ?_)
                  clear hK K run sx
                  have sx := sx2
                  clear sx2
                  try simp only [Act.put, List.setIfInBounds_toArray, List.set_cons_zero, List.set_cons_succ]
                  refine rg_of (rs := [5]) (fuel := 6) (by kernel_rfl) rfl ?_
                  refine rg_step (i := 5) (l := #[true, true, true, true, true, true, false, false, false, false, true, false, false]) rfl (by kernel_rfl) (by kernel_rfl) ?_ ?_
                  · intro K hK
                    obtain ⟨vN, wN, run, sx2⟩ := sx.app2 (ty := 22) (c := 1) HM6.out
                    refine wp_append_any (.tmp 30) (.tmp 32) 22 rfl rfl rfl run ?_
                    refine hK.out _ _ sx2.bx (fun hHeld => ?_)
                    clear hK K run sx
                    have sx := sx2
                    clear sx2
                    try simp only [Act.put, List.setIfInBounds_toArray, List.set_cons_zero, List.set_cons_succ]
                    refine rg_of (rs := [6]) (fuel := 5) (by kernel_rfl) rfl ?_
                    refine rg_step (i := 6) (l := #[true, true, true, true, true, true, true, false, false, false, true, false, false]) rfl (by kernel_rfl) (by kernel_rfl) ?_ ?_
                    · intro K hK
                      obtain ⟨Ap, cap, rfl, PR⟩ := sx.pieces PQ.out
                      go_simp
                      go_at_call 13
                      refine (make_any 2 16384 Ap (m + 1) cap _ _ (by kernel_rfl) (by omega) HM7.out PR).mono ?_
                      rintro e wN hres
                      obtain ⟨bv, ge, ga, rfl, HR⟩ := made_of hres
                      have hb := hres.1
                      clear PR hres
                      have sx2 := sx.call hb
                      clear hb sx
                      first | (refine hK.out _ _ sx2.bx (fun hHeld => ?_)) | (go_wp2_with fail; refine hK.out _ _ sx2.bx (fun hHeld => ?_))
                      clear hK K
                      have sx := sx2
                      clear sx2
                      try simp only [Act.put, List.setIfInBounds_toArray, List.set_cons_zero, List.set_cons_succ]
                      refine rg_take (i := 7) (d := some 27) (l := #[true, true, true, true, true, true, true, true, false, false, true, false, false]) (fuel := 4) (v := ?_) rfl (by kernel_rfl) (by kernel_rfl) (by kernel_rfl) (by kernel_rfl) (by kernel_rfl) (fun _ _ _ h => h) (by kernel_rfl) ?_ (by assumption) ?_
                      rotate_left 1
                      · (intro wS hSw; (try dsimp only at hSw); go_simp; try with_reducible rfl)
                      try simp only [Act.put, List.setIfInBounds_toArray, List.set_cons_zero, List.set_cons_succ]
                      refine rg_take (i := 8) (d := some 35) (l := #[true, true, true, true, true, true, true, true, true, false, true, false, false]) (fuel := 3) (v := ?_) rfl (by kernel_rfl) (by kernel_rfl) (by kernel_rfl) (by kernel_rfl) (by kernel_rfl) (fun _ _ _ h => h) (by kernel_rfl) ?_ (by assumption) ?_
                      rotate_left 1
                      · (intro wS hSw; (try dsimp only at hSw); go_simp; try with_reducible rfl)
                      try simp only [Act.put, List.setIfInBounds_toArray, List.set_cons_zero, List.set_cons_succ]
                      refine rg_take (i := 9) (d := some 36) (l := #[true, true, true, true, true, true, true, true, true, true, true, false, false]) (fuel := 2) (v := ?_) rfl (by kernel_rfl) (by kernel_rfl) (by kernel_rfl) (by kernel_rfl) (by kernel_rfl) (fun _ _ _ h => h) (by kernel_rfl) ?_ (by assumption) ?_
                      rotate_left 1
                      · (intro wS hSw; (try dsimp only at hSw); go_simp; try with_reducible rfl)
                      try simp only [Act.put, List.setIfInBounds_toArray, List.set_cons_zero, List.set_cons_succ]
                      refine rg_take (i := 11) (d := some 7) (l := #[true, true, true, true, true, true, true, true, true, true, true, true, false]) (fuel := 1) (v := ?_) rfl (by kernel_rfl) (by kernel_rfl) (by kernel_rfl) (by kernel_rfl) (by kernel_rfl) (fun _ _ _ h => h) (by kernel_rfl) ?_ (by assumption) ?_
                      rotate_left 1
                      · (intro wS hSw; (try dsimp only at hSw); go_simp; try with_reducible rfl)
                      try simp only [Act.put, List.setIfInBounds_toArray, List.set_cons_zero, List.set_cons_succ]
                      refine rg_of (rs := [12]) (fuel := 0) (by kernel_rfl) rfl ?_
                      refine rg_step (i := 12) (l := #[true, true, true, true, true, true, true, true, true, true, true, true, true]) rfl (by kernel_rfl) (by kernel_rfl) ?_ AllReadyH.nil
                      intro K hK
                      have QF := (sx.flt _ rfl).1
                      have f0 := QF.cell 0
                      have f1 := QF.cell 1
                      have z0 := QF.frozen 0
                      have z1 := QF.frozen 1
                      simp only [List.getElem?_toArray, List.getElem?_cons_zero, List.getElem?_cons_succ] at f0 f1
                      go_simp
                      go_wp2_with fail
                      have ST := Lib.hid (sx.stored HR.out)
                      refine hK.out _ _ ST.out.1 (fun hHeld => ?_)
                      clear hK HR QF f0 f1 z0 z1 sx
                      refine wpAnyH_done (by kernel_rfl) ?_ _
                      go_wp2_with fail
                      go_meet
                      case rel => exact ⟨_, ge, ga, rfl, by rw [hwD]; exact ST.out⟩
                    exact AllReadyH.nil
                  exact AllReadyH.nil
                exact AllReadyH.nil
              exact AllReadyH.nil
            refine rg_step (i := 4) (l := #[false, true, false, true, true, false, false, false, false, false, true, false, false]) rfl (by kernel_rfl) (by kernel_rfl) ?_ ?_
            · intro K hK
              go_simp
              go_wp2_with fail
              refine hK.out _ _ (sx.box).bx (fun hHeld => ?_)
              replace sx := sx.box
              clear hK K
              try simp only [Act.put, List.setIfInBounds_toArray, List.set_cons_zero, List.set_cons_succ]
              generalize World.alloc _ _ = wN at sx hHeld ⊢
              refine rg_of (rs := [0]) (fuel := 8) (by kernel_rfl) rfl ?_
              refine rg_step (i := 0) (l := #[true, true, false, true, true, false, false, false, false, false, true, false, false]) rfl (by kernel_rfl) (by kernel_rfl) ?_ ?_
              · intro K hK
                go_simp
                go_wp2_with fail
                refine hK.out _ _ (sx.rowed).bx (fun hHeld => ?_)
                replace sx := sx.rowed
                clear hK K
                try simp only [Act.put, List.setIfInBounds_toArray, List.set_cons_zero, List.set_cons_succ]
                generalize World.alloc _ _ = wN at sx hHeld ⊢
                refine rg_of (rs := [2]) (fuel := 7) (by kernel_rfl) rfl ?_
                refine rg_step (i := 2) (l := #[true, true, true, true, true, false, false, false, false, false, true, false, false]) rfl (by kernel_rfl) (by kernel_rfl) ?_ ?_
                · intro K hK
                  obtain ⟨vN, wN, run, sx2⟩ := sx.app1 (ty := 22) (c := c) RR.out HM6.out
                  refine wp_append_any (.tmp 28) (.tmp 29) 22 rfl rfl rfl run ?_
                  refine hK.out _ _ sx2.bx (fun hHeld => ?_)
                  clear hK K run sx
                  have sx := sx2
                  clear sx2
                  try simp only [Act.put, List.setIfInBounds_toArray, List.set_cons_zero, List.set_cons_succ]
                  refine rg_of (rs := [5]) (fuel := 6) (by kernel_rfl) rfl ?_
                  refine rg_step (i := 5) (l := #[true, true, true, true, true, true, false, false, false, false, true, false, false]) rfl (by kernel_rfl) (by kernel_rfl) ?_ ?_
                  · intro K hK
                    obtain ⟨vN, wN, run, sx2⟩ := sx.app2 (ty := 22) (c := 1) HM6.out
                    refine wp_append_any (.tmp 30) (.tmp 32) 22 rfl rfl rfl run ?_
                    refine hK.out _ _ sx2.bx (fun hHeld => ?_)
                    clear hK K run sx
                    have sx := sx2
                    clear sx2
                    try simp only [Act.put, List.setIfInBounds_toArray, List.set_cons_zero, List.set_cons_succ]
                    refine rg_of (rs := [6]) (fuel := 5) (by kernel_rfl) rfl ?_
                    refine rg_step (i := 6) (l := #[true, true, true, true, true, true, true, false, false, false, true, false, false]) rfl (by kernel_rfl) (by kernel_rfl) ?_ ?_
                    · intro K hK
                      obtain ⟨Ap, cap, rfl, PR⟩ := sx.pieces PQ.out
                      go_simp
                      go_at_call 13
                      refine (make_any 2 16384 Ap (m + 1) cap _ _ (by kernel_rfl) (by omega) HM7.out PR).mono ?_
                      rintro e wN hres
                      obtain ⟨bv, ge, ga, rfl, HR⟩ := made_of hres
                      have hb := hres.1
                      clear PR hres
                      have sx2 := sx.call hb
                      clear hb sx
                      first | (refine hK.out _ _ sx2.bx (fun hHeld => ?_)) | (go_wp2_with fail; refine hK.out _ _ sx2.bx (fun hHeld => ?_))
                      clear hK K
                      have sx := sx2
                      clear sx2
                      try simp only [Act.put, List.setIfInBounds_toArray, List.set_cons_zero, List.set_cons_succ]
                      refine rg_take (i := 7) (d := some 27) (l := #[true, true, true, true, true, true, true, true, false, false, true, false, false]) (fuel := 4) (v := ?_) rfl (by kernel_rfl) (by kernel_rfl) (by kernel_rfl) (by kernel_rfl) (by kernel_rfl) (fun _ _ _ h => h) (by kernel_rfl) ?_ (by assumption) ?_
                      rotate_left 1
                      · (intro wS hSw; (try dsimp only at hSw); go_simp; try with_reducible rfl)
                      try simp only [Act.put, List.setIfInBounds_toArray, List.set_cons_zero, List.set_cons_succ]
                      refine rg_take (i := 8) (d := some 35) (l := #[true, true, true, true, true, true, true, true, true, false, true, false, false]) (fuel := 3) (v := ?_) rfl (by kernel_rfl) (by kernel_rfl) (by kernel_rfl) (by kernel_rfl) (by kernel_rfl) (fun _ _ _ h => h) (by kernel_rfl) ?_ (by assumption) ?_
                      rotate_left 1
                      · (intro wS hSw; (try dsimp only at hSw); go_simp; try with_reducible rfl)
                      try simp only [Act.put, List.setIfInBounds_toArray, List.set_cons_zero, List.set_cons_succ]
                      refine rg_take (i := 9) (d := some 36) (l := #[true, true, true, true, true, true, true, true, true, true, true, false, false]) (fuel := 2) (v := ?_) rfl (by kernel_rfl) (by kernel_rfl) (by kernel_rfl) (by kernel_rfl) (by kernel_rfl) (fun _ _ _ h => h) (by kernel_rfl) ?_ (by assumption) ?_
                      rotate_left 1
                      · (intro wS hSw; (try dsimp only at hSw); go_simp; try with_reducible rfl)
                      try simp only [Act.put, List.setIfInBounds_toArray, List.set_cons_zero, List.set_cons_succ]
                      refine rg_take (i := 11) (d := some 7) (l := #[true, true, true, true, true, true, true, true, true, true, true, true, false]) (fuel := 1) (v := ?_) rfl (by kernel_rfl) (by kernel_rfl) (by kernel_rfl) (by kernel_rfl) (by kernel_rfl) (fun _ _ _ h => h) (by kernel_rfl) ?_ (by assumption) ?_
                      rotate_left 1
                      · (intro wS hSw; (try dsimp only at hSw); go_simp; try with_reducible rfl)
                      try simp only [Act.put, List.setIfInBounds_toArray, List.set_cons_zero, List.set_cons_succ]
                      refine rg_of (rs := [12]) (fuel := 0) (by kernel_rfl) rfl ?_
                      refine rg_step (i := 12) (l := #[true, true, true, true, true, true, true, true, true, true, true, true, true]) rfl (by kernel_rfl) (by kernel_rfl) ?_ AllReadyH.nil
                      intro K hK
                      have QF := (sx.flt _ rfl).1
                      have f0 := QF.cell 0
                      have f1 := QF.cell 1
                      have z0 := QF.frozen 0
                      have z1 := QF.frozen 1
                      simp only [List.getElem?_toArray, List.getElem?_cons_zero, List.getElem?_cons_succ] at f0 f1
                      go_simp
                      go_wp2_with fail
                      have ST := Lib.hid (sx.stored HR.out)
                      refine hK.out _ _ ST.out.1 (fun hHeld => ?_)
                      clear hK HR QF f0 f1 z0 z1 sx
                      refine wpAnyH_done (by kernel_rfl) ?_ _
                      go_wp2_with fail
                      go_meet
                      case rel => exact ⟨_, ge, ga, rfl, by rw [hwD]; exact ST.out⟩
                    exact AllReadyH.nil
                  exact AllReadyH.nil
                exact AllReadyH.nil
              exact AllReadyH.nil
            exact AllReadyH.nil
          exact AllReadyH.nil
      case rest =>
        have hB4 := hB3.alloc hB3.size (.cells #[.int .i64 fe, .int .i64 fa] 30)
        have hV4 := hV3.alloc (.cells #[.int .i64 fe, .int .i64 fa] 30)
        have hA4 : Made ps m (w3.alloc (.cells #[.int .i64 fe, .int .i64 fa] 30)) av fe fa := Made.alloc HRES.out _
        have hp4 : PcOk (w3.alloc (.cells #[.int .i64 fe, .int .i64 fa] 30)) p := hp3.keep ((Below.refl _ _).alloc (Nat.le_refl _) _)
        obtain ⟨g8, ge, ga, rfl, hbc, hG8, hMB⟩ := hcut
        have hbc' : Below (w3.alloc (.cells #[.int .i64 fe, .int .i64 fa] 30)).heap.size (w3.alloc (.cells #[.int .i64 fe, .int .i64 fa] 30)) wc := ⟨hbc.os, hbc.tape, hbc.output, hbc.size, hbc.block⟩
        clear hbc
        have hBc := hB4.trans (hbc'.mono hB4.size)
        have hVc := hV4.below hbc' hV4.lt
        have hFc := hF3.below hbc' hF3.lt
        have hpc := hp4.keep hbc'
        have hMA := Made.keep hA4 hbc'
        clear hB4 hV4 hA4 hp4 hbc' hF3 hV3 hB3 hp3 R3 HRES hB1 v0 v1
        have f0 := hFc.cell 0
        have f1 := hFc.cell 1
        have g0 := hG8.cell 0
        have g1 := hG8.cell 1
        simp only [List.getElem?_toArray, List.getElem?_cons_zero, List.getElem?_cons_succ] at f0 f1 g0 g1
        generalize w3.heap.size = g6 at *
        rcases hMA with ⟨j, hj, hbad, hgd, rfl, rfl, rfl⟩ | ⟨hall, rfl, rfl, gA, C, rfl, hCA, hA⟩
        · rcases hMB with ⟨j2, hj2, hbad2, hgd2, rfl, rfl, rfl⟩ | ⟨hall2, _⟩
          · have e2 : j2 = j := by
              rcases Nat.lt_trichotomy j2 j with h | h | h
              · have h1 := hgd j2 h
                simp only [if_pos (show j2 < m by omega)] at hbad2
                exact absurd h1 hbad2
              · exact h
              · have h1 := hgd2 j h
                simp only [if_pos hj] at h1
                exact absurd h1 hbad
            subst e2
            go_wp2_with fail
            go_ret
            exact ⟨by simp, hBc⟩
          · have h1 := hall2 j (by omega)
            simp only [if_pos hj] at h1
            exact absurd h1 hbad
        · rcases hMB with ⟨j2, hj2, hbad2, hgd2, rfl, rfl, rfl⟩ | ⟨hall2, rfl, rfl, gB, D, rfl, hDB, hD⟩
          · have e2 : j2 = m := by
              rcases Nat.lt_or_ge j2 m with h | h
              · have h1 := hall j2 h
                simp only [if_pos h] at hbad2
                exact absurd h1 hbad2
              · omega
            subst e2
            go_wp2_with fail
            go_ret
            exact ⟨by simp, hBc⟩
          · have GP := hall2 m (by omega)
            simp only [Nat.lt_irrefl, if_false] at GP
            have HVc := Lib.hid hVc
            have HPc := Lib.hid hpc
            have HCA := Lib.hid hCA
            have HDB := Lib.hid hDB
            have HA := Lib.hid hA
            have HD := Lib.hid hD
            have HBc := Lib.hid hBc
            have HGP := Lib.hid GP
            clear hVc hpc hCA hDB hA hD hBc GP hall hall2 hFc hG8 hm hpn i1
            go_wp2_with fail
            clear f0 f1 g0 g1
            go_loopw [9] (fun i wr => ∃ k : Nat, k ≤ 16384 ∧ i = .int .i64 k ∧ Below wc.heap.size wc wr) (fun i _ => 16384 - (intOf i).toNat)
            case atStart => exact ⟨0, Nat.zero_le _, rfl, Below.refl _ _⟩
            case round =>
              obtain ⟨k, hk, rfl, hbr⟩ := hrel
              by_cases hlt : k < 16384
              · have hlt' : (k : Int) < 16384 := by omega
                have k0 : (0 : Int) ≤ (k : Int) := by omega
                have cA : wr.cell? ⟨gA, k, none⟩ = some (.int .u8 (laid ps m k)) := by
                  rw [(HCA.out.below hbr HCA.out.lt).cell]
                  simpa using HA.out.2 k hlt
                have cB : wr.cell? ⟨gB, k, none⟩ = some (.int .u8 (laid (fun i => if i < m then ps i else p) (m + 1) k)) := by
                  rw [(HDB.out.below hbr HDB.out.lt).cell]
                  simpa using HD.out.2 k hlt
                have v0 := (HVc.out.below hbr HVc.out.lt).cell 0
                have v1 := (HVc.out.below hbr HVc.out.lt).cell 1
                simp only [List.getElem?_toArray, List.getElem?_cons_zero, List.getElem?_cons_succ] at v0 v1
                rw [laid_more] at cB
                obtain ⟨t, ht⟩ := Int.eq_ofNat_of_zero_le HGP.out.1
                have ht2 : t ≤ 16384 := by have := HGP.out.2; omega
                rw [ht] at v0 cB
                clear ht
                generalize hx : laid ps m k = x at cA cB
                clear hx
                by_cases hkt : k < t
                · have q0 : (k : Int) < (t : Int) := by omega
                  rw [if_neg (by omega)] at cB
                  go_wp2_with fail
                  go_roundw
                  case rel => exact ⟨k + 1, by omega, by go_num, hbr⟩
                  case measure => simp [intOf]; omega
                · have q0 : (t : Int) ≤ (k : Int) := by omega
                  obtain ⟨j, hj⟩ : ∃ j : Nat, (k : Int) - (t : Int) = j := ⟨k - t, by omega⟩
                  have hw : wrap64 ((k : Int) - (t : Int)) = (j : Int) := by
                    unfold wrap64
                    omega
                  have j0 : (0 : Int) ≤ (j : Int) := by omega
                  by_cases hjn : j < p.n
                  · have j1 : (j : Int) < (p.n : Int) := by omega
                    obtain ⟨ad, e, _, cP, _⟩ := (HPc.out.2.2.2.keep hbr) j hjn
                    rw [if_pos (by omega), hj, Int.toNat_natCast] at cB
                    rw [e] at v1
                    go_wp2_with fail
                    go_roundw
                    case rel => exact ⟨k + 1, by omega, by go_num, hbr⟩
                    case measure => simp [intOf]; omega
                  · have j1 : (p.n : Int) ≤ (j : Int) := by omega
                    rw [if_neg (by omega)] at cB
                    go_wp2_with fail
                    go_roundw
                    case rel => exact ⟨k + 1, by omega, by go_num, hbr⟩
                    case measure => simp [intOf]; omega
              · obtain rfl : k = 16384 := by omega
                go_wp2_with fail
                go_ret
                exact ⟨by simp, HBc.out.trans (hbr.mono HBc.out.size)⟩
    · have i1 : (20000 : Int) < (p.n : Int) := by omega
      go_wp2_with (go_at_call 12; refine (asV (small_any A m c ps HM.out R1) (by rw [HS.out])).mono ?_; rintro e w' ⟨rfl, rfl⟩)
      go_ret
      exact ⟨rfl, hB1⟩
  · have HS := Lib.hid hs
    clear hs
    go_wp2_with (go_at_call 12; refine (asV (small_any A m c ps HM.out R1) (by rw [HS.out])).mono ?_; rintro e w' ⟨rfl, rfl⟩)
    go_ret
    exact ⟨rfl, hB1⟩

end Go.Proofs.Ytfhndajhlpakoaa
