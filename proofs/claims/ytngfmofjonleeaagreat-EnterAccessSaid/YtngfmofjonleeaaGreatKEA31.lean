/-
  Texts of these proofs, one behind the other: Bus4, Bus5, Bus6.
-/
import Derived.Test.YtngfmofjonleeaaGreatKEA29
import Derived.Test.YtngfmofjonleeaaGreatKEA27
import Derived.Test.YtngfmofjonleeaaGreatKEA30
import Derived.Test.YtngfmofjonleeaaGreatKEA03
import Derived.Deep.Cut
import Derived.Deep.CutRange
import Derived.Deep.CutBlock
import Derived.Deep.RegionHeld3
import Derived.Test.YtngfmofjonleeaaGreatKEA05
import Derived.RangeFuncBox
namespace Go.Proofs.YtngfmofjonleeaaGreat
open Go.RowKit
set_option linter.unusedVariables false
set_option linter.unusedSimpArgs false
set_option maxRecDepth 100000
section
variable {w : World} {g : Nat} {d : Hd} {Q : Bp} {s : Bs}
theorem BU.cells (h : BU w g d Q s) : w.cell? ⟨g, 5, none⟩ = some s.rv ∧ w.cell? ⟨g, 6, none⟩ = some (.pointer (some ⟨Q.m, 0, none⟩)) ∧ w.cell? ⟨g, 7, none⟩ = some (.pointer (some ⟨Q.p, 0, none⟩)) ∧ w.cell? ⟨g, 8, none⟩ = some (.int .i64 s.left) ∧ w.cell? ⟨g, 9, none⟩ = some (.bool s.over) ∧ w.cell? ⟨g, 10, none⟩ = some Q.tr :=
  ⟨h.blk.cell 5, h.blk.cell 6, h.blk.cell 7, h.blk.cell 8, h.blk.cell 9, h.blk.cell 10⟩
theorem bworks_any (h : BU w g d Q s) : Calls Tryz.prog 90 #[.pointer (some ⟨g, 0, none⟩)] w fun e w' => e = .returned (.bool true) ∧ w = w' := by
  have c7 := h.cells.2.2.1
  clear h
  go_enter Tryz.func90, Tryz.ntmps90
  go_wp2
  go_ret
  exact ⟨rfl, rfl⟩
theorem BuR.mk0 {v : Value} {s' : Bs} {w' : World} (h : BU w' g d Q s') (k : Kp (bL g Q) w w') : BuR v g d Q s' w (.returned v) w' := ⟨Q, rfl, h, k, fun y hy => .inl hy, rfl, rfl, rfl⟩
/-- None is left. -/
theorem bbegin_none (h : BU w g d Q s) (a : Int) (h0 : s.left = 0) : Calls Tryz.prog 64 #[.pointer (some ⟨g, 0, none⟩), .int .u32 a] w (BuR (.tuple #[.int .i64 0, .bool false]) g d Q { s with over := true } w) := by
  obtain ⟨c5, c6, c7, c8, c9, c10⟩ := h.cells
  have f9 := h.blk.frozen 9
  rw [h0] at c8
  have H := Lib.hid h
  have WK := Lib.hid (bworks_any h)
  clear h
  go_enter Tryz.func64, Tryz.ntmps64
  go_wp2_with fail
  refine WK.out.mono ?_
  rintro e w' ⟨rfl, rfl⟩
  go_wp2_with fail
  go_ret2
  have k : Kp [g] w (w.setCell ⟨g, 9, none⟩ (.bool true)) := (Kp.refl _ _).setCell (p := ⟨g, 9, none⟩) (.inl (by simp)) _
  refine BuR.mk0 (H.out.own (s' := { s with over := true }) k (H.out.blk.set_ 9 _) rfl rfl ⟨rfl, rfl, rfl⟩ rfl H.out.ok) (k.mono (by simp [bL]))
/-- How a bus is behind the beginning of an access. -/
def Bs.beg (s : Bs) (d : Hd) (a : Int) : Bs := { s with left := s.left - 1, now := s.now + lenI s.fast (extraB a), cyc := s.cyc + (1 + oneI (extraB a)), x := s.x.to d s.now }
set_option maxHeartbeats 4000000 in
theorem bbegin_some (h : BU w g d Q s) (a : Int) (a0 : 0 ≤ a) (a1 : a ≤ 4294967295) (h0 : 0 < s.left) (hn : s.now ≤ 1000000000000) (hc : s.cyc ≤ 1000000000000) :
    Calls Tryz.prog 64 #[.pointer (some ⟨g, 0, none⟩), .int .u32 a] w (BuR (.tuple #[.int .i64 s.now, .bool true]) g d Q (s.beg d a) w) := by
  obtain ⟨c5, c6, c7, c8, c9, c10⟩ := h.cells
  have f8 := h.blk.frozen 8
  obtain ⟨o1, o2, o3, o4, o5⟩ := h.ok
  obtain ⟨l, hl⟩ : ∃ l, s.left = l := ⟨_, rfl⟩
  rw [hl] at c8 h0 o3 o4
  have hl0 : (l == 0) = false := by simpa using (show ¬ l = 0 by omega)
  have H := Lib.hid h
  have WK := Lib.hid (bworks_any h)
  have HO := Lib.hid o5
  clear h o5
  go_enter Tryz.func64, Tryz.ntmps64
  go_wp2_with fail
  refine WK.out.mono ?_
  rintro e w' ⟨rfl, rfl⟩
  go_upto_region 7 with fail
  have k1 : Kp [g] w (w.setCell ⟨g, 8, none⟩ (.int .i64 (l - 1))) := (Kp.refl _ _).setCell (p := ⟨g, 8, none⟩) (.inl (by simp)) _
  have h1 : BU (w.setCell ⟨g, 8, none⟩ (.int .i64 (l - 1))) g d Q { s with left := s.left - 1 } := H.out.own (s' := { s with left := s.left - 1 }) k1 (by rw [hl]; exact H.out.blk.set_ 8 _) rfl rfl ⟨rfl, rfl, rfl⟩ rfl ⟨o1, o2, by show 0 ≤ s.left - 1; omega, by show s.left - 1 ≤ _; omega, HO.out⟩
  generalize World.setCell w _ _ = w1 at *
  have H1 := Lib.hid h1
  have K1 := Lib.hid k1
  clear h1 k1 c5 c6 c7 c8 c9 c10 f8
  refine rg_begin (S := fun w' => True) 7 #[false, false, false, false, false, false, false] (by kernel_rfl) (by kernel_rfl) (by kernel_rfl) ?_ (fun hHeld => ?_)
  · all_goals trivial
  refine rg_take (i := 0) (d := some 25) (l := #[true, false, false, false, false, false, false]) (fuel := 6) (v := ?_) rfl (by kernel_rfl) (by kernel_rfl) (by kernel_rfl) (by kernel_rfl) (by kernel_rfl) (fun _ _ _ h => h) (by kernel_rfl) ?_ (by assumption) ?_
  rotate_left 1
  · (intro wS hSw; (try dsimp only at hSw); go_simp; try with_reducible rfl)
  try simp only [Act.put, List.setIfInBounds_toArray, List.set_cons_zero, List.set_cons_succ]
  refine rg_take (i := 1) (d := some 26) (l := #[true, true, false, false, false, false, false]) (fuel := 5) (v := ?_) rfl (by kernel_rfl) (by kernel_rfl) (by kernel_rfl) (by kernel_rfl) (by kernel_rfl) (fun _ _ _ h => h) (by kernel_rfl) ?_ (by assumption) ?_
  rotate_left 1
  · (intro wS hSw; (try dsimp only at hSw); go_simp; try with_reducible rfl)
  try simp only [Act.put, List.setIfInBounds_toArray, List.set_cons_zero, List.set_cons_succ]
  refine rg_take (i := 2) (d := some 27) (l := #[true, true, true, false, false, false, false]) (fuel := 4) (v := ?_) rfl (by kernel_rfl) (by kernel_rfl) (by kernel_rfl) (by kernel_rfl) (by kernel_rfl) (fun _ _ _ h => h) (by kernel_rfl) ?_ (by assumption) ?_
  rotate_left 1
  · (intro wS hSw; (try dsimp only at hSw); go_simp; try with_reducible rfl)
  try simp only [Act.put, List.setIfInBounds_toArray, List.set_cons_zero, List.set_cons_succ]
  refine rg_take (i := 3) (d := some 28) (l := #[true, true, true, true, false, false, false]) (fuel := 3) (v := ?_) rfl (by kernel_rfl) (by kernel_rfl) (by kernel_rfl) (by kernel_rfl) (by kernel_rfl) (fun _ _ _ h => h) (by kernel_rfl) ?_ (by assumption) ?_
  rotate_left 1
  · (intro wS hSw; (try dsimp only at hSw); go_simp; try with_reducible rfl)
  try simp only [Act.put, List.setIfInBounds_toArray, List.set_cons_zero, List.set_cons_succ]
  refine rg_next (i := 4) (l := #[true, true, true, true, true, false, false]) (fuel := 2) (by kernel_rfl) rfl (by kernel_rfl) (by kernel_rfl) (fun K hK => ?_)
  go_simp
  (go_at_call 97)
  refine (extra_any a _ a0 a1).mono ?_
  rintro e w2 ⟨rfl, b2⟩
  replace b2 : Below w1.heap.size w1 w2 := (Below.refl _ _).drew.trans (b2.mono (Nat.le_refl _))
  have H2 := Lib.hid (H1.out.keep b2)
  have K2 := Lib.hid (K1.out.trans (Kp.of_below (L := ([] : List Nat)) b2) (by simp))
  clear b2
  first | (refine hK.out _ _ ?_ (fun hHeld => ?_)) | (go_wp2_with fail; refine hK.out _ _ ?_ (fun hHeld => ?_))
  · (try dsimp only); all_goals trivial
  clear hK K
  try simp only [Act.put, List.setIfInBounds_toArray, List.set_cons_zero, List.set_cons_succ]
  refine rg_next (i := 5) (l := #[true, true, true, true, true, true, false]) (fuel := 1) (by kernel_rfl) rfl (by kernel_rfl) (by kernel_rfl) (fun K hK => ?_)
  go_simp
  (go_at_call 96)
  refine (bkcycle_any (R := buR Q { s with left := s.left - 1 }) (extraB a) H2.out.blk o1 (by show s.now ≤ _; omega) o2 (by show s.cyc ≤ _; omega)).mono ?_
  rintro e w3 ⟨rfl, hb3, gb3⟩
  have k3 := Kp.of_gb gb3
  have H3 := Lib.hid (H2.out.own (s' := { s with left := s.left - 1, now := s.now + lenI s.fast (extraB a), cyc := s.cyc + (1 + oneI (extraB a)) }) k3 hb3 rfl rfl ⟨rfl, rfl, rfl⟩ rfl ⟨by show 0 ≤ s.now + lenI s.fast (extraB a); have := lenI_bd s.fast (extraB a); omega, by show 0 ≤ s.cyc + (1 + oneI (extraB a)); have := oneI_bd (extraB a); omega, by show 0 ≤ s.left - 1; omega, by show s.left - 1 ≤ _; omega, HO.out⟩)
  have K3 := Lib.hid (K2.out.trans k3 (by simp))
  clear hb3 gb3 k3
  first | (refine hK.out _ _ ?_ (fun hHeld => ?_)) | (go_wp2_with fail; refine hK.out _ _ ?_ (fun hHeld => ?_))
  · (try dsimp only); all_goals trivial
  clear hK K
  try simp only [Act.put, List.setIfInBounds_toArray, List.set_cons_zero, List.set_cons_succ]
  refine rg_take (i := 6) (d := some 6) (l := #[true, true, true, true, true, true, true]) (fuel := 0) (v := ?_) rfl (by kernel_rfl) (by kernel_rfl) (by kernel_rfl) (by kernel_rfl) (by kernel_rfl) (fun _ _ _ h => h) (by kernel_rfl) ?_ (by assumption) ?_
  rotate_left 1
  · (intro wS hSw; (try dsimp only at hSw); go_simp; try with_reducible rfl)
  try simp only [Act.put, List.setIfInBounds_toArray, List.set_cons_zero, List.set_cons_succ]
  refine wpAnyH_done (by kernel_rfl) ?_ _
  clear hHeld
  have c7 := H3.out.cells.2.2.1
  clear H1 H2 K1 K2
  go_wp2_with fail
  refine (hgo_any H3.out.pg s.now (by omega)).mono ?_
  rintro e w4 ⟨rfl, hp4, k4⟩
  have H4 := Lib.hid (H3.out.page (y := s.x.to d s.now) (k4.mono (by simp)) hp4)
  have K4 := Lib.hid ((K3.out.mono (M := bL g Q) (by simp [bL])).trans (k4.mono (M := bL g Q) (by simp [bL])) (by intro y hy; exact .inl hy))
  clear hp4 k4 c7
  go_wp2_with fail
  go_ret2
  exact BuR.mk0 H4.out K4.out
/-- What a Peek answers. -/
def Bs.pk (s : Bs) (a : Int) : Int := if whereI a = 0 then readI s.rn s.rz a else if whereI a = 1 then s.f (a % 8192).toNat else 255
set_option maxHeartbeats 4000000 in
theorem bpeek_any (h : BU w g d Q s) (a : Int) (a0 : 0 ≤ a) (a1 : a ≤ 4294967295) :
    Calls Tryz.prog 105 #[.pointer (some ⟨g, 0, none⟩), .int .u32 a] w fun e w' => e = .returned (.int .u8 (s.pk a)) ∧ Below w.heap.size w w' := by
  obtain ⟨c5, c6, c7, c8, c9, c10⟩ := h.cells
  obtain ⟨A, cap, hrv, hr1, hr2, hrow, _, _⟩ := h.rom
  rw [hrv] at c5
  have H := Lib.hid h
  have WK := Lib.hid (bworks_any h)
  obtain ⟨k, hk⟩ : ∃ k, whereI a = k := ⟨_, rfl⟩
  have hpk : s.pk a = if k = 0 then readI s.rn s.rz a else if k = 1 then s.f (a % 8192).toNat else 255 := by unfold Bs.pk; rw [hk]
  have HPK := Lib.hid hpk
  have HKK := Lib.hid hk
  have HROW := Lib.hid hrow
  clear h hpk hk c7 c8 c9 c10 hrow
  go_enter Tryz.func105, Tryz.ntmps105
  go_wp2_with fail
  refine WK.out.mono ?_
  rintro e w' ⟨rfl, rfl⟩
  go_wp2_with fail
  refine (where_v a0 a1 HKK.out).mono ?_
  rintro e w1 ⟨rfl, b1⟩
  have H1 := Lib.hid (H.out.keep b1)
  have B1 := Lib.hid b1
  have ROW1 := Lib.hid (HROW.out.keep b1)
  obtain ⟨c5, c6, c7, c8, c9, c10⟩ := H1.out.cells
  rw [hrv] at c5
  clear b1 c7 c8 c9 c10
  by_cases k0 : k = 0
  · subst k0
    go_wp2_with fail
    refine (read_any A s.rn cap s.rz a (by omega) ROW1.out a0 a1).mono ?_
    rintro e w2 ⟨rfl, b2⟩
    have B2 := Lib.hid (B1.out.trans (b2.mono B1.out.size))
    clear b2
    go_wp2_with fail
    go_ret
    exact ⟨by rw [show s.pk a = readI s.rn s.rz a by unfold Bs.pk; rw [HKK.out]; rfl]; rfl, B2.out⟩
  have n0 : (k == 0) = false := by simpa using k0
  by_cases k1 : k = 1
  · subst k1
    clear c5
    go_upto_region 7 with fail
    refine rg_begin (S := fun w' => w'.cell? ⟨g, 6, none⟩ = some (.pointer (some ⟨Q.m, 0, none⟩))) 8 #[false, false, false, false, false, false, false, false] (by kernel_rfl) (by kernel_rfl) (by kernel_rfl) ?_ (fun hHeld => ?_)
    · exact c6
    refine rg_take (i := 0) (d := some 20) (l := #[true, false, false, false, false, false, false, false]) (fuel := 7) (v := ?_) rfl (by kernel_rfl) (by kernel_rfl) (by kernel_rfl) (by kernel_rfl) (by kernel_rfl) (fun _ _ _ h => h) (by kernel_rfl) ?_ (by assumption) ?_
    rotate_left 1
    · (intro wS hSw; (try dsimp only at hSw); go_simp; try with_reducible rfl)
    try simp only [Act.put, List.setIfInBounds_toArray, List.set_cons_zero, List.set_cons_succ]
    refine rg_take (i := 1) (d := some 21) (l := #[true, true, false, false, false, false, false, false]) (fuel := 6) (v := ?_) rfl (by kernel_rfl) (by kernel_rfl) (by kernel_rfl) (by kernel_rfl) (by kernel_rfl) (fun _ _ _ h => h) (by kernel_rfl) ?_ (by assumption) ?_
    rotate_left 1
    · (intro wS hSw; (try dsimp only at hSw); go_simp; try with_reducible rfl)
    try simp only [Act.put, List.setIfInBounds_toArray, List.set_cons_zero, List.set_cons_succ]
    refine rg_take (i := 2) (d := some 22) (l := #[true, true, true, false, false, false, false, false]) (fuel := 5) (v := ?_) rfl (by kernel_rfl) (by kernel_rfl) (by kernel_rfl) (by kernel_rfl) (by kernel_rfl) (fun _ _ _ h => h) (by kernel_rfl) ?_ (by assumption) ?_
    rotate_left 1
    · (intro wS hSw; (try dsimp only at hSw); go_simp; try with_reducible rfl)
    try simp only [Act.put, List.setIfInBounds_toArray, List.set_cons_zero, List.set_cons_succ]
    refine rg_take (i := 3) (d := some 23) (l := #[true, true, true, true, false, false, false, false]) (fuel := 4) (v := ?_) rfl (by kernel_rfl) (by kernel_rfl) (by kernel_rfl) (by kernel_rfl) (by kernel_rfl) (fun _ _ _ h => h) (by kernel_rfl) ?_ (by assumption) ?_
    rotate_left 1
    · (intro wS hSw; (try dsimp only at hSw); go_simp; try with_reducible rfl)
    try simp only [Act.put, List.setIfInBounds_toArray, List.set_cons_zero, List.set_cons_succ]
    refine rg_take (i := 4) (d := some 24) (l := #[true, true, true, true, true, false, false, false]) (fuel := 3) (v := ?_) rfl (by kernel_rfl) (by kernel_rfl) (by kernel_rfl) (by kernel_rfl) (by kernel_rfl) (fun _ _ _ h => h) (by kernel_rfl) ?_ (by assumption) ?_
    rotate_left 1
    · (intro wS hSw; (try dsimp only at hSw); go_simp; try with_reducible rfl)
    try simp only [Act.put, List.setIfInBounds_toArray, List.set_cons_zero, List.set_cons_succ]
    refine rg_next (i := 5) (l := #[true, true, true, true, true, true, false, false]) (fuel := 2) (by kernel_rfl) rfl (by kernel_rfl) (by kernel_rfl) (fun K hK => ?_)
    go_simp
    (go_at_call 101)
    refine (off_any a _ a0 a1).mono ?_
    rintro e w2 ⟨rfl, rfl⟩
    first | (refine hK.out _ _ ?_ (fun hHeld => ?_)) | (go_wp2_with fail; refine hK.out _ _ ?_ (fun hHeld => ?_))
    · (try dsimp only); exact c6
    clear hK K
    try simp only [Act.put, List.setIfInBounds_toArray, List.set_cons_zero, List.set_cons_succ]
    refine rg_next (i := 6) (l := #[true, true, true, true, true, true, true, false]) (fuel := 1) (by kernel_rfl) rfl (by kernel_rfl) (by kernel_rfl) (fun K hK => ?_)
    go_simp
    (go_at_call 137)
    refine (rread_any (H1.out.kp0 (Kp.refl _ _).drew).ram (offI a) (by unfold offI; omega) (by unfold offI; omega)).mono ?_
    rintro e w3 ⟨rfl, b3⟩
    replace b3 : Below w1.heap.size w1 w3 := (Below.refl _ _).drew.trans (b3.mono (Nat.le_refl _))
    have B3 := Lib.hid (B1.out.trans (b3.mono B1.out.size))
    have c6' := (b3.cell (p := ⟨g, 6, none⟩) H1.out.blk.lt).trans c6
    clear b3
    first | (refine hK.out _ _ ?_ (fun hHeld => ?_)) | (go_wp2_with fail; refine hK.out _ _ ?_ (fun hHeld => ?_))
    · (try dsimp only); exact c6'
    clear hK K
    try simp only [Act.put, List.setIfInBounds_toArray, List.set_cons_zero, List.set_cons_succ]
    refine rg_take (i := 7) (d := some 4) (l := #[true, true, true, true, true, true, true, true]) (fuel := 0) (v := ?_) rfl (by kernel_rfl) (by kernel_rfl) (by kernel_rfl) (by kernel_rfl) (by kernel_rfl) (fun _ _ _ h => h) (by kernel_rfl) ?_ (by assumption) ?_
    rotate_left 1
    · (intro wS hSw; (try dsimp only at hSw); go_simp; try with_reducible rfl)
    try simp only [Act.put, List.setIfInBounds_toArray, List.set_cons_zero, List.set_cons_succ]
    refine wpAnyH_done (by kernel_rfl) ?_ _
    clear hHeld
    go_wp2_with fail
    go_ret
    exact ⟨by rw [show s.pk a = s.f (offI a % 8192).toNat by unfold Bs.pk; rw [HKK.out, show offI a % 8192 = a % 8192 by unfold offI; omega]; rfl]; rfl, B3.out⟩
  · have n1 : (k == 1) = false := by simpa using k1
    clear c5 c6
    go_wp2_with fail
    go_ret
    exact ⟨by rw [show s.pk a = 255 by unfold Bs.pk; rw [HKK.out, if_neg k0, if_neg k1]]; rfl, B1.out⟩
/-- What an access that reads answers, and how a bus is behind it. -/
def Bs.an (s : Bs) (d : Hd) (a : Int) : Int := if bankI a = 255 then s.x.rv d (whereI (plA (offI a))) (regI (plA (offI a))) else s.pk a
def Bs.anS (s : Bs) (d : Hd) (a : Int) : Bs := if bankI a = 255 then { s with x := s.x.rd d (whereI (plA (offI a))) (regI (plA (offI a))) } else s
set_option maxHeartbeats 4000000 in
theorem banswer_any (h : BU w g d Q s) (hl : s.x.lim 1000000) (a : Int) (a0 : 0 ≤ a) (a1 : a ≤ 4294967295) :
    Calls Tryz.prog 67 #[.pointer (some ⟨g, 0, none⟩), .int .u32 a] w (BuR (.int .u8 (s.an d a)) g d Q (s.anS d a) w) := by
  have c7 := h.cells.2.2.1
  have H := Lib.hid h
  have HL := Lib.hid hl
  clear h hl
  by_cases e : bankI a = 255
  · have ea : s.an d a = s.x.rv d (whereI (plA (offI a))) (regI (plA (offI a))) := by unfold Bs.an; rw [if_pos e]
    have eb : s.anS d a = { s with x := s.x.rd d (whereI (plA (offI a))) (regI (plA (offI a))) } := by unfold Bs.anS; rw [if_pos e]
    rw [ea, eb]
    have hb := fun W => bank_any a W a0 a1
    rw [e] at hb
    have HB := Lib.hid hb
    clear ea eb e hb
    go_enter Tryz.func67, Tryz.ntmps67
    go_wp2_with fail
    refine (HB.out _).mono ?_
    rintro e w1 ⟨rfl, rfl⟩
    go_upto_region 2 with fail
    refine rg_begin (S := fun w' => w'.cell? ⟨g, 7, none⟩ = some (.pointer (some ⟨Q.p, 0, none⟩))) 8 #[false, false, false, false, false, false, false, false] (by kernel_rfl) (by kernel_rfl) (by kernel_rfl) ?_ (fun hHeld => ?_)
    · exact c7
    refine rg_take (i := 0) (d := some 8) (l := #[true, false, false, false, false, false, false, false]) (fuel := 7) (v := ?_) rfl (by kernel_rfl) (by kernel_rfl) (by kernel_rfl) (by kernel_rfl) (by kernel_rfl) (fun _ _ _ h => h) (by kernel_rfl) ?_ (by assumption) ?_
    rotate_left 1
    · (intro wS hSw; (try dsimp only at hSw); go_simp; try with_reducible rfl)
    try simp only [Act.put, List.setIfInBounds_toArray, List.set_cons_zero, List.set_cons_succ]
    refine rg_take (i := 1) (d := some 9) (l := #[true, true, false, false, false, false, false, false]) (fuel := 6) (v := ?_) rfl (by kernel_rfl) (by kernel_rfl) (by kernel_rfl) (by kernel_rfl) (by kernel_rfl) (fun _ _ _ h => h) (by kernel_rfl) ?_ (by assumption) ?_
    rotate_left 1
    · (intro wS hSw; (try dsimp only at hSw); go_simp; try with_reducible rfl)
    try simp only [Act.put, List.setIfInBounds_toArray, List.set_cons_zero, List.set_cons_succ]
    refine rg_take (i := 2) (d := some 10) (l := #[true, true, true, false, false, false, false, false]) (fuel := 5) (v := ?_) rfl (by kernel_rfl) (by kernel_rfl) (by kernel_rfl) (by kernel_rfl) (by kernel_rfl) (fun _ _ _ h => h) (by kernel_rfl) ?_ (by assumption) ?_
    rotate_left 1
    · (intro wS hSw; (try dsimp only at hSw); go_simp; try with_reducible rfl)
    try simp only [Act.put, List.setIfInBounds_toArray, List.set_cons_zero, List.set_cons_succ]
    refine rg_take (i := 3) (d := some 11) (l := #[true, true, true, true, false, false, false, false]) (fuel := 4) (v := ?_) rfl (by kernel_rfl) (by kernel_rfl) (by kernel_rfl) (by kernel_rfl) (by kernel_rfl) (fun _ _ _ h => h) (by kernel_rfl) ?_ (by assumption) ?_
    rotate_left 1
    · (intro wS hSw; (try dsimp only at hSw); go_simp; try with_reducible rfl)
    try simp only [Act.put, List.setIfInBounds_toArray, List.set_cons_zero, List.set_cons_succ]
    refine rg_take (i := 4) (d := some 12) (l := #[true, true, true, true, true, false, false, false]) (fuel := 3) (v := ?_) rfl (by kernel_rfl) (by kernel_rfl) (by kernel_rfl) (by kernel_rfl) (by kernel_rfl) (fun _ _ _ h => h) (by kernel_rfl) ?_ (by assumption) ?_
    rotate_left 1
    · (intro wS hSw; (try dsimp only at hSw); go_simp; try with_reducible rfl)
    try simp only [Act.put, List.setIfInBounds_toArray, List.set_cons_zero, List.set_cons_succ]
    refine rg_next (i := 5) (l := #[true, true, true, true, true, true, false, false]) (fuel := 2) (by kernel_rfl) rfl (by kernel_rfl) (by kernel_rfl) (fun K hK => ?_)
    go_simp
    (go_at_call 101)
    refine (off_any a _ a0 a1).mono ?_
    rintro e w2 ⟨rfl, rfl⟩
    first | (refine hK.out _ _ ?_ (fun hHeld => ?_)) | (go_wp2_with fail; refine hK.out _ _ ?_ (fun hHeld => ?_))
    · (try dsimp only); exact c7
    clear hK K
    try simp only [Act.put, List.setIfInBounds_toArray, List.set_cons_zero, List.set_cons_succ]
    refine rg_next (i := 6) (l := #[true, true, true, true, true, true, true, false]) (fuel := 1) (by kernel_rfl) rfl (by kernel_rfl) (by kernel_rfl) (fun K hK => ?_)
    go_simp
    (go_at_call 104)
    refine (hread_any (H.out.kp0 (Kp.refl _ _).drew).pg HL.out (offI a) (by unfold offI; omega) (by unfold offI; omega)).mono ?_
    rintro e w3 ⟨rfl, hp3, k3⟩
    replace k3 : Kp [Q.p, Q.b.v, Q.b.c, Q.b.p] w w3 := ((Kp.refl _ w).drew).trans k3 (fun y hy => .inl hy)
    have H3 := Lib.hid (H.out.page k3 hp3)
    have K3 := Lib.hid (k3.mono (M := bL g Q) (by simp [bL]))
    have c7' := H3.out.cells.2.2.1
    clear hp3 k3
    first | (refine hK.out _ _ ?_ (fun hHeld => ?_)) | (go_wp2_with fail; refine hK.out _ _ ?_ (fun hHeld => ?_))
    · (try dsimp only); exact c7'
    clear hK K
    try simp only [Act.put, List.setIfInBounds_toArray, List.set_cons_zero, List.set_cons_succ]
    refine rg_take (i := 7) (d := some 4) (l := #[true, true, true, true, true, true, true, true]) (fuel := 0) (v := ?_) rfl (by kernel_rfl) (by kernel_rfl) (by kernel_rfl) (by kernel_rfl) (by kernel_rfl) (fun _ _ _ h => h) (by kernel_rfl) ?_ (by assumption) ?_
    rotate_left 1
    · (intro wS hSw; (try dsimp only at hSw); go_simp; try with_reducible rfl)
    try simp only [Act.put, List.setIfInBounds_toArray, List.set_cons_zero, List.set_cons_succ]
    refine wpAnyH_done (by kernel_rfl) ?_ _
    clear hHeld
    go_wp2_with fail
    go_ret
    exact BuR.mk0 H3.out K3.out
  · have ea : s.an d a = s.pk a := by unfold Bs.an; rw [if_neg e]
    have eb : s.anS d a = s := by unfold Bs.anS; rw [if_neg e]
    rw [ea, eb]
    have hb := fun W => bank_any a W a0 a1
    obtain ⟨b, hbb⟩ : ∃ b, bankI a = b := ⟨_, rfl⟩
    rw [hbb] at hb e
    have n1 : (b == 255) = false := by simpa using e
    have HB := Lib.hid hb
    clear ea eb e hb hbb
    go_enter Tryz.func67, Tryz.ntmps67
    go_wp2_with fail
    refine (HB.out _).mono ?_
    rintro e w1 ⟨rfl, rfl⟩
    go_wp2_with fail
    refine (bpeek_any H.out a a0 a1).mono ?_
    rintro e w2 ⟨rfl, b2⟩
    have H2 := Lib.hid (H.out.keep b2)
    have K2 := Lib.hid (Kp.of_below (L := bL g Q) b2)
    clear b2
    go_wp2_with fail
    go_ret
    exact BuR.mk0 H2.out K2.out
/-- How a bus is behind a byte that was written. -/
def Bs.chS (s : Bs) (a v : Int) : Bs :=
  if bankI a = 255 then { s with x := s.x.wr (whereI (plA (offI a))) (regI (plA (offI a))) v } else if whereI a = 1 then { s with f := fw s.f (offI a) v } else s
theorem fw_bd {f : Nat → Int} {a v : Int} (h : ∀ i, i < 8192 → 0 ≤ f i ∧ f i ≤ 255) (v0 : 0 ≤ v) (v1 : v ≤ 255) : ∀ i, i < 8192 → 0 ≤ fw f a v i ∧ fw f a v i ≤ 255 := by
  intro i hi
  unfold fw
  split
  · exact ⟨v0, v1⟩
  · exact h i hi
set_option maxHeartbeats 4000000 in
theorem bchange_any (h : BU w g d Q s) (hl : s.x.lim 1000000) (a v : Int) (a0 : 0 ≤ a) (a1 : a ≤ 4294967295) (v0 : 0 ≤ v) (v1 : v ≤ 255) :
    Calls Tryz.prog 65 #[.pointer (some ⟨g, 0, none⟩), .int .u32 a, .int .u8 v] w (BuR (.tuple #[]) g d Q (s.chS a v) w) := by
  obtain ⟨c5, c6, c7, c8, c9, c10⟩ := h.cells
  have H := Lib.hid h
  have HL := Lib.hid hl
  clear h hl c5 c8 c9 c10
  by_cases e : bankI a = 255
  · have eb : s.chS a v = { s with x := s.x.wr (whereI (plA (offI a))) (regI (plA (offI a))) v } := by unfold Bs.chS; rw [if_pos e]
    rw [eb]
    have hb := fun W => bank_any a W a0 a1
    rw [e] at hb
    have HB := Lib.hid hb
    clear eb e hb c6
    go_enter Tryz.func65, Tryz.ntmps65
    go_wp2_with fail
    refine (HB.out _).mono ?_
    rintro e w1 ⟨rfl, rfl⟩
    go_upto_region 1 with fail
    refine rg_begin (S := fun w' => w'.cell? ⟨g, 7, none⟩ = some (.pointer (some ⟨Q.p, 0, none⟩))) 8 #[false, false, false, false, false, false, false, false] (by kernel_rfl) (by kernel_rfl) (by kernel_rfl) ?_ (fun hHeld => ?_)
    · exact c7
    refine rg_take (i := 0) (d := some 10) (l := #[true, false, false, false, false, false, false, false]) (fuel := 7) (v := ?_) rfl (by kernel_rfl) (by kernel_rfl) (by kernel_rfl) (by kernel_rfl) (by kernel_rfl) (fun _ _ _ h => h) (by kernel_rfl) ?_ (by assumption) ?_
    rotate_left 1
    · (intro wS hSw; (try dsimp only at hSw); go_simp; try with_reducible rfl)
    try simp only [Act.put, List.setIfInBounds_toArray, List.set_cons_zero, List.set_cons_succ]
    refine rg_take (i := 1) (d := some 11) (l := #[true, true, false, false, false, false, false, false]) (fuel := 6) (v := ?_) rfl (by kernel_rfl) (by kernel_rfl) (by kernel_rfl) (by kernel_rfl) (by kernel_rfl) (fun _ _ _ h => h) (by kernel_rfl) ?_ (by assumption) ?_
    rotate_left 1
    · (intro wS hSw; (try dsimp only at hSw); go_simp; try with_reducible rfl)
    try simp only [Act.put, List.setIfInBounds_toArray, List.set_cons_zero, List.set_cons_succ]
    refine rg_take (i := 2) (d := some 12) (l := #[true, true, true, false, false, false, false, false]) (fuel := 5) (v := ?_) rfl (by kernel_rfl) (by kernel_rfl) (by kernel_rfl) (by kernel_rfl) (by kernel_rfl) (fun _ _ _ h => h) (by kernel_rfl) ?_ (by assumption) ?_
    rotate_left 1
    · (intro wS hSw; (try dsimp only at hSw); go_simp; try with_reducible rfl)
    try simp only [Act.put, List.setIfInBounds_toArray, List.set_cons_zero, List.set_cons_succ]
    refine rg_take (i := 3) (d := some 13) (l := #[true, true, true, true, false, false, false, false]) (fuel := 4) (v := ?_) rfl (by kernel_rfl) (by kernel_rfl) (by kernel_rfl) (by kernel_rfl) (by kernel_rfl) (fun _ _ _ h => h) (by kernel_rfl) ?_ (by assumption) ?_
    rotate_left 1
    · (intro wS hSw; (try dsimp only at hSw); go_simp; try with_reducible rfl)
    try simp only [Act.put, List.setIfInBounds_toArray, List.set_cons_zero, List.set_cons_succ]
    refine rg_take (i := 4) (d := some 14) (l := #[true, true, true, true, true, false, false, false]) (fuel := 3) (v := ?_) rfl (by kernel_rfl) (by kernel_rfl) (by kernel_rfl) (by kernel_rfl) (by kernel_rfl) (fun _ _ _ h => h) (by kernel_rfl) ?_ (by assumption) ?_
    rotate_left 1
    · (intro wS hSw; (try dsimp only at hSw); go_simp; try with_reducible rfl)
    try simp only [Act.put, List.setIfInBounds_toArray, List.set_cons_zero, List.set_cons_succ]
    refine rg_take (i := 6) (d := some 16) (l := #[true, true, true, true, true, false, true, false]) (fuel := 2) (v := ?_) rfl (by kernel_rfl) (by kernel_rfl) (by kernel_rfl) (by kernel_rfl) (by kernel_rfl) (fun _ _ _ h => h) (by kernel_rfl) ?_ (by assumption) ?_
    rotate_left 1
    · (intro wS hSw; (try dsimp only at hSw); go_simp; try with_reducible rfl)
    try simp only [Act.put, List.setIfInBounds_toArray, List.set_cons_zero, List.set_cons_succ]
    refine rg_next (i := 5) (l := #[true, true, true, true, true, true, true, false]) (fuel := 1) (by kernel_rfl) rfl (by kernel_rfl) (by kernel_rfl) (fun K hK => ?_)
    go_simp
    (go_at_call 101)
    refine (off_any a _ a0 a1).mono ?_
    rintro e w2 ⟨rfl, rfl⟩
    first | (refine hK.out _ _ ?_ (fun hHeld => ?_)) | (go_wp2_with fail; refine hK.out _ _ ?_ (fun hHeld => ?_))
    · (try dsimp only); exact c7
    clear hK K
    try simp only [Act.put, List.setIfInBounds_toArray, List.set_cons_zero, List.set_cons_succ]
    refine rg_next (i := 7) (l := #[true, true, true, true, true, true, true, true]) (fuel := 0) (by kernel_rfl) rfl (by kernel_rfl) (by kernel_rfl) (fun K hK => ?_)
    go_simp
    (go_at_call 100)
    refine (hwrite_any (H.out.kp0 (Kp.refl _ _).drew).pg HL.out (offI a) v (by unfold offI; omega) (by unfold offI; omega) v0 v1).mono ?_
    rintro e w3 ⟨rfl, hp3, k3⟩
    replace k3 : Kp [Q.p, Q.b.v, Q.b.c, Q.b.p] w w3 := ((Kp.refl _ w).drew).trans k3 (fun y hy => .inl hy)
    have H3 := Lib.hid (H.out.page k3 hp3)
    have K3 := Lib.hid (k3.mono (M := bL g Q) (by simp [bL]))
    have c7' := H3.out.cells.2.2.1
    clear hp3 k3
    first | (refine hK.out _ _ ?_ (fun hHeld => ?_)) | (go_wp2_with fail; refine hK.out _ _ ?_ (fun hHeld => ?_))
    · (try dsimp only); exact c7'
    clear hK K
    try simp only [Act.put, List.setIfInBounds_toArray, List.set_cons_zero, List.set_cons_succ]
    refine wpAnyH_done (by kernel_rfl) ?_ _
    clear hHeld
    go_wp2_with fail
    go_end0
    exact BuR.mk0 H3.out K3.out
  · have hb := fun W => bank_any a W a0 a1
    obtain ⟨b, hbb⟩ : ∃ b, bankI a = b := ⟨_, rfl⟩
    obtain ⟨k, hk⟩ : ∃ k, whereI a = k := ⟨_, rfl⟩
    have eb : s.chS a v = if k = 1 then { s with f := fw s.f (offI a) v } else s := by unfold Bs.chS; rw [if_neg e, hk]
    rw [eb]
    rw [hbb] at hb e
    have n1 : (b == 255) = false := by simpa using e
    have HB := Lib.hid hb
    clear eb e hb hbb c7
    by_cases k1 : k = 1
    · subst k1
      rw [if_pos rfl]
      have HKK := Lib.hid hk
      clear hk
      go_enter Tryz.func65, Tryz.ntmps65
      go_wp2_with fail
      refine (HB.out _).mono ?_
      rintro e w1 ⟨rfl, rfl⟩
      go_wp2_with fail
      refine (where_v a0 a1 HKK.out).mono ?_
      rintro e w2 ⟨rfl, b2⟩
      have H2 := Lib.hid (H.out.keep b2)
      have K2 := Lib.hid (Kp.of_below (L := bL g Q) b2)
      have c6 := H2.out.cells.2.1
      clear b2
      go_upto_region 3 with fail
      refine rg_begin (S := fun w' => w'.cell? ⟨g, 6, none⟩ = some (.pointer (some ⟨Q.m, 0, none⟩))) 8 #[false, false, false, false, false, false, false, false] (by kernel_rfl) (by kernel_rfl) (by kernel_rfl) ?_ (fun hHeld => ?_)
      · exact c6
      refine rg_take (i := 0) (d := some 22) (l := #[true, false, false, false, false, false, false, false]) (fuel := 7) (v := ?_) rfl (by kernel_rfl) (by kernel_rfl) (by kernel_rfl) (by kernel_rfl) (by kernel_rfl) (fun _ _ _ h => h) (by kernel_rfl) ?_ (by assumption) ?_
      rotate_left 1
      · (intro wS hSw; (try dsimp only at hSw); go_simp; try with_reducible rfl)
      try simp only [Act.put, List.setIfInBounds_toArray, List.set_cons_zero, List.set_cons_succ]
      refine rg_take (i := 1) (d := some 23) (l := #[true, true, false, false, false, false, false, false]) (fuel := 6) (v := ?_) rfl (by kernel_rfl) (by kernel_rfl) (by kernel_rfl) (by kernel_rfl) (by kernel_rfl) (fun _ _ _ h => h) (by kernel_rfl) ?_ (by assumption) ?_
      rotate_left 1
      · (intro wS hSw; (try dsimp only at hSw); go_simp; try with_reducible rfl)
      try simp only [Act.put, List.setIfInBounds_toArray, List.set_cons_zero, List.set_cons_succ]
      refine rg_take (i := 2) (d := some 24) (l := #[true, true, true, false, false, false, false, false]) (fuel := 5) (v := ?_) rfl (by kernel_rfl) (by kernel_rfl) (by kernel_rfl) (by kernel_rfl) (by kernel_rfl) (fun _ _ _ h => h) (by kernel_rfl) ?_ (by assumption) ?_
      rotate_left 1
      · (intro wS hSw; (try dsimp only at hSw); go_simp; try with_reducible rfl)
      try simp only [Act.put, List.setIfInBounds_toArray, List.set_cons_zero, List.set_cons_succ]
      refine rg_take (i := 3) (d := some 25) (l := #[true, true, true, true, false, false, false, false]) (fuel := 4) (v := ?_) rfl (by kernel_rfl) (by kernel_rfl) (by kernel_rfl) (by kernel_rfl) (by kernel_rfl) (fun _ _ _ h => h) (by kernel_rfl) ?_ (by assumption) ?_
      rotate_left 1
      · (intro wS hSw; (try dsimp only at hSw); go_simp; try with_reducible rfl)
      try simp only [Act.put, List.setIfInBounds_toArray, List.set_cons_zero, List.set_cons_succ]
      refine rg_take (i := 4) (d := some 26) (l := #[true, true, true, true, true, false, false, false]) (fuel := 3) (v := ?_) rfl (by kernel_rfl) (by kernel_rfl) (by kernel_rfl) (by kernel_rfl) (by kernel_rfl) (fun _ _ _ h => h) (by kernel_rfl) ?_ (by assumption) ?_
      rotate_left 1
      · (intro wS hSw; (try dsimp only at hSw); go_simp; try with_reducible rfl)
      try simp only [Act.put, List.setIfInBounds_toArray, List.set_cons_zero, List.set_cons_succ]
      refine rg_take (i := 6) (d := some 28) (l := #[true, true, true, true, true, false, true, false]) (fuel := 2) (v := ?_) rfl (by kernel_rfl) (by kernel_rfl) (by kernel_rfl) (by kernel_rfl) (by kernel_rfl) (fun _ _ _ h => h) (by kernel_rfl) ?_ (by assumption) ?_
      rotate_left 1
      · (intro wS hSw; (try dsimp only at hSw); go_simp; try with_reducible rfl)
      try simp only [Act.put, List.setIfInBounds_toArray, List.set_cons_zero, List.set_cons_succ]
      refine rg_next (i := 5) (l := #[true, true, true, true, true, true, true, false]) (fuel := 1) (by kernel_rfl) rfl (by kernel_rfl) (by kernel_rfl) (fun K hK => ?_)
      go_simp
      (go_at_call 101)
      refine (off_any a _ a0 a1).mono ?_
      rintro e w3 ⟨rfl, rfl⟩
      first | (refine hK.out _ _ ?_ (fun hHeld => ?_)) | (go_wp2_with fail; refine hK.out _ _ ?_ (fun hHeld => ?_))
      · (try dsimp only); exact c6
      clear hK K
      try simp only [Act.put, List.setIfInBounds_toArray, List.set_cons_zero, List.set_cons_succ]
      refine rg_next (i := 7) (l := #[true, true, true, true, true, true, true, true]) (fuel := 0) (by kernel_rfl) rfl (by kernel_rfl) (by kernel_rfl) (fun K hK => ?_)
      go_simp
      (go_at_call 103)
      refine (rwrite_any (H2.out.kp0 (Kp.refl _ _).drew).ram (offI a) v (by unfold offI; omega) (by unfold offI; omega)).mono ?_
      rintro e w3 ⟨rfl, mb', hr3, k3, hfresh⟩
      replace k3 : Kp (Q.m :: Q.mb.toList) w2 w3 := ((Kp.refl _ w2).drew).trans k3 (fun y hy => .inl hy)
      have H3 := Lib.hid (H2.out.mem k3 hr3 (fw_bd H2.out.ok.2.2.2.2 v0 v1))
      have K3 := Lib.hid (K2.out.trans k3 (by intro y hy; left; simp only [List.mem_cons, Option.mem_toList, Option.mem_def] at hy; rcases hy with hy | hy <;> simp [mem_bL, hy]))
      have c6' := H3.out.cells.2.1
      have HF := Lib.hid hfresh
      clear hr3 k3 hfresh
      first | (refine hK.out _ _ ?_ (fun hHeld => ?_)) | (go_wp2_with fail; refine hK.out _ _ ?_ (fun hHeld => ?_))
      · (try dsimp only); exact c6'
      clear hK K
      try simp only [Act.put, List.setIfInBounds_toArray, List.set_cons_zero, List.set_cons_succ]
      refine wpAnyH_done (by kernel_rfl) ?_ _
      clear hHeld
      go_wp2_with fail
      go_end0
      refine ⟨_, rfl, H3.out, K3.out, fun y hy => ?_, rfl, rfl, rfl⟩
      have hsz := K2.out.size
      rcases mem_bL.1 hy with h | h | h | h | h | h | h | h
      · exact .inl (mem_bL.2 (.inl h))
      · exact .inl (mem_bL.2 (.inr (.inl h)))
      · dsimp only at h
        rcases HF.out with e | ⟨b', e, hb'⟩
        · exact .inl (mem_bL.2 (.inr (.inr (.inl (by rw [← e]; exact h)))))
        · right
          rw [e] at h
          injection h with h
          have : w2.heap.size ≤ b' := hb'
          omega
      all_goals exact .inl (mem_bL.2 (by simp [h]))
    · have n2 : (k == 1) = false := by simpa using k1
      rw [if_neg k1]
      have HKK := Lib.hid hk
      clear hk
      go_enter Tryz.func65, Tryz.ntmps65
      go_wp2_with fail
      refine (HB.out _).mono ?_
      rintro e w1 ⟨rfl, rfl⟩
      go_wp2_with fail
      refine (where_v a0 a1 HKK.out).mono ?_
      rintro e w2 ⟨rfl, b2⟩
      have H2 := Lib.hid (H.out.keep b2)
      have K2 := Lib.hid (Kp.of_below (L := bL g Q) b2)
      have c6 := H2.out.cells.2.1
      clear b2
      go_wp2_with fail
      go_end0
      exact BuR.mk0 H2.out K2.out
end
end Go.Proofs.YtngfmofjonleeaaGreat
namespace Go.Proofs.YtngfmofjonleeaaGreat
open Go.RowKit
set_option linter.unusedVariables false
set_option linter.unusedSimpArgs false
set_option maxRecDepth 100000
/-- An append whose run is known, anywhere. -/
theorem wp_append_anyB {P : Program} {w w' : World} {o : Oper} {a : Act} {K : Act → World → Prop} {Q : Exit → Act → World → Prop} (s x : Operand) (t : TypeId)
    (ho : o.op = .call { callee := .builtin .append, args := #[s, x], argTypes := #[t, t] }) {v u v' : Value} (hs : a.eval s = v) (hx : a.eval x = u)
    (hrun : (Builtin.append_ #[t, t] o.type #[v, u]).run P w = .ok v' w') (h : K (a.put o.dst v') w') : Oper.wp P o a w K Q := by
  unfold Oper.wp execOp
  simp only [ho, resolve, invoke, builtin, Sem.run_bind, Sem.run_pure, Result.andThen_ok, List.map_toArray, List.map_cons, List.map_nil, hs, hx, hrun]
  exact h
theorem acc_info : (Tryz.prog.info? 129).map (fun i => (i.zero, i.size, i.bytes)) = some (some (.agg #[.int .i64 0, .int .u32 0, .int .u8 0, .bool false, .int .u8 0]), 5, 16) := by kernel_rfl
/-- Behind what was told one access more. -/
theorem more_acc {ty : TypeId} {w : World} {n : Nat} {v : Value} {xs : List Value} (hown : w.ownsRow 0 129 5 v n xs) (a : Acc) (hn : n ≤ 1000000) :
    ∃ v' w', (Builtin.append_ #[52, 52] ty #[v, .slice (some ⟨w.heap.size, 0, none⟩) 1 1]).run Tryz.prog (w.alloc (.cells (accC a).toArray 129)) = .ok v' w' ∧ w'.ownsRow 0 129 5 v' (n + 1) (xs ++ accC a) ∧
      (w.alloc (.cells (accC a).toArray 129)).grownBy w' v.ownBlock ∧ (v'.ownBlock = v.ownBlock ∨ v'.ownBlock = some (w.heap.size + 1)) := by
  obtain ⟨i, hi, hzz⟩ := Option.map_eq_some_iff.1 acc_info
  simp only [Prod.mk.injEq] at hzz
  obtain ⟨hz, hs, hb⟩ := hzz
  obtain ⟨v', w', h1', h2, h3, _, h5⟩ := run_append_own_at (P := Tryz.prog) (w.alloc (.cells (accC a).toArray 129)) 0 52 ty 129 i _ 5 16 Tryz.underlying52 hi hz hs hb rfl (by decide) v n xs (hown.alloc _) ⟨w.heap.size, 0, none⟩ 1 1 (accC a) rfl
    (fun j u hu => by
      rw [add_zero_block, cell_of_row _ _ j _ 129 (0, 0) (heap_alloc_new w _)]
      simpa using hu)
    (fun u hu => by simp only [accC, List.mem_cons, List.not_mem_nil, or_false] at hu; rcases hu with rfl | rfl | rfl | rfl | rfl <;> rfl) (by unfold maxLen; omega) (by omega) (by simp)
  refine ⟨v', w', h1', h2, h3, ?_⟩
  rcases h5 with h5 | h5
  · exact .inl h5
  · right; rw [h5]; simp
section
variable {w : World} {g : Nat} {d : Hd} {Q : Bp} {s : Bs}
/-- An access more is told. -/
theorem BU.told (h : BU w g d Q s) (a : Acc) {v' : Value} {w5 : World} (own : w5.ownsRow 0 129 5 v' (s.tl.length + 1) (accL s.tl ++ accC a))
    (gb : (w.alloc (.cells (accC a).toArray 129)).grownBy w5 Q.tr.ownBlock) (fr : v'.ownBlock = Q.tr.ownBlock ∨ v'.ownBlock = some (w.heap.size + 1)) :
    BuR (.tuple #[]) g d Q { s with tl := s.tl ++ [a] } w (.returned (.tuple #[])) (w5.setCell ⟨g, 10, none⟩ v') ∧ Kp (bL g Q) w w5 := by
  have ka : Kp [] w (w.alloc (.cells (accC a).toArray 129)) := (Kp.refl _ _).alloc _
  have kb : Kp Q.tr.ownBlock.toList (w.alloc (.cells (accC a).toArray 129)) w5 := ⟨gb.os, gb.tape, gb.output, gb.size, fun k hk hr => gb.block k hk (fun e => hr (by rw [← e]; simp))⟩
  have k1 : Kp Q.tr.ownBlock.toList w w5 := (ka.mono (by simp)).trans kb (fun y hy => .inl hy)
  have k2 : Kp [g] w5 (w5.setCell ⟨g, 10, none⟩ v') := (Kp.refl _ _).setCell (p := ⟨g, 10, none⟩) (.inl (by simp)) _
  have k3 : Kp (g :: Q.tr.ownBlock.toList) w (w5.setCell ⟨g, 10, none⟩ v') := (k1.mono (fun y hy => List.mem_cons_of_mem _ hy)).trans (k2.mono (M := g :: Q.tr.ownBlock.toList) (by simp)) (fun y hy => .inl hy)
  obtain ⟨⟨v1, b1⟩, ⟨v2, b2⟩, ⟨v3, b3⟩, ⟨cp, bp⟩⟩ := h.boxes
  have nb : ∀ y ∈ g :: Q.tr.ownBlock.toList, NB w y := fun y hy => h.nb y (mem_bL.2 (by
    simp only [List.mem_cons, Option.mem_toList, Option.mem_def] at hy
    rcases hy with hy | hy <;> simp [hy]))
  have off : ∀ {u : Nat} {t : TypeId} {cs : Array Value}, Blk w u t cs → t ≠ 119 → t ≠ 129 → u ∉ g :: Q.tr.ownBlock.toList := fun hu n1 n2 hy => by
    simp only [List.mem_cons, Option.mem_toList, Option.mem_def] at hy
    rcases hy with rfl | e
    · exact hu.ne_ h.blk n1 rfl
    · obtain ⟨cs', hc⟩ := tr_blk h.tr _ e; exact hu.ne_ hc n2 rfl
  have hgt : g ∉ Q.tr.ownBlock.toList := fun hy => by
    simp only [Option.mem_toList, Option.mem_def] at hy
    obtain ⟨cs', hc⟩ := tr_blk h.tr _ hy; exact h.blk.ne_ hc (by decide) rfl
  have hglt := h.blk.lt
  have hbu : BU (w5.setCell ⟨g, 10, none⟩ v') g d { Q with tr := v' } { s with tl := s.tl ++ [a] } := by
    refine ⟨(h.blk.kp k1 hgt).set_ 10 v', h.ram.kp k3 (off h.ram.1 (by decide) (by decide)) ?_, h.pg.kpN k3 nb ⟨off bp (by decide) (by decide), off b1 (by decide) (by decide), off b2 (by decide) (by decide), off b3 (by decide) (by decide)⟩, h.rom.kpN k3 nb, ?_, h.ok⟩
    · intro b e hy
      obtain ⟨es, k, hh⟩ := h.ram.map_at b e
      simp only [List.mem_cons, Option.mem_toList, Option.mem_def] at hy
      rcases hy with rfl | e2
      · exact not_map h.blk hh
      · obtain ⟨cs', hc⟩ := tr_blk h.tr _ e2; exact not_map hc hh
    · show (w5.setCell ⟨g, 10, none⟩ v').ownsRow 0 129 5 v' (s.tl ++ [a]).length (accL (s.tl ++ [a]))
      rw [accL_snoc, List.length_append]
      refine own_kpL own k2 fun b e hy => ?_
      obtain rfl : b = g := by simpa using hy
      rcases fr with fr | fr
      · rw [fr] at e; exact hgt (by simp [e])
      · rw [fr] at e; injection e with e; omega
  have hK : Kp (bL g Q) w (w5.setCell ⟨g, 10, none⟩ v') := k3.mono (fun y hy => mem_bL.2 (by
    simp only [List.mem_cons, Option.mem_toList, Option.mem_def] at hy
    rcases hy with hy | hy <;> simp [hy]))
  refine ⟨⟨_, rfl, hbu, hK, fun y hy => ?_, rfl, rfl, rfl⟩, k1.mono (fun y hy => mem_bL.2 (by simp only [Option.mem_toList, Option.mem_def] at hy; simp [hy]))⟩
  rcases mem_bL.1 hy with e | e | e | e | e | e | e | e
  · exact .inl (mem_bL.2 (.inl e))
  · exact .inl (mem_bL.2 (.inr (.inl e)))
  · exact .inl (mem_bL.2 (.inr (.inr (.inl e))))
  · exact .inl (mem_bL.2 (.inr (.inr (.inr (.inl e)))))
  · exact .inl (mem_bL.2 (.inr (.inr (.inr (.inr (.inl e))))))
  · exact .inl (mem_bL.2 (.inr (.inr (.inr (.inr (.inr (.inl e)))))))
  · exact .inl (mem_bL.2 (.inr (.inr (.inr (.inr (.inr (.inr (.inl e))))))))
  · have e : v'.ownBlock = some y := e
    rcases fr with fr | fr
    · rw [fr] at e; exact .inl (mem_bL.2 (.inr (.inr (.inr (.inr (.inr (.inr (.inr (e)))))))))
    · right; rw [fr] at e; injection e with e; omega
theorem BU.told_cell (h : BU w g d Q s) {C : Obj} {w5 : World} (gb : (w.alloc C).grownBy w5 Q.tr.ownBlock) : w5.cell? ⟨g, 10, none⟩ = some Q.tr ∧ w5.frozen? ⟨g, 10, none⟩ = false := by
  have hb : Blk w5 g 119 (buC Q s) := Blk.grown (Blk.alloc h.blk C) gb (fun e => by
    obtain ⟨cs', hc⟩ := tr_blk h.tr g e.symm; exact h.blk.ne_ hc (by decide) rfl)
  exact ⟨hb.cell 10, hb.frozen 10⟩
theorem BuR.after {v : Value} {w w1 w' : World} {e : Ending} {g : Nat} {d : Hd} {Q : Bp} {s : Bs} (K : Kp (bL g Q) w w1) (h : BuR v g d Q s w1 e w') : BuR v g d Q s w e w' := by
  obtain ⟨Q', rfl, hb, k, fr, e1, e2, e3⟩ := h
  refine ⟨Q', rfl, hb, K.trans k (fun y hy => .inl hy), fun y hy => ?_, e1, e2, e3⟩
  rcases fr y hy with h1 | h1
  · exact .inl h1
  · exact .inr (Nat.le_trans K.size h1)
set_option maxHeartbeats 8000000 in
theorem btell_any (h : BU w g d Q s) (hn : s.tl.length ≤ 1000000) (st a kd : Int) (wr : Bool) (dt : Int) (a0 : 0 ≤ a) (a1 : a ≤ 4294967295) :
    Calls Tryz.prog 66 #[.pointer (some ⟨g, 0, none⟩), .agg #[.int .i64 st, .int .u32 a, .int .u8 kd, .bool wr, .int .u8 dt]] w (BuR (.tuple #[]) g d Q { s with tl := s.tl ++ [⟨st, a % 2097152, kd, wr, dt⟩] } w) := by
  have hx1 : Blk (w.alloc (.cells #[.int .i64 st, .int .u32 a, .int .u8 kd, .bool wr, .int .u8 dt] 129)) w.heap.size 129 #[.int .i64 st, .int .u32 a, .int .u8 kd, .bool wr, .int .u8 dt] := Blk.new_ rfl
  have h1 : BU (w.alloc (.cells #[.int .i64 st, .int .u32 a, .int .u8 kd, .bool wr, .int .u8 dt] 129)) g d Q s := h.kp0 ((Kp.refl _ _).alloc _)
  have k1 : Kp [] w (w.alloc (.cells #[.int .i64 st, .int .u32 a, .int .u8 kd, .bool wr, .int .u8 dt] 129)) := (Kp.refl _ _).alloc _
  have hlt := h.lt
  go_enter Tryz.func66, Tryz.ntmps66
  go_upto_region 1 with fail
  generalize hbx : w.heap.size = bx at *
  generalize World.alloc w _ = w1 at *
  have H1 := Lib.hid h1
  have K1 := Lib.hid k1
  have HX1 := Lib.hid hx1
  have HLT := Lib.hid hlt
  have e1 := hx1.cell 1
  have z1 := hx1.frozen 1
  clear h1 k1 hx1 h hlt
  have hA : bankI a * 8192 + offI a % 8192 = a % 2097152 := by unfold bankI offI; omega
  have hbk : 0 ≤ bankI a ∧ bankI a ≤ 255 := by unfold bankI; omega
  have hof : 0 ≤ offI a ∧ offI a ≤ 65535 := by unfold offI; omega
  go_region_with (first | (go_at_call 99; refine (bank_any a _ a0 a1).mono ?_; rintro e w' ⟨rfl, rfl⟩) | (go_at_call 101; refine (off_any a _ a0 a1).mono ?_; rintro e w' ⟨rfl, rfl⟩) | (go_at_call 62; refine (addr_v hbk.1 hbk.2 hof.1 hof.2 hA).mono ?_; rintro e w' ⟨rfl, rfl⟩))
  all_goals
    go_wp2_with fail
    go_upto_region 2 with fail
    have kA : Kp [bx] w1 ((w1.setCell ⟨bx, 1, none⟩ (.int .u32 (a % 2097152))).drew) := ((Kp.refl _ _).setCell (p := ⟨bx, 1, none⟩) (.inl (by simp)) _).drew
    have hbxn : bx ∉ bL g Q := fun hy => by have := HLT.out bx hy; omega
    have nbx : ∀ y ∈ [bx], NB w1 y := fun y hy => (List.mem_singleton.1 hy) ▸ NB.of HX1.out (by decide) (by decide)
    have h2 : BU ((w1.setCell ⟨bx, 1, none⟩ (.int .u32 (a % 2097152))).drew) g d Q s := H1.out.kp kA nbx (fun y hy e => hbxn ((List.mem_singleton.1 e) ▸ hy))
    have x2 : Blk ((w1.setCell ⟨bx, 1, none⟩ (.int .u32 (a % 2097152))).drew) bx 129 (accC ⟨st, a % 2097152, kd, wr, dt⟩).toArray := HX1.out.set_ 1 _
    have k2 : Kp (bL g Q) w ((w1.setCell ⟨bx, 1, none⟩ (.int .u32 (a % 2097152))).drew) := (K1.out.mono (by simp)).trans kA (fun y hy => .inr (by rw [List.mem_singleton.1 hy]; exact Nat.le_of_eq hbx))
    clear kA e1 z1
    generalize (World.setCell w1 _ _).drew = w2 at *
    have X2 := Lib.hid x2
    have H2 := Lib.hid h2
    have K2 := Lib.hid k2
    have HBN := Lib.hid hbxn
    clear x2 h2 k2 hbxn nbx H1 K1 HX1 HLT
    refine rg_begin (S := fun w' => w'.cell? ⟨bx, 0, none⟩ = some (.int .i64 st) ∧ w'.cell? ⟨bx, 1, none⟩ = some (.int .u32 (a % 2097152)) ∧ w'.cell? ⟨bx, 2, none⟩ = some (.int .u8 kd) ∧ w'.cell? ⟨bx, 3, none⟩ = some (.bool wr) ∧ w'.cell? ⟨bx, 4, none⟩ = some (.int .u8 dt)) 11 #[false, false, false, false, false, false, false, false, false, false, false] (by kernel_rfl) (by kernel_rfl) (by kernel_rfl) ?_ (fun hHeld => ?_)
    · exact ⟨X2.out.cell 0, X2.out.cell 1, X2.out.cell 2, X2.out.cell 3, X2.out.cell 4⟩
    have XD := Lib.hid (X2.out.kp (Kp.refl [] _).drew (by simp))
    have HD := Lib.hid (H2.out.kp0 (Kp.refl [] _).drew)
    have KD := Lib.hid (K2.out.drew)
    clear X2 H2 K2
    generalize World.drew w2 = wD at *
    refine rg_take (i := 0) (d := some 12) (l := #[true, false, false, false, false, false, false, false, false, false, false]) (fuel := 10) (v := ?_) rfl (by kernel_rfl) (by kernel_rfl) (by kernel_rfl) (by kernel_rfl) (by kernel_rfl) (fun _ _ _ h => h) (by kernel_rfl) ?_ (by assumption) ?_
    rotate_left 1
    · (intro wS hSw; (try dsimp only at hSw); go_simp; try with_reducible rfl)
    try simp only [Act.put, List.setIfInBounds_toArray, List.set_cons_zero, List.set_cons_succ]
    refine rg_take (i := 1) (d := some 13) (l := #[true, true, false, false, false, false, false, false, false, false, false]) (fuel := 9) (v := ?_) rfl (by kernel_rfl) (by kernel_rfl) (by kernel_rfl) (by kernel_rfl) (by kernel_rfl) (fun _ _ _ h => h) (by kernel_rfl) ?_ (by assumption) ?_
    rotate_left 1
    · (intro wS hSw; (try dsimp only at hSw); go_simp; try with_reducible rfl)
    try simp only [Act.put, List.setIfInBounds_toArray, List.set_cons_zero, List.set_cons_succ]
    refine rg_take (i := 2) (d := some 14) (l := #[true, true, true, false, false, false, false, false, false, false, false]) (fuel := 8) (v := ?_) rfl (by kernel_rfl) (by kernel_rfl) (by kernel_rfl) (by kernel_rfl) (by kernel_rfl) (fun _ _ _ h => h) (by kernel_rfl) ?_ (by assumption) ?_
    rotate_left 1
    · (intro wS hSw; (try dsimp only at hSw); go_simp; try with_reducible rfl)
    try simp only [Act.put, List.setIfInBounds_toArray, List.set_cons_zero, List.set_cons_succ]
    refine rg_take (i := 3) (d := some 15) (l := #[true, true, true, true, false, false, false, false, false, false, false]) (fuel := 7) (v := ?_) rfl (by kernel_rfl) (by kernel_rfl) (by kernel_rfl) (by kernel_rfl) (by kernel_rfl) (fun _ _ _ h => h) (by kernel_rfl) ?_ (by assumption) ?_
    rotate_left 1
    · (intro wS hSw; (try dsimp only at hSw); go_simp; try with_reducible rfl)
    try simp only [Act.put, List.setIfInBounds_toArray, List.set_cons_zero, List.set_cons_succ]
    refine rg_take (i := 5) (d := some 17) (l := #[true, true, true, true, false, true, false, false, false, false, false]) (fuel := 6) (v := ?_) rfl (by kernel_rfl) (by kernel_rfl) (by kernel_rfl) (by kernel_rfl) (by kernel_rfl) (fun _ _ _ h => h) (by kernel_rfl) ?_ (by assumption) ?_
    rotate_left 1
    · (intro wS hSw; (try dsimp only at hSw); go_simp; try with_reducible rfl)
    try simp only [Act.put, List.setIfInBounds_toArray, List.set_cons_zero, List.set_cons_succ]
    obtain ⟨v', w5, hrun, own, gb, fr⟩ := more_acc (ty := 52) HD.out.tr ⟨st, a % 2097152, kd, wr, dt⟩ hn
    obtain ⟨gt, ct, rfl⟩ := ownsRow_succ own
    have BT := Lib.hid (HD.out.told ⟨st, a % 2097152, kd, wr, dt⟩ own gb fr)
    have RUN := Lib.hid hrun
    have X4 := Lib.hid (XD.out.alloc (.cells (accC ⟨st, a % 2097152, kd, wr, dt⟩).toArray 129))
    have X5 := Lib.hid (X4.out.grown gb (fun e => HBN.out (by rw [mem_bL]; exact .inr (.inr (.inr (.inr (.inr (.inr (.inr e.symm)))))))))
    have X6 := Lib.hid (X5.out.far (p := ⟨g, 10, none⟩) (fun e => HBN.out (by rw [mem_bL]; exact .inl e)) (.slice (some ⟨gt, 0, none⟩) (s.tl.length + 1) ct))
    have c10 := HD.out.cells.2.2.2.2.2
    have c10a : (wD.alloc (.cells #[.int .i64 st, .int .u32 (a % 2097152), .int .u8 kd, .bool wr, .int .u8 dt] 129)).cell? ⟨g, 10, none⟩ = some Q.tr := (HD.out.kp0 ((Kp.refl _ _).alloc _)).cells.2.2.2.2.2
    obtain ⟨c10b, z10⟩ := HD.out.told_cell gb
    clear hrun own gb fr
    refine rg_of (rs := [4, 6]) (fuel := 5) (by kernel_rfl) rfl ?_
    refine rg_step (i := 4) (l := #[true, true, true, true, true, true, false, false, false, false, false]) rfl (by kernel_rfl) (by kernel_rfl) ?_ ?_
    · intro K hK
      go_simp
      skip
      first | (refine hK.out _ _ ?_ (fun hHeld => ?_)) | (go_wp2_with fail; refine hK.out _ _ ?_ (fun hHeld => ?_))
      · (try dsimp only); exact ⟨XD.out.cell 0, XD.out.cell 1, XD.out.cell 2, XD.out.cell 3, XD.out.cell 4⟩
      clear hK K
      try simp only [Act.put, List.setIfInBounds_toArray, List.set_cons_zero, List.set_cons_succ]
      refine rg_next (i := 6) (l := #[true, true, true, true, true, true, true, false, false, false, false]) (fuel := 4) (by kernel_rfl) rfl (by kernel_rfl) (by kernel_rfl) (fun K hK => ?_)
      go_simp
      skip
      first | (refine hK.out _ _ ?_ (fun hHeld => ?_)) | (go_wp2_with fail; refine hK.out _ _ ?_ (fun hHeld => ?_))
      · (try dsimp only); exact ⟨X4.out.cell 0, X4.out.cell 1, X4.out.cell 2, X4.out.cell 3, X4.out.cell 4⟩
      clear hK K
      try simp only [Act.put, List.setIfInBounds_toArray, List.set_cons_zero, List.set_cons_succ]
      refine rg_next (i := 7) (l := #[true, true, true, true, true, true, true, true, false, false, false]) (fuel := 3) (by kernel_rfl) rfl (by kernel_rfl) (by kernel_rfl) (fun K hK => ?_)
      refine wp_append_anyB (.tmp 16) (.tmp 18) 52 rfl rfl rfl RUN.out ?_
      refine hK.out _ _ ?_ (fun hHeld => ?_)
      · (try dsimp only); exact ⟨X5.out.cell 0, X5.out.cell 1, X5.out.cell 2, X5.out.cell 3, X5.out.cell 4⟩
      clear hK K
      try simp only [Act.put, List.setIfInBounds_toArray, List.set_cons_zero, List.set_cons_succ]
      refine rg_take (i := 8) (d := some 20) (l := #[true, true, true, true, true, true, true, true, true, false, false]) (fuel := 2) (v := ?_) rfl (by kernel_rfl) (by kernel_rfl) (by kernel_rfl) (by kernel_rfl) (by kernel_rfl) (fun _ _ _ h => h) (by kernel_rfl) ?_ (by assumption) ?_
      rotate_left 1
      · (intro wS hSw; (try dsimp only at hSw); go_simp; try with_reducible rfl)
      try simp only [Act.put, List.setIfInBounds_toArray, List.set_cons_zero, List.set_cons_succ]
      refine rg_take (i := 9) (d := some 21) (l := #[true, true, true, true, true, true, true, true, true, true, false]) (fuel := 1) (v := ?_) rfl (by kernel_rfl) (by kernel_rfl) (by kernel_rfl) (by kernel_rfl) (by kernel_rfl) (fun _ _ _ h => h) (by kernel_rfl) ?_ (by assumption) ?_
      rotate_left 1
      · (intro wS hSw; (try dsimp only at hSw); go_simp; try with_reducible rfl)
      try simp only [Act.put, List.setIfInBounds_toArray, List.set_cons_zero, List.set_cons_succ]
      refine rg_next (i := 10) (l := #[true, true, true, true, true, true, true, true, true, true, true]) (fuel := 0) (by kernel_rfl) rfl (by kernel_rfl) (by kernel_rfl) (fun K hK => ?_)
      go_simp
      skip
      first | (refine hK.out _ _ ?_ (fun hHeld => ?_)) | (go_wp2_with fail; refine hK.out _ _ ?_ (fun hHeld => ?_))
      · (try dsimp only); exact ⟨X6.out.cell 0, X6.out.cell 1, X6.out.cell 2, X6.out.cell 3, X6.out.cell 4⟩
      clear hK K
      try simp only [Act.put, List.setIfInBounds_toArray, List.set_cons_zero, List.set_cons_succ]
      refine wpAnyH_done (by kernel_rfl) ?_ _
      go_wp2_with fail
      go_end0
      exact BuR.after KD.out BT.out.1
    refine rg_step (i := 6) (l := #[true, true, true, true, false, true, true, false, false, false, false]) rfl (by kernel_rfl) (by kernel_rfl) ?_ ?_
    · intro K hK
      go_simp
      skip
      first | (refine hK.out _ _ ?_ (fun hHeld => ?_)) | (go_wp2_with fail; refine hK.out _ _ ?_ (fun hHeld => ?_))
      · (try dsimp only); exact ⟨X4.out.cell 0, X4.out.cell 1, X4.out.cell 2, X4.out.cell 3, X4.out.cell 4⟩
      clear hK K
      try simp only [Act.put, List.setIfInBounds_toArray, List.set_cons_zero, List.set_cons_succ]
      refine rg_next (i := 4) (l := #[true, true, true, true, true, true, true, false, false, false, false]) (fuel := 4) (by kernel_rfl) rfl (by kernel_rfl) (by kernel_rfl) (fun K hK => ?_)
      go_simp
      skip
      first | (refine hK.out _ _ ?_ (fun hHeld => ?_)) | (go_wp2_with fail; refine hK.out _ _ ?_ (fun hHeld => ?_))
      · (try dsimp only); exact ⟨X4.out.cell 0, X4.out.cell 1, X4.out.cell 2, X4.out.cell 3, X4.out.cell 4⟩
      clear hK K
      try simp only [Act.put, List.setIfInBounds_toArray, List.set_cons_zero, List.set_cons_succ]
      refine rg_next (i := 7) (l := #[true, true, true, true, true, true, true, true, false, false, false]) (fuel := 3) (by kernel_rfl) rfl (by kernel_rfl) (by kernel_rfl) (fun K hK => ?_)
      refine wp_append_anyB (.tmp 16) (.tmp 18) 52 rfl rfl rfl RUN.out ?_
      refine hK.out _ _ ?_ (fun hHeld => ?_)
      · (try dsimp only); exact ⟨X5.out.cell 0, X5.out.cell 1, X5.out.cell 2, X5.out.cell 3, X5.out.cell 4⟩
      clear hK K
      try simp only [Act.put, List.setIfInBounds_toArray, List.set_cons_zero, List.set_cons_succ]
      refine rg_take (i := 8) (d := some 20) (l := #[true, true, true, true, true, true, true, true, true, false, false]) (fuel := 2) (v := ?_) rfl (by kernel_rfl) (by kernel_rfl) (by kernel_rfl) (by kernel_rfl) (by kernel_rfl) (fun _ _ _ h => h) (by kernel_rfl) ?_ (by assumption) ?_
      rotate_left 1
      · (intro wS hSw; (try dsimp only at hSw); go_simp; try with_reducible rfl)
      try simp only [Act.put, List.setIfInBounds_toArray, List.set_cons_zero, List.set_cons_succ]
      refine rg_take (i := 9) (d := some 21) (l := #[true, true, true, true, true, true, true, true, true, true, false]) (fuel := 1) (v := ?_) rfl (by kernel_rfl) (by kernel_rfl) (by kernel_rfl) (by kernel_rfl) (by kernel_rfl) (fun _ _ _ h => h) (by kernel_rfl) ?_ (by assumption) ?_
      rotate_left 1
      · (intro wS hSw; (try dsimp only at hSw); go_simp; try with_reducible rfl)
      try simp only [Act.put, List.setIfInBounds_toArray, List.set_cons_zero, List.set_cons_succ]
      refine rg_next (i := 10) (l := #[true, true, true, true, true, true, true, true, true, true, true]) (fuel := 0) (by kernel_rfl) rfl (by kernel_rfl) (by kernel_rfl) (fun K hK => ?_)
      go_simp
      skip
      first | (refine hK.out _ _ ?_ (fun hHeld => ?_)) | (go_wp2_with fail; refine hK.out _ _ ?_ (fun hHeld => ?_))
      · (try dsimp only); exact ⟨X6.out.cell 0, X6.out.cell 1, X6.out.cell 2, X6.out.cell 3, X6.out.cell 4⟩
      clear hK K
      try simp only [Act.put, List.setIfInBounds_toArray, List.set_cons_zero, List.set_cons_succ]
      refine wpAnyH_done (by kernel_rfl) ?_ _
      go_wp2_with fail
      go_end0
      exact BuR.after KD.out BT.out.1
    exact AllReadyH.nil
end
end Go.Proofs.YtngfmofjonleeaaGreat
namespace Go.Proofs.YtngfmofjonleeaaGreat
open Go.RowKit
set_option linter.unusedVariables false
set_option linter.unusedSimpArgs false
set_option maxRecDepth 100000
section
variable {w w1 w' : World} {g : Nat} {d : Hd} {Q Q1 : Bp} {s s1 : Bs}
/-- Calls one behind the other. -/
theorem BuR.then_ {v : Value} {e : Ending} (k1 : Kp (bL g Q) w w1) (f1 : ∀ y ∈ bL g Q1, y ∈ bL g Q ∨ w.heap.size ≤ y) (q : Q1.p = Q.p ∧ Q1.b = Q.b ∧ Q1.m = Q.m) (h : BuR v g d Q1 s w1 e w') : BuR v g d Q s w e w' := by
  obtain ⟨Q', rfl, hb, k, fr, e1, e2, e3⟩ := h
  refine ⟨Q', rfl, hb, k1.trans k f1, fun y hy => ?_, e1.trans q.1, e2.trans q.2.1, e3.trans q.2.2⟩
  rcases fr y hy with h1 | h1
  · exact f1 y h1
  · exact .inr (Nat.le_trans k1.size h1)
theorem Hp.lim_to {x : Hp} {t : Int} {n : Nat} (h : x.lim n) : (x.to d t).lim n := by
  unfold Hp.to
  split
  · exact h
  · exact h
/-- What an access that reads answers, and how a bus is behind it. -/
def Bs.rdV (s : Bs) (d : Hd) (a : Int) : Int := (s.beg d a).an d a
def Bs.rdS (s : Bs) (d : Hd) (a kd : Int) : Bs := { (s.beg d a).anS d a with tl := s.tl ++ [⟨s.now, a % 2097152, kd, false, s.rdV d a⟩] }
def Bs.wrS (s : Bs) (d : Hd) (a v kd : Int) : Bs := { (s.beg d a).chS a v with tl := s.tl ++ [⟨s.now, a % 2097152, kd, true, v⟩] }
theorem Bs.anS_tl (s : Bs) (d : Hd) (a : Int) : (s.anS d a).tl = s.tl := by unfold Bs.anS; split <;> rfl
theorem Bs.chS_tl (s : Bs) (a v : Int) : (s.chS a v).tl = s.tl := by unfold Bs.chS; (repeat' split) <;> rfl
theorem Bs.beg_tl (s : Bs) (d : Hd) (a : Int) : (s.beg d a).tl = s.tl := rfl
theorem bread_none (h : BU w g d Q s) (a kd : Int) (h0 : s.left = 0) : Calls Tryz.prog 36 #[.pointer (some ⟨g, 0, none⟩), .int .u32 a, .int .u8 kd] w (BuR (.int .u8 255) g d Q { s with over := true } w) := by
  have BG := Lib.hid (bbegin_none h a h0)
  clear h
  go_enter Tryz.func36, Tryz.ntmps36
  go_wp2_with fail
  refine BG.out.mono ?_
  rintro e w1 ⟨Q1, rfl, h1, k1, f1, q1⟩
  have R := Lib.hid (show BuR (.int .u8 255) g d Q { s with over := true } w (.returned (.int .u8 255)) w1 from ⟨Q1, rfl, h1, k1, f1, q1⟩)
  clear h1 k1 f1 q1
  go_wp2_with fail
  go_ret
  exact R.out
set_option maxHeartbeats 2000000 in
theorem bread_some (h : BU w g d Q s) (a kd : Int) (a0 : 0 ≤ a) (a1 : a ≤ 4294967295) (h0 : 0 < s.left) (hn : s.now ≤ 1000000000000) (hc : s.cyc ≤ 1000000000000) (hl : s.x.lim 1000000) (ht : s.tl.length ≤ 1000000) :
    Calls Tryz.prog 36 #[.pointer (some ⟨g, 0, none⟩), .int .u32 a, .int .u8 kd] w (BuR (.int .u8 (s.rdV d a)) g d Q (s.rdS d a kd) w) := by
  have BG := Lib.hid (bbegin_some h a a0 a1 h0 hn hc)
  have HL : Hid ((s.beg d a).x.lim 1000000) := Lib.hid (Hp.lim_to hl)
  clear h h0 hn hc hl
  obtain ⟨v, hv⟩ : ∃ v, s.rdV d a = v := ⟨_, rfl⟩
  have HV : Hid ((s.beg d a).an d a = v) := Lib.hid hv
  have hs : s.rdS d a kd = { (s.beg d a).anS d a with tl := s.tl ++ [⟨s.now, a % 2097152, kd, false, v⟩] } := by unfold Bs.rdS; rw [hv]
  rw [hv, hs]
  clear hv hs
  go_enter Tryz.func36, Tryz.ntmps36
  go_wp2_with fail
  refine BG.out.mono ?_
  rintro e w1 ⟨Q1, rfl, h1, k1, f1, q1⟩
  have H1 := Lib.hid h1
  have K1 := Lib.hid k1
  have F1 := Lib.hid f1
  have E1 := Lib.hid q1
  clear h1 k1 f1 q1
  go_wp2_with fail
  refine (banswer_any H1.out HL.out a a0 a1).mono ?_
  rw [HV.out]
  rintro e w2 ⟨Q2, rfl, h2, k2, f2, q2⟩
  have H2 := Lib.hid h2
  have K2 := Lib.hid k2
  have F2 := Lib.hid f2
  have E2 := Lib.hid q2
  have HT : ((s.beg d a).anS d a).tl.length ≤ 1000000 := by rw [Bs.anS_tl, Bs.beg_tl]; exact ht
  clear h2 k2 f2 q2
  go_wp2_with fail
  refine (btell_any H2.out HT s.now a kd false v a0 a1).mono ?_
  rw [Bs.anS_tl, Bs.beg_tl]
  rintro e w3 ⟨Q3, rfl, h3, k3, f3, q3⟩
  have R := Lib.hid (BuR.then_ K1.out F1.out E1.out (BuR.then_ K2.out F2.out E2.out (show BuR (.int .u8 v) g d Q2 _ w2 (.returned (.int .u8 v)) w3 from ⟨Q3, rfl, h3, k3, f3, q3⟩)))
  clear h3 k3 f3 q3 H1 K1 F1 E1 H2 K2 F2 E2
  go_wp2_with fail
  go_ret
  exact R.out
theorem bwrite_none (h : BU w g d Q s) (a v kd : Int) (h0 : s.left = 0) : Calls Tryz.prog 35 #[.pointer (some ⟨g, 0, none⟩), .int .u32 a, .int .u8 v, .int .u8 kd] w (BuR (.tuple #[]) g d Q { s with over := true } w) := by
  have BG := Lib.hid (bbegin_none h a h0)
  clear h
  go_enter Tryz.func35, Tryz.ntmps35
  go_wp2_with fail
  refine BG.out.mono ?_
  rintro e w1 ⟨Q1, rfl, h1, k1, f1, q1⟩
  have R := Lib.hid (show BuR (.tuple #[]) g d Q { s with over := true } w (.returned (.tuple #[])) w1 from ⟨Q1, rfl, h1, k1, f1, q1⟩)
  clear h1 k1 f1 q1
  go_wp2_with fail
  refine bodyPost_ret (results_none rfl _ _ _) rfl ?_
  exact R.out
set_option maxHeartbeats 2000000 in
theorem bwrite_some (h : BU w g d Q s) (a v kd : Int) (a0 : 0 ≤ a) (a1 : a ≤ 4294967295) (v0 : 0 ≤ v) (v1 : v ≤ 255) (h0 : 0 < s.left) (hn : s.now ≤ 1000000000000) (hc : s.cyc ≤ 1000000000000) (hl : s.x.lim 1000000) (ht : s.tl.length ≤ 1000000) :
    Calls Tryz.prog 35 #[.pointer (some ⟨g, 0, none⟩), .int .u32 a, .int .u8 v, .int .u8 kd] w (BuR (.tuple #[]) g d Q (s.wrS d a v kd) w) := by
  have BG := Lib.hid (bbegin_some h a a0 a1 h0 hn hc)
  have HL : Hid ((s.beg d a).x.lim 1000000) := Lib.hid (Hp.lim_to hl)
  clear h h0 hn hc hl
  unfold Bs.wrS
  go_enter Tryz.func35, Tryz.ntmps35
  go_wp2_with fail
  refine BG.out.mono ?_
  rintro e w1 ⟨Q1, rfl, h1, k1, f1, q1⟩
  have H1 := Lib.hid h1
  have K1 := Lib.hid k1
  have F1 := Lib.hid f1
  have E1 := Lib.hid q1
  clear h1 k1 f1 q1
  go_wp2_with fail
  refine (bchange_any H1.out HL.out a v a0 a1 v0 v1).mono ?_
  rintro e w2 ⟨Q2, rfl, h2, k2, f2, q2⟩
  have H2 := Lib.hid h2
  have K2 := Lib.hid k2
  have F2 := Lib.hid f2
  have E2 := Lib.hid q2
  have HT : ((s.beg d a).chS a v).tl.length ≤ 1000000 := by rw [Bs.chS_tl, Bs.beg_tl]; exact ht
  clear h2 k2 f2 q2
  go_wp2_with fail
  refine (btell_any H2.out HT s.now a kd true v a0 a1).mono ?_
  rw [Bs.chS_tl, Bs.beg_tl]
  rintro e w3 ⟨Q3, rfl, h3, k3, f3, q3⟩
  have R := Lib.hid (BuR.then_ K1.out F1.out E1.out (BuR.then_ K2.out F2.out E2.out (show BuR (.tuple #[]) g d Q2 _ w2 (.returned (.tuple #[])) w3 from ⟨Q3, rfl, h3, k3, f3, q3⟩)))
  clear h3 k3 f3 q3 H1 K1 F1 E1 H2 K2 F2 E2
  go_wp2_with fail
  first | go_end0 | refine bodyPost_ret (results_none rfl _ _ _) rfl ?_
  exact R.out
end
section
variable {w : World} {g : Nat} {d : Hd} {Q : Bp} {s : Bs}
/-- A bus whose clock asks for nothing has no speed kept. -/
def Bs.tidy (s : Bs) : Prop := s.asked = false → s.next = false
end
end Go.Proofs.YtngfmofjonleeaaGreat
