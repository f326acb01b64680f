/-
  Texts of these proofs, one behind the other: Cart1, Cart4, Bus4.
-/
import Derived.Test.YtleofglnlfpoeaaGreatKBP24
import Derived.Test.YtleofglnlfpoeaaGreatProg
import Derived.WalkKit
import Derived.WalkSpells
import Derived.Handy
import Derived.Lib.Hide
import Derived.Test.YtleofglnlfpoeaaGreatKBP22
import Derived.Test.YtleofglnlfpoeaaGreatKBP03
import Derived.Test.YtleofglnlfpoeaaGreatKBP26
import Derived.Test.YtleofglnlfpoeaaGreatKBP07
import Derived.Deep.Cut
import Derived.Deep.CutRange
import Derived.Deep.CutBlock
import Derived.Deep.RegionHeld3
namespace Go.Proofs.YtleofglnlfpoeaaGreat
open Go.RowKit
set_option linter.unusedVariables false
def mayB (n : Int) : Bool := decide (1 ≤ n ∧ n ≤ 128)
set_option maxHeartbeats 400000 in
theorem may_any (n : Int) (w : World) :
    Calls Tryz.prog 134 #[.int .i64 n] w fun e w' => e = .returned (.bool (mayB n)) ∧ w = w' := by
  by_cases h : 1 ≤ n
  · by_cases h2 : n ≤ 128
    · have e : mayB n = true := decide_eq_true ⟨h, h2⟩
      have H := Lib.hid e
      clear e
      go_enter Tryz.func134, Tryz.ntmps134
      go_wp2
      go_ret
      exact ⟨by rw [H.out]; simp, rfl⟩
    · have e : mayB n = false := decide_eq_false (by omega)
      have H := Lib.hid e
      have d : decide (n ≤ 128) = false := decide_eq_false h2
      clear e h2
      go_enter Tryz.func134, Tryz.ntmps134
      go_wp2
      go_ret
      exact ⟨by rw [H.out]; simp, rfl⟩
  · have e : mayB n = false := decide_eq_false (by omega)
    have H := Lib.hid e
    have d : decide (1 ≤ n) = false := decide_eq_false h
    clear e h
    go_enter Tryz.func134, Tryz.ntmps134
    go_wp2
    go_ret
    exact ⟨by rw [H.out]; simp, rfl⟩
/-- Of so many bytes: are they an image? -/
def imgE (n : Nat) : Int := if 0 < n ∧ n % 8192 = 0 ∧ n ≤ 1048576 then 0 else 6
set_option maxHeartbeats 1000000 in
theorem check_any (A : Option Addr) (n c : Nat) (w : World) (hn : n ≤ maxLen) :
    Calls Tryz.prog 167 #[.slice A n c] w fun e w' => e = .returned (.int .i64 (imgE n)) ∧ w = w' := by
  unfold maxLen at hn
  by_cases h : n % 8192 = 0
  · have d1 : ((n : Int) % 8192 != 0) = false := by rw [bne_eq_false_iff_eq]; omega
    by_cases h2 : mayB ((n : Int) / 8192) = true
    · have e : imgE n = 0 := by unfold mayB at h2; simp only [decide_eq_true_eq] at h2; unfold imgE; rw [if_pos]; omega
      have H := Lib.hid e
      clear e h
      go_enter Tryz.func167, Tryz.ntmps167
      go_wp2_with (go_at_call 134; refine (may_any _ _).mono ?_; rintro e w' ⟨rfl, rfl⟩)
      go_ret
      exact ⟨by rw [H.out]; rfl, rfl⟩
    · have h3 : mayB ((n : Int) / 8192) = false := by simpa using h2
      have e : imgE n = 6 := by unfold mayB at h2; simp only [decide_eq_true_eq] at h2; unfold imgE; rw [if_neg]; omega
      have H := Lib.hid e
      clear e h h2
      go_enter Tryz.func167, Tryz.ntmps167
      go_wp2_with (go_at_call 134; refine (may_any _ _).mono ?_; rintro e w' ⟨rfl, rfl⟩)
      go_ret
      exact ⟨by rw [H.out]; rfl, rfl⟩
  · have d1 : ((n : Int) % 8192 != 0) = true := by rw [bne_iff_ne]; omega
    have e : imgE n = 6 := by unfold imgE; rw [if_neg]; omega
    have H := Lib.hid e
    clear e h
    go_enter Tryz.func167, Tryz.ntmps167
    go_wp2_with (go_at_call 134; refine (may_any _ _).mono ?_; rintro e w' ⟨rfl, rfl⟩)
    go_ret
    exact ⟨by rw [H.out]; rfl, rfl⟩
set_option maxHeartbeats 1000000 in
theorem within_yes (p : Pc) (S : Int) (w : World) (s0 : 0 ≤ S) (s1 : S ≤ 1099511627776) (h : good S p) (hn : p.n ≤ maxLen) :
    Calls Tryz.prog 135 #[.agg #[.int .i64 p.at_, .slice p.A p.n p.c], .int .i64 S] w fun e w' => e = .returned (.bool true) ∧ Below w.heap.size w w' := by
  obtain ⟨a, A, n, c, z⟩ := p
  obtain ⟨h0, h1⟩ := h
  simp only at h0 h1 hn ⊢
  unfold maxLen at hn
  go_enter Tryz.func135, Tryz.ntmps135
  go_wp2
  go_ret
  exact ⟨by simp, by go_grown⟩
set_option maxHeartbeats 1000000 in
theorem within_no (p : Pc) (S : Int) (w : World) (s0 : 0 ≤ S) (s1 : S ≤ 1099511627776) (h : ¬ good S p) (hn : p.n ≤ maxLen) (ha : p.at_ ≤ 9223372036854775807) :
    Calls Tryz.prog 135 #[.agg #[.int .i64 p.at_, .slice p.A p.n p.c], .int .i64 S] w fun e w' => e = .returned (.bool false) ∧ Below w.heap.size w w' := by
  obtain ⟨a, A, n, c, z⟩ := p
  unfold good at h
  simp only at h hn ha ⊢
  unfold maxLen at hn
  by_cases h0 : 0 ≤ a
  · have d : decide ((n : Int) ≤ S - a) = false := decide_eq_false (by omega)
    clear h
    go_enter Tryz.func135, Tryz.ntmps135
    go_wp2
    go_ret
    exact ⟨by simp, by go_grown⟩
  · have d : decide (0 ≤ a) = false := decide_eq_false h0
    clear h h0
    go_enter Tryz.func135, Tryz.ntmps135
    go_wp2
    go_ret
    exact ⟨by simp, by go_grown⟩
end Go.Proofs.YtleofglnlfpoeaaGreat
namespace Go.Proofs.YtleofglnlfpoeaaGreat
open Go.RowKit
set_option linter.unusedVariables false
def readI (n : Nat) (z : Nat → Int) (a : Int) : Int := if whereI a = 0 ∧ a % 2097152 < n then z (a % 2097152).toNat else 255
set_option maxHeartbeats 2000000 in
theorem read_any {w : World} (A : Option Addr) (n c : Nat) (z : Nat → Int) (a : Int) (hn : n ≤ maxLen) (R : IRow w .u8 A n z) (a0 : 0 ≤ a) (a1 : a ≤ 4294967295) :
    Calls Tryz.prog 71 #[.slice A n c, .int .u32 a] w fun e w' => e = .returned (.int .u8 (readI n z a)) ∧ Below w.heap.size w w' := by
  unfold maxLen at hn
  have ba := bankI_bd a
  have oa := offI_bd a
  have y0 : 0 ≤ a % 2097152 := by omega
  have y1 : a % 2097152 < 2097152 := by omega
  have E1 : bankI a * 8192 + offI a % 8192 = a % 2097152 := by unfold bankI offI; omega
  have H1 := Lib.hid E1
  clear E1
  unfold readI
  generalize hx : whereI a = x
  have HX := Lib.hid hx
  clear hx
  generalize hy : a % 2097152 = y at *
  clear hy
  by_cases h : x = 0
  · subst h
    by_cases h2 : y < n
    · rw [if_pos ⟨rfl, h2⟩]
      obtain ⟨k, rfl⟩ := Int.eq_ofNat_of_zero_le y0
      obtain ⟨ad, rfl, hl, hc, hw⟩ := R k (by omega)
      have i0 : (k : Int) < n := h2
      go_enter Tryz.func71, Tryz.ntmps71
      go_wp2_with (first
        | (go_at_call 111; refine (bank_any _ _ a0 a1).mono ?_; rintro e w' ⟨rfl, rfl⟩)
        | (go_at_call 73; refine (off_any _ _ a0 a1).mono ?_; rintro e w' ⟨rfl, rfl⟩))
      refine (addr_any _ _ _ (by omega) (by omega) (by omega) (by omega)).mono ?_; rw [H1.out]; rintro e w' ⟨rfl, rfl⟩
      go_wp2_with fail
      refine (where_any _ _ a0 a1).mono ?_; rw [HX.out]; rintro e w2 ⟨rfl, hb⟩
      have hc2 := (hb.cell (p := ad.add k) (by rw [block_of_add]; exact hl)).trans hc
      clear hc hw y0 y1
      go_wp2_with fail
      go_ret
      exact ⟨rfl, hb⟩
    · rw [if_neg (fun h => h2 h.2)]
      have d1 : decide ((n : Int) ≤ y) = true := decide_eq_true (by omega)
      clear h2
      go_enter Tryz.func71, Tryz.ntmps71
      go_wp2_with (first
        | (go_at_call 111; refine (bank_any _ _ a0 a1).mono ?_; rintro e w' ⟨rfl, rfl⟩)
        | (go_at_call 73; refine (off_any _ _ a0 a1).mono ?_; rintro e w' ⟨rfl, rfl⟩))
      refine (addr_any _ _ _ (by omega) (by omega) (by omega) (by omega)).mono ?_; rw [H1.out]; rintro e w' ⟨rfl, rfl⟩
      go_wp2_with fail
      refine (where_any _ _ a0 a1).mono ?_; rw [HX.out]; rintro e w2 ⟨rfl, hb⟩
      go_wp2_with fail
      go_ret
      exact ⟨rfl, hb⟩
  · rw [if_neg (fun h' => h h'.1)]
    have d1 : (x != 0) = true := by rw [bne_iff_ne]; exact h
    clear h
    go_enter Tryz.func71, Tryz.ntmps71
    go_wp2_with (first
      | (go_at_call 111; refine (bank_any _ _ a0 a1).mono ?_; rintro e w' ⟨rfl, rfl⟩)
      | (go_at_call 73; refine (off_any _ _ a0 a1).mono ?_; rintro e w' ⟨rfl, rfl⟩))
    refine (addr_any _ _ _ (by omega) (by omega) (by omega) (by omega)).mono ?_; rw [H1.out]; rintro e w' ⟨rfl, rfl⟩
    go_wp2_with fail
    refine (where_any _ _ a0 a1).mono ?_; rw [HX.out]; rintro e w2 ⟨rfl, hb⟩
    go_wp2_with fail
    go_ret
    exact ⟨rfl, hb⟩
end Go.Proofs.YtleofglnlfpoeaaGreat
namespace Go.Proofs.YtleofglnlfpoeaaGreat
open Go.RowKit
set_option linter.unusedVariables false
set_option linter.unusedSimpArgs false
set_option maxRecDepth 100000
section
variable {w : World} {g : Nat} {d : Hd} {Q : Bp} {s : Bs}
theorem BU.cells (h : BU w g d Q s) : w.cell? ⟨g, 5, none⟩ = some s.rv ∧ w.cell? ⟨g, 6, none⟩ = some (.pointer (some ⟨Q.m, 0, none⟩)) ∧ w.cell? ⟨g, 7, none⟩ = some (.pointer (some ⟨Q.p, 0, none⟩)) ∧ w.cell? ⟨g, 8, none⟩ = some (.int .i64 s.left) ∧ w.cell? ⟨g, 9, none⟩ = some (.bool s.over) ∧ w.cell? ⟨g, 10, none⟩ = some Q.tr :=
  ⟨h.blk.cell 5, h.blk.cell 6, h.blk.cell 7, h.blk.cell 8, h.blk.cell 9, h.blk.cell 10⟩
theorem bworks_any (h : BU w g d Q s) : Calls Tryz.prog 44 #[.pointer (some ⟨g, 0, none⟩)] w fun e w' => e = .returned (.bool true) ∧ w = w' := by
  have c7 := h.cells.2.2.1
  clear h
  go_enter Tryz.func44, Tryz.ntmps44
  go_wp2
  go_ret
  exact ⟨rfl, rfl⟩
theorem bworks_nil (w : World) : Calls Tryz.prog 44 #[.pointer none] w fun e w' => e = .returned (.bool false) ∧ w = w' := by
  go_enter Tryz.func44, Tryz.ntmps44
  go_wp2
  go_ret
  exact ⟨rfl, rfl⟩
theorem BuR.mk0 {v : Value} {s' : Bs} {w' : World} (h : BU w' g d Q s') (k : Kp (bL g Q) w w') : BuR v g d Q s' w (.returned v) w' := ⟨Q, rfl, h, k, fun y hy => .inl hy, rfl, rfl, rfl⟩
/-- None is left. -/
theorem bbegin_none (h : BU w g d Q s) (a : Int) (h0 : s.left = 0) : Calls Tryz.prog 62 #[.pointer (some ⟨g, 0, none⟩), .int .u32 a] w (BuR (.tuple #[.int .i64 0, .bool false]) g d Q { s with over := true } w) := by
  obtain ⟨c5, c6, c7, c8, c9, c10⟩ := h.cells
  have f9 := h.blk.frozen 9
  rw [h0] at c8
  have H := Lib.hid h
  have WK := Lib.hid (bworks_any h)
  clear h
  go_enter Tryz.func62, Tryz.ntmps62
  go_wp2_with fail
  refine WK.out.mono ?_
  rintro e w' ⟨rfl, rfl⟩
  go_wp2_with fail
  go_ret2
  have k : Kp [g] w (w.setCell ⟨g, 9, none⟩ (.bool true)) := (Kp.refl _ _).setCell (p := ⟨g, 9, none⟩) (.inl (by simp)) _
  refine BuR.mk0 (H.out.own (s' := { s with over := true }) k (H.out.blk.set_ 9 _) rfl rfl ⟨rfl, rfl, rfl⟩ rfl H.out.ok) (k.mono (by simp [bL]))
/-- How a bus is behind the beginning of an access. -/
def Bs.beg (s : Bs) (d : Hd) (a : Int) : Bs := { s with left := s.left - 1, now := s.now + lenI s.fast (extraB a), cyc := s.cyc + (1 + oneI (extraB a)), x := s.x.to d s.now }
set_option maxHeartbeats 4000000 in
theorem bbegin_some (h : BU w g d Q s) (a : Int) (a0 : 0 ≤ a) (a1 : a ≤ 4294967295) (h0 : 0 < s.left) (hn : s.now ≤ 1000000000000) (hc : s.cyc ≤ 1000000000000) :
    Calls Tryz.prog 62 #[.pointer (some ⟨g, 0, none⟩), .int .u32 a] w (BuR (.tuple #[.int .i64 s.now, .bool true]) g d Q (s.beg d a) w) := by
  obtain ⟨c5, c6, c7, c8, c9, c10⟩ := h.cells
  have f8 := h.blk.frozen 8
  obtain ⟨o1, o2, o3, o4, o5⟩ := h.ok
  obtain ⟨l, hl⟩ : ∃ l, s.left = l := ⟨_, rfl⟩
  rw [hl] at c8 h0 o3 o4
  have hl0 : (l == 0) = false := by simpa using (show ¬ l = 0 by omega)
  have H := Lib.hid h
  have WK := Lib.hid (bworks_any h)
  have HO := Lib.hid o5
  clear h o5
  go_enter Tryz.func62, Tryz.ntmps62
  go_wp2_with fail
  refine WK.out.mono ?_
  rintro e w' ⟨rfl, rfl⟩
  go_upto_region 7 with fail
  have k1 : Kp [g] w (w.setCell ⟨g, 8, none⟩ (.int .i64 (l - 1))) := (Kp.refl _ _).setCell (p := ⟨g, 8, none⟩) (.inl (by simp)) _
  have h1 : BU (w.setCell ⟨g, 8, none⟩ (.int .i64 (l - 1))) g d Q { s with left := s.left - 1 } := H.out.own (s' := { s with left := s.left - 1 }) k1 (by rw [hl]; exact H.out.blk.set_ 8 _) rfl rfl ⟨rfl, rfl, rfl⟩ rfl ⟨o1, o2, by show 0 ≤ s.left - 1; omega, by show s.left - 1 ≤ _; omega, HO.out⟩
  generalize World.setCell w _ _ = w1 at *
  have H1 := Lib.hid h1
  have K1 := Lib.hid k1
  clear h1 k1 c5 c6 c7 c8 c9 c10 f8
  refine rg_begin (S := fun w' => True) 7 #[false, false, false, false, false, false, false] (by kernel_rfl) (by kernel_rfl) (by kernel_rfl) ?_ (fun hHeld => ?_)
  · all_goals trivial
  refine rgt 0 (some 25) (v := ?_) rfl ?_ ?_
  rotate_left 1
  · (intro wS hSw; (try dsimp only at hSw); go_simp; try with_reducible rfl)
  refine rgt 1 (some 26) (v := ?_) rfl ?_ ?_
  rotate_left 1
  · (intro wS hSw; (try dsimp only at hSw); go_simp; try with_reducible rfl)
  refine rgt 2 (some 27) (v := ?_) rfl ?_ ?_
  rotate_left 1
  · (intro wS hSw; (try dsimp only at hSw); go_simp; try with_reducible rfl)
  refine rgt 3 (some 28) (v := ?_) rfl ?_ ?_
  rotate_left 1
  · (intro wS hSw; (try dsimp only at hSw); go_simp; try with_reducible rfl)
  try simp only [Act.put, List.setIfInBounds_toArray, List.set_cons_zero, List.set_cons_succ]
  refine rg_next (i := 4) (l := #[true, true, true, true, true, false, false]) (fuel := 2) (by kernel_rfl) rfl (by kernel_rfl) (by kernel_rfl) (fun K hK => ?_)
  go_simp
  (go_at_call 109)
  refine (extra_any a _ a0 a1).mono ?_
  rintro e w2 ⟨rfl, b2⟩
  replace b2 : Below w1.heap.size w1 w2 := (Below.refl _ _).drew.trans (b2.mono (Nat.le_refl _))
  have H2 := Lib.hid (H1.out.keep b2)
  have K2 := Lib.hid (K1.out.trans (Kp.of_below (L := ([] : List Nat)) b2) (by simp))
  clear b2
  first | (refine hK.out _ _ ?_ (fun hHeld => ?_)) | (go_wp2_with fail; refine hK.out _ _ ?_ (fun hHeld => ?_))
  · (try dsimp only); all_goals trivial
  clear hK K
  try simp only [Act.put, List.setIfInBounds_toArray, List.set_cons_zero, List.set_cons_succ]
  refine rg_next (i := 5) (l := #[true, true, true, true, true, true, false]) (fuel := 1) (by kernel_rfl) rfl (by kernel_rfl) (by kernel_rfl) (fun K hK => ?_)
  go_simp
  (go_at_call 108)
  refine (bkcycle_any (R := buR Q { s with left := s.left - 1 }) (extraB a) H2.out.blk o1 (by show s.now ≤ _; omega) o2 (by show s.cyc ≤ _; omega)).mono ?_
  rintro e w3 ⟨rfl, hb3, gb3⟩
  have k3 := Kp.of_gb gb3
  have H3 := Lib.hid (H2.out.own (s' := { s with left := s.left - 1, now := s.now + lenI s.fast (extraB a), cyc := s.cyc + (1 + oneI (extraB a)) }) k3 hb3 rfl rfl ⟨rfl, rfl, rfl⟩ rfl ⟨by show 0 ≤ s.now + lenI s.fast (extraB a); have := lenI_bd s.fast (extraB a); omega, by show 0 ≤ s.cyc + (1 + oneI (extraB a)); have := oneI_bd (extraB a); omega, by show 0 ≤ s.left - 1; omega, by show s.left - 1 ≤ _; omega, HO.out⟩)
  have K3 := Lib.hid (K2.out.trans k3 (by simp))
  clear hb3 gb3 k3
  first | (refine hK.out _ _ ?_ (fun hHeld => ?_)) | (go_wp2_with fail; refine hK.out _ _ ?_ (fun hHeld => ?_))
  · (try dsimp only); all_goals trivial
  clear hK K
  refine rgt 6 (some 6) (v := ?_) rfl ?_ ?_
  rotate_left 1
  · (intro wS hSw; (try dsimp only at hSw); go_simp; try with_reducible rfl)
  try simp only [Act.put, List.setIfInBounds_toArray, List.set_cons_zero, List.set_cons_succ]
  refine wpAnyH_done (by kernel_rfl) ?_ _
  clear hHeld
  have c7 := H3.out.cells.2.2.1
  clear H1 H2 K1 K2
  go_wp2_with fail
  refine (hgo_any H3.out.pg s.now (by omega)).mono ?_
  rintro e w4 ⟨rfl, hp4, k4⟩
  have H4 := Lib.hid (H3.out.page (y := s.x.to d s.now) (k4.mono (by simp)) hp4)
  have K4 := Lib.hid ((K3.out.mono (M := bL g Q) (by simp [bL])).trans (k4.mono (M := bL g Q) (by simp [bL])) (by intro y hy; exact .inl hy))
  clear hp4 k4 c7
  go_wp2_with fail
  go_ret2
  exact BuR.mk0 H4.out K4.out
/-- What a Peek answers. -/
def Bs.pk (s : Bs) (a : Int) : Int := if whereI a = 0 then readI s.rn s.rz a else if whereI a = 1 then s.f (a % 8192).toNat else 255
set_option maxHeartbeats 4000000 in
theorem bpeek_any (h : BU w g d Q s) (a : Int) (a0 : 0 ≤ a) (a1 : a ≤ 4294967295) :
    Calls Tryz.prog 24 #[.pointer (some ⟨g, 0, none⟩), .int .u32 a] w fun e w' => e = .returned (.int .u8 (s.pk a)) ∧ Below w.heap.size w w' := by
  obtain ⟨c5, c6, c7, c8, c9, c10⟩ := h.cells
  obtain ⟨A, cap, hrv, hr1, hr2, hrow, _, _⟩ := h.rom
  rw [hrv] at c5
  have H := Lib.hid h
  have WK := Lib.hid (bworks_any h)
  obtain ⟨k, hk⟩ : ∃ k, whereI a = k := ⟨_, rfl⟩
  have hpk : s.pk a = if k = 0 then readI s.rn s.rz a else if k = 1 then s.f (a % 8192).toNat else 255 := by unfold Bs.pk; rw [hk]
  have HPK := Lib.hid hpk
  have HKK := Lib.hid hk
  have HROW := Lib.hid hrow
  clear h hpk hk c7 c8 c9 c10 hrow
  go_enter Tryz.func24, Tryz.ntmps24
  go_wp2_with fail
  refine WK.out.mono ?_
  rintro e w' ⟨rfl, rfl⟩
  go_wp2_with fail
  refine (where_v a0 a1 HKK.out).mono ?_
  rintro e w1 ⟨rfl, b1⟩
  have H1 := Lib.hid (H.out.keep b1)
  have B1 := Lib.hid b1
  have ROW1 := Lib.hid (HROW.out.keep b1)
  obtain ⟨c5, c6, c7, c8, c9, c10⟩ := H1.out.cells
  rw [hrv] at c5
  clear b1 c7 c8 c9 c10
  by_cases k0 : k = 0
  · subst k0
    go_wp2_with fail
    refine (read_any A s.rn cap s.rz a (by omega) ROW1.out a0 a1).mono ?_
    rintro e w2 ⟨rfl, b2⟩
    have B2 := Lib.hid (B1.out.trans (b2.mono B1.out.size))
    clear b2
    go_wp2_with fail
    go_ret
    exact ⟨by rw [show s.pk a = readI s.rn s.rz a by unfold Bs.pk; rw [HKK.out]; rfl]; rfl, B2.out⟩
  have n0 : (k == 0) = false := by simpa using k0
  by_cases k1 : k = 1
  · subst k1
    clear c5
    go_upto_region 7 with fail
    refine rg_begin (S := fun w' => w'.cell? ⟨g, 6, none⟩ = some (.pointer (some ⟨Q.m, 0, none⟩))) 8 #[false, false, false, false, false, false, false, false] (by kernel_rfl) (by kernel_rfl) (by kernel_rfl) ?_ (fun hHeld => ?_)
    · exact c6
    refine rgt 0 (some 20) (v := ?_) rfl ?_ ?_
    rotate_left 1
    · (intro wS hSw; (try dsimp only at hSw); go_simp; try with_reducible rfl)
    refine rgt 1 (some 21) (v := ?_) rfl ?_ ?_
    rotate_left 1
    · (intro wS hSw; (try dsimp only at hSw); go_simp; try with_reducible rfl)
    refine rgt 2 (some 22) (v := ?_) rfl ?_ ?_
    rotate_left 1
    · (intro wS hSw; (try dsimp only at hSw); go_simp; try with_reducible rfl)
    refine rgt 3 (some 23) (v := ?_) rfl ?_ ?_
    rotate_left 1
    · (intro wS hSw; (try dsimp only at hSw); go_simp; try with_reducible rfl)
    refine rgt 4 (some 24) (v := ?_) rfl ?_ ?_
    rotate_left 1
    · (intro wS hSw; (try dsimp only at hSw); go_simp; try with_reducible rfl)
    try simp only [Act.put, List.setIfInBounds_toArray, List.set_cons_zero, List.set_cons_succ]
    refine rg_next (i := 5) (l := #[true, true, true, true, true, true, false, false]) (fuel := 2) (by kernel_rfl) rfl (by kernel_rfl) (by kernel_rfl) (fun K hK => ?_)
    go_simp
    (go_at_call 73)
    refine (off_any a _ a0 a1).mono ?_
    rintro e w2 ⟨rfl, rfl⟩
    first | (refine hK.out _ _ ?_ (fun hHeld => ?_)) | (go_wp2_with fail; refine hK.out _ _ ?_ (fun hHeld => ?_))
    · (try dsimp only); exact c6
    clear hK K
    try simp only [Act.put, List.setIfInBounds_toArray, List.set_cons_zero, List.set_cons_succ]
    refine rg_next (i := 6) (l := #[true, true, true, true, true, true, true, false]) (fuel := 1) (by kernel_rfl) rfl (by kernel_rfl) (by kernel_rfl) (fun K hK => ?_)
    go_simp
    (go_at_call 72)
    refine (rread_any (H1.out.kp0 (Kp.refl _ _).drew).ram (offI a) (by unfold offI; omega) (by unfold offI; omega)).mono ?_
    rintro e w3 ⟨rfl, b3⟩
    replace b3 : Below w1.heap.size w1 w3 := (Below.refl _ _).drew.trans (b3.mono (Nat.le_refl _))
    have B3 := Lib.hid (B1.out.trans (b3.mono B1.out.size))
    have c6' := (b3.cell (p := ⟨g, 6, none⟩) H1.out.blk.lt).trans c6
    clear b3
    first | (refine hK.out _ _ ?_ (fun hHeld => ?_)) | (go_wp2_with fail; refine hK.out _ _ ?_ (fun hHeld => ?_))
    · (try dsimp only); exact c6'
    clear hK K
    refine rgt 7 (some 4) (v := ?_) rfl ?_ ?_
    rotate_left 1
    · (intro wS hSw; (try dsimp only at hSw); go_simp; try with_reducible rfl)
    try simp only [Act.put, List.setIfInBounds_toArray, List.set_cons_zero, List.set_cons_succ]
    refine wpAnyH_done (by kernel_rfl) ?_ _
    clear hHeld
    go_wp2_with fail
    go_ret
    exact ⟨by rw [show s.pk a = s.f (offI a % 8192).toNat by unfold Bs.pk; rw [HKK.out, show offI a % 8192 = a % 8192 by unfold offI; omega]; rfl]; rfl, B3.out⟩
  · have n1 : (k == 1) = false := by simpa using k1
    clear c5 c6
    go_wp2_with fail
    go_ret
    exact ⟨by rw [show s.pk a = 255 by unfold Bs.pk; rw [HKK.out, if_neg k0, if_neg k1]]; rfl, B1.out⟩
/-- What an access that reads answers, and how a bus is behind it. -/
def Bs.an (s : Bs) (d : Hd) (a : Int) : Int := if bankI a = 255 then s.x.rv d (whereI (plA (offI a))) (regI (plA (offI a))) else s.pk a
def Bs.anS (s : Bs) (d : Hd) (a : Int) : Bs := if bankI a = 255 then { s with x := s.x.rd d (whereI (plA (offI a))) (regI (plA (offI a))) } else s
set_option maxHeartbeats 4000000 in
theorem banswer_any (h : BU w g d Q s) (hl : s.x.lim 1000000) (a : Int) (a0 : 0 ≤ a) (a1 : a ≤ 4294967295) :
    Calls Tryz.prog 63 #[.pointer (some ⟨g, 0, none⟩), .int .u32 a] w (BuR (.int .u8 (s.an d a)) g d Q (s.anS d a) w) := by
  have c7 := h.cells.2.2.1
  have H := Lib.hid h
  have HL := Lib.hid hl
  clear h hl
  by_cases e : bankI a = 255
  · have ea : s.an d a = s.x.rv d (whereI (plA (offI a))) (regI (plA (offI a))) := by unfold Bs.an; rw [if_pos e]
    have eb : s.anS d a = { s with x := s.x.rd d (whereI (plA (offI a))) (regI (plA (offI a))) } := by unfold Bs.anS; rw [if_pos e]
    rw [ea, eb]
    have hb := fun W => bank_any a W a0 a1
    rw [e] at hb
    have HB := Lib.hid hb
    clear ea eb e hb
    go_enter Tryz.func63, Tryz.ntmps63
    go_wp2_with fail
    refine (HB.out _).mono ?_
    rintro e w1 ⟨rfl, rfl⟩
    go_upto_region 2 with fail
    refine rg_begin (S := fun w' => w'.cell? ⟨g, 7, none⟩ = some (.pointer (some ⟨Q.p, 0, none⟩))) 8 #[false, false, false, false, false, false, false, false] (by kernel_rfl) (by kernel_rfl) (by kernel_rfl) ?_ (fun hHeld => ?_)
    · exact c7
    refine rgt 0 (some 8) (v := ?_) rfl ?_ ?_
    rotate_left 1
    · (intro wS hSw; (try dsimp only at hSw); go_simp; try with_reducible rfl)
    refine rgt 1 (some 9) (v := ?_) rfl ?_ ?_
    rotate_left 1
    · (intro wS hSw; (try dsimp only at hSw); go_simp; try with_reducible rfl)
    refine rgt 2 (some 10) (v := ?_) rfl ?_ ?_
    rotate_left 1
    · (intro wS hSw; (try dsimp only at hSw); go_simp; try with_reducible rfl)
    refine rgt 3 (some 11) (v := ?_) rfl ?_ ?_
    rotate_left 1
    · (intro wS hSw; (try dsimp only at hSw); go_simp; try with_reducible rfl)
    refine rgt 4 (some 12) (v := ?_) rfl ?_ ?_
    rotate_left 1
    · (intro wS hSw; (try dsimp only at hSw); go_simp; try with_reducible rfl)
    try simp only [Act.put, List.setIfInBounds_toArray, List.set_cons_zero, List.set_cons_succ]
    refine rg_next (i := 5) (l := #[true, true, true, true, true, true, false, false]) (fuel := 2) (by kernel_rfl) rfl (by kernel_rfl) (by kernel_rfl) (fun K hK => ?_)
    go_simp
    (go_at_call 73)
    refine (off_any a _ a0 a1).mono ?_
    rintro e w2 ⟨rfl, rfl⟩
    first | (refine hK.out _ _ ?_ (fun hHeld => ?_)) | (go_wp2_with fail; refine hK.out _ _ ?_ (fun hHeld => ?_))
    · (try dsimp only); exact c7
    clear hK K
    try simp only [Act.put, List.setIfInBounds_toArray, List.set_cons_zero, List.set_cons_succ]
    refine rg_next (i := 6) (l := #[true, true, true, true, true, true, true, false]) (fuel := 1) (by kernel_rfl) rfl (by kernel_rfl) (by kernel_rfl) (fun K hK => ?_)
    go_simp
    (go_at_call 112)
    refine (hread_any (H.out.kp0 (Kp.refl _ _).drew).pg HL.out (offI a) (by unfold offI; omega) (by unfold offI; omega)).mono ?_
    rintro e w3 ⟨rfl, hp3, k3⟩
    replace k3 : Kp [Q.p, Q.b.v, Q.b.c, Q.b.p] w w3 := ((Kp.refl _ w).drew).trans k3 (fun y hy => .inl hy)
    have H3 := Lib.hid (H.out.page k3 hp3)
    have K3 := Lib.hid (k3.mono (M := bL g Q) (by simp [bL]))
    have c7' := H3.out.cells.2.2.1
    clear hp3 k3
    first | (refine hK.out _ _ ?_ (fun hHeld => ?_)) | (go_wp2_with fail; refine hK.out _ _ ?_ (fun hHeld => ?_))
    · (try dsimp only); exact c7'
    clear hK K
    refine rgt 7 (some 4) (v := ?_) rfl ?_ ?_
    rotate_left 1
    · (intro wS hSw; (try dsimp only at hSw); go_simp; try with_reducible rfl)
    try simp only [Act.put, List.setIfInBounds_toArray, List.set_cons_zero, List.set_cons_succ]
    refine wpAnyH_done (by kernel_rfl) ?_ _
    clear hHeld
    go_wp2_with fail
    go_ret
    exact BuR.mk0 H3.out K3.out
  · have ea : s.an d a = s.pk a := by unfold Bs.an; rw [if_neg e]
    have eb : s.anS d a = s := by unfold Bs.anS; rw [if_neg e]
    rw [ea, eb]
    have hb := fun W => bank_any a W a0 a1
    obtain ⟨b, hbb⟩ : ∃ b, bankI a = b := ⟨_, rfl⟩
    rw [hbb] at hb e
    have n1 : (b == 255) = false := by simpa using e
    have HB := Lib.hid hb
    clear ea eb e hb hbb
    go_enter Tryz.func63, Tryz.ntmps63
    go_wp2_with fail
    refine (HB.out _).mono ?_
    rintro e w1 ⟨rfl, rfl⟩
    go_wp2_with fail
    refine (bpeek_any H.out a a0 a1).mono ?_
    rintro e w2 ⟨rfl, b2⟩
    have H2 := Lib.hid (H.out.keep b2)
    have K2 := Lib.hid (Kp.of_below (L := bL g Q) b2)
    clear b2
    go_wp2_with fail
    go_ret
    exact BuR.mk0 H2.out K2.out
/-- How a bus is behind a byte that was written. -/
def Bs.chS (s : Bs) (a v : Int) : Bs :=
  if bankI a = 255 then { s with x := s.x.wr (whereI (plA (offI a))) (regI (plA (offI a))) v } else if whereI a = 1 then { s with f := fw s.f (offI a) v } else s
theorem fw_bd {f : Nat → Int} {a v : Int} (h : ∀ i, i < 8192 → 0 ≤ f i ∧ f i ≤ 255) (v0 : 0 ≤ v) (v1 : v ≤ 255) : ∀ i, i < 8192 → 0 ≤ fw f a v i ∧ fw f a v i ≤ 255 := by
  intro i hi
  unfold fw
  split
  · exact ⟨v0, v1⟩
  · exact h i hi
set_option maxHeartbeats 4000000 in
theorem bchange_any (h : BU w g d Q s) (hl : s.x.lim 1000000) (a v : Int) (a0 : 0 ≤ a) (a1 : a ≤ 4294967295) (v0 : 0 ≤ v) (v1 : v ≤ 255) :
    Calls Tryz.prog 65 #[.pointer (some ⟨g, 0, none⟩), .int .u32 a, .int .u8 v] w (BuR (.tuple #[]) g d Q (s.chS a v) w) := by
  obtain ⟨c5, c6, c7, c8, c9, c10⟩ := h.cells
  have H := Lib.hid h
  have HL := Lib.hid hl
  clear h hl c5 c8 c9 c10
  by_cases e : bankI a = 255
  · have eb : s.chS a v = { s with x := s.x.wr (whereI (plA (offI a))) (regI (plA (offI a))) v } := by unfold Bs.chS; rw [if_pos e]
    rw [eb]
    have hb := fun W => bank_any a W a0 a1
    rw [e] at hb
    have HB := Lib.hid hb
    clear eb e hb c6
    go_enter Tryz.func65, Tryz.ntmps65
    go_wp2_with fail
    refine (HB.out _).mono ?_
    rintro e w1 ⟨rfl, rfl⟩
    go_upto_region 1 with fail
    refine rg_begin (S := fun w' => w'.cell? ⟨g, 7, none⟩ = some (.pointer (some ⟨Q.p, 0, none⟩))) 8 #[false, false, false, false, false, false, false, false] (by kernel_rfl) (by kernel_rfl) (by kernel_rfl) ?_ (fun hHeld => ?_)
    · exact c7
    refine rgt 0 (some 10) (v := ?_) rfl ?_ ?_
    rotate_left 1
    · (intro wS hSw; (try dsimp only at hSw); go_simp; try with_reducible rfl)
    refine rgt 1 (some 11) (v := ?_) rfl ?_ ?_
    rotate_left 1
    · (intro wS hSw; (try dsimp only at hSw); go_simp; try with_reducible rfl)
    refine rgt 2 (some 12) (v := ?_) rfl ?_ ?_
    rotate_left 1
    · (intro wS hSw; (try dsimp only at hSw); go_simp; try with_reducible rfl)
    refine rgt 3 (some 13) (v := ?_) rfl ?_ ?_
    rotate_left 1
    · (intro wS hSw; (try dsimp only at hSw); go_simp; try with_reducible rfl)
    refine rgt 4 (some 14) (v := ?_) rfl ?_ ?_
    rotate_left 1
    · (intro wS hSw; (try dsimp only at hSw); go_simp; try with_reducible rfl)
    refine rgt 6 (some 16) (v := ?_) rfl ?_ ?_
    rotate_left 1
    · (intro wS hSw; (try dsimp only at hSw); go_simp; try with_reducible rfl)
    try simp only [Act.put, List.setIfInBounds_toArray, List.set_cons_zero, List.set_cons_succ]
    refine rg_next (i := 5) (l := #[true, true, true, true, true, true, true, false]) (fuel := 1) (by kernel_rfl) rfl (by kernel_rfl) (by kernel_rfl) (fun K hK => ?_)
    go_simp
    (go_at_call 73)
    refine (off_any a _ a0 a1).mono ?_
    rintro e w2 ⟨rfl, rfl⟩
    first | (refine hK.out _ _ ?_ (fun hHeld => ?_)) | (go_wp2_with fail; refine hK.out _ _ ?_ (fun hHeld => ?_))
    · (try dsimp only); exact c7
    clear hK K
    try simp only [Act.put, List.setIfInBounds_toArray, List.set_cons_zero, List.set_cons_succ]
    refine rg_next (i := 7) (l := #[true, true, true, true, true, true, true, true]) (fuel := 0) (by kernel_rfl) rfl (by kernel_rfl) (by kernel_rfl) (fun K hK => ?_)
    go_simp
    (go_at_call 114)
    refine (hwrite_any (H.out.kp0 (Kp.refl _ _).drew).pg HL.out (offI a) v (by unfold offI; omega) (by unfold offI; omega) v0 v1).mono ?_
    rintro e w3 ⟨rfl, hp3, k3⟩
    replace k3 : Kp [Q.p, Q.b.v, Q.b.c, Q.b.p] w w3 := ((Kp.refl _ w).drew).trans k3 (fun y hy => .inl hy)
    have H3 := Lib.hid (H.out.page k3 hp3)
    have K3 := Lib.hid (k3.mono (M := bL g Q) (by simp [bL]))
    have c7' := H3.out.cells.2.2.1
    clear hp3 k3
    first | (refine hK.out _ _ ?_ (fun hHeld => ?_)) | (go_wp2_with fail; refine hK.out _ _ ?_ (fun hHeld => ?_))
    · (try dsimp only); exact c7'
    clear hK K
    try simp only [Act.put, List.setIfInBounds_toArray, List.set_cons_zero, List.set_cons_succ]
    refine wpAnyH_done (by kernel_rfl) ?_ _
    clear hHeld
    go_wp2_with fail
    go_end0
    exact BuR.mk0 H3.out K3.out
  · have hb := fun W => bank_any a W a0 a1
    obtain ⟨b, hbb⟩ : ∃ b, bankI a = b := ⟨_, rfl⟩
    obtain ⟨k, hk⟩ : ∃ k, whereI a = k := ⟨_, rfl⟩
    have eb : s.chS a v = if k = 1 then { s with f := fw s.f (offI a) v } else s := by unfold Bs.chS; rw [if_neg e, hk]
    rw [eb]
    rw [hbb] at hb e
    have n1 : (b == 255) = false := by simpa using e
    have HB := Lib.hid hb
    clear eb e hb hbb c7
    by_cases k1 : k = 1
    · subst k1
      rw [if_pos rfl]
      have HKK := Lib.hid hk
      clear hk
      go_enter Tryz.func65, Tryz.ntmps65
      go_wp2_with fail
      refine (HB.out _).mono ?_
      rintro e w1 ⟨rfl, rfl⟩
      go_wp2_with fail
      refine (where_v a0 a1 HKK.out).mono ?_
      rintro e w2 ⟨rfl, b2⟩
      have H2 := Lib.hid (H.out.keep b2)
      have K2 := Lib.hid (Kp.of_below (L := bL g Q) b2)
      have c6 := H2.out.cells.2.1
      clear b2
      go_upto_region 3 with fail
      refine rg_begin (S := fun w' => w'.cell? ⟨g, 6, none⟩ = some (.pointer (some ⟨Q.m, 0, none⟩))) 8 #[false, false, false, false, false, false, false, false] (by kernel_rfl) (by kernel_rfl) (by kernel_rfl) ?_ (fun hHeld => ?_)
      · exact c6
      refine rgt 0 (some 22) (v := ?_) rfl ?_ ?_
      rotate_left 1
      · (intro wS hSw; (try dsimp only at hSw); go_simp; try with_reducible rfl)
      refine rgt 1 (some 23) (v := ?_) rfl ?_ ?_
      rotate_left 1
      · (intro wS hSw; (try dsimp only at hSw); go_simp; try with_reducible rfl)
      refine rgt 2 (some 24) (v := ?_) rfl ?_ ?_
      rotate_left 1
      · (intro wS hSw; (try dsimp only at hSw); go_simp; try with_reducible rfl)
      refine rgt 3 (some 25) (v := ?_) rfl ?_ ?_
      rotate_left 1
      · (intro wS hSw; (try dsimp only at hSw); go_simp; try with_reducible rfl)
      refine rgt 4 (some 26) (v := ?_) rfl ?_ ?_
      rotate_left 1
      · (intro wS hSw; (try dsimp only at hSw); go_simp; try with_reducible rfl)
      refine rgt 6 (some 28) (v := ?_) rfl ?_ ?_
      rotate_left 1
      · (intro wS hSw; (try dsimp only at hSw); go_simp; try with_reducible rfl)
      try simp only [Act.put, List.setIfInBounds_toArray, List.set_cons_zero, List.set_cons_succ]
      refine rg_next (i := 5) (l := #[true, true, true, true, true, true, true, false]) (fuel := 1) (by kernel_rfl) rfl (by kernel_rfl) (by kernel_rfl) (fun K hK => ?_)
      go_simp
      (go_at_call 73)
      refine (off_any a _ a0 a1).mono ?_
      rintro e w3 ⟨rfl, rfl⟩
      first | (refine hK.out _ _ ?_ (fun hHeld => ?_)) | (go_wp2_with fail; refine hK.out _ _ ?_ (fun hHeld => ?_))
      · (try dsimp only); exact c6
      clear hK K
      try simp only [Act.put, List.setIfInBounds_toArray, List.set_cons_zero, List.set_cons_succ]
      refine rg_next (i := 7) (l := #[true, true, true, true, true, true, true, true]) (fuel := 0) (by kernel_rfl) rfl (by kernel_rfl) (by kernel_rfl) (fun K hK => ?_)
      go_simp
      (go_at_call 46)
      refine (rwrite_any (H2.out.kp0 (Kp.refl _ _).drew).ram (offI a) v (by unfold offI; omega) (by unfold offI; omega)).mono ?_
      rintro e w3 ⟨rfl, mb', hr3, k3, hfresh⟩
      replace k3 : Kp (Q.m :: Q.mb.toList) w2 w3 := ((Kp.refl _ w2).drew).trans k3 (fun y hy => .inl hy)
      have H3 := Lib.hid (H2.out.mem k3 hr3 (fw_bd H2.out.ok.2.2.2.2 v0 v1))
      have K3 := Lib.hid (K2.out.trans k3 (by intro y hy; left; simp only [List.mem_cons, Option.mem_toList, Option.mem_def] at hy; rcases hy with hy | hy <;> simp [mem_bL, hy]))
      have c6' := H3.out.cells.2.1
      have HF := Lib.hid hfresh
      clear hr3 k3 hfresh
      first | (refine hK.out _ _ ?_ (fun hHeld => ?_)) | (go_wp2_with fail; refine hK.out _ _ ?_ (fun hHeld => ?_))
      · (try dsimp only); exact c6'
      clear hK K
      try simp only [Act.put, List.setIfInBounds_toArray, List.set_cons_zero, List.set_cons_succ]
      refine wpAnyH_done (by kernel_rfl) ?_ _
      clear hHeld
      go_wp2_with fail
      go_end0
      refine ⟨_, rfl, H3.out, K3.out, fun y hy => ?_, rfl, rfl, rfl⟩
      have hsz := K2.out.size
      rcases mem_bL.1 hy with h | h | h | h | h | h | h | h
      · exact .inl (mem_bL.2 (.inl h))
      · exact .inl (mem_bL.2 (.inr (.inl h)))
      · dsimp only at h
        rcases HF.out with e | ⟨b', e, hb'⟩
        · exact .inl (mem_bL.2 (.inr (.inr (.inl (by rw [← e]; exact h)))))
        · right
          rw [e] at h
          injection h with h
          have : w2.heap.size ≤ b' := hb'
          omega
      all_goals exact .inl (mem_bL.2 (by simp [h]))
    · have n2 : (k == 1) = false := by simpa using k1
      rw [if_neg k1]
      have HKK := Lib.hid hk
      clear hk
      go_enter Tryz.func65, Tryz.ntmps65
      go_wp2_with fail
      refine (HB.out _).mono ?_
      rintro e w1 ⟨rfl, rfl⟩
      go_wp2_with fail
      refine (where_v a0 a1 HKK.out).mono ?_
      rintro e w2 ⟨rfl, b2⟩
      have H2 := Lib.hid (H.out.keep b2)
      have K2 := Lib.hid (Kp.of_below (L := bL g Q) b2)
      have c6 := H2.out.cells.2.1
      clear b2
      go_wp2_with fail
      go_end0
      exact BuR.mk0 H2.out K2.out
end
end Go.Proofs.YtleofglnlfpoeaaGreat
