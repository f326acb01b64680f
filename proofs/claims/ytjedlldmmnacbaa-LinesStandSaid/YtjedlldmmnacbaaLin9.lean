/-
  The statements' play: lines and the reference's go on alike.
-/
import Derived.Test.YtjedlldmmnacbaaLin8
import Derived.Test.YtjedlldmmnacbaaLin7
import Derived.Deep.Cut
import Derived.Deep.CutRange
namespace Go.Proofs.Ytjedlldmmnacbaa
open Go.RowKit
set_option linter.unusedVariables false
set_option linter.unusedSimpArgs false
set_option maxRecDepth 100000
def LPlayI (W : World) (g r n c s : Nat) (A : Option Addr) (es : Nat → Iib) (ro : Bool) (w : World) : Prop :=
  LN w g n es s ro ∧ Blk w r 36 (rlC A n c s ro) ∧ Below W.heap.size W w
def LPlayR (W : World) (g r n c : Nat) (A : Option Addr) (es : Nat → Iib) (w : World) (e : Ending) (w' : World) : Prop :=
  e = .returned (.bool true) ∧ (∃ s ro, LPlayI W g r n c s A es ro w') ∧ Kp [g, r] w w'
theorem upTo_none {es : Nat → Iib} {n s : Nat} {l : Int} (h : ∀ j, j < n → badE es j = 0) (hs : s ≤ n) (hl : 3 < l) : upTo es s l = false := by
  induction s with
  | zero => rfl
  | succ k ih =>
    simp only [upTo]
    have := (bad_zero (h k (by omega))).1
    rw [if_neg (by omega), ih (by omega)]
theorem upTo_upV {es : Nat → Iib} {n s : Nat} (h : ∀ j, j < n → badE es j = 0) (hs : s ≤ n) (j : Nat) : upTo es s j = upV es s j := by
  unfold upV
  by_cases h4 : j < 4
  · rw [if_pos h4]
  · rw [if_neg h4, upTo_none h hs (by omega)]
theorem nextV_ex (es : Nat → Iib) (n s : Nat) : ∃ a b, nextV es n s = .tuple #[.int .i64 a, .bool b] := by
  unfold nextV
  by_cases h : s < n
  · rw [if_pos h]; exact ⟨_, _, rfl⟩
  · rw [if_neg h]; exact ⟨_, _, rfl⟩
theorem rnext_v {w : World} {g n c : Nat} {A : Option Addr} {es : Nat → Iib} {s : Nat} {r : Bool} {v : Value} (h : Blk w g 36 (rlC A n c s r)) (R : ERow w A n es) (hs : s ≤ n) (hn : n ≤ 1000) (e : nextV es n s = v) :
    Calls Try.prog 39 #[.pointer (some ⟨g, 0, none⟩)] w (fun e w' => e = .returned v ∧ Kp [] w w') := e ▸ rnext_any h R hs hn
theorem LPlayI.kp0 {W w w' : World} {g r n c s : Nat} {A : Option Addr} {es : Nat → Iib} {ro : Bool} (h : LPlayI W g r n c s A es ro w) (k : Kp [] w w') : LPlayI W g r n c s A es ro w' :=
  ⟨h.1.kp k (fun x hx => by cases hx) (by simp), h.2.1.kp k (by simp), k.onto h.2.2 h.2.2.size (by simp)⟩
theorem lnRoff {w : World} {r : Nat} {cs : Array Value} (hb : Blk w r 36 cs) : ∀ x ∈ [r], ∃ t cs, Blk w x t cs ∧ 65 ≠ t := fun x hx => by
  obtain rfl : x = r := by simpa using hx
  exact ⟨_, _, hb, by decide⟩
theorem LPlayI.ne {W w : World} {g r n c s : Nat} {A : Option Addr} {es : Nat → Iib} {ro : Bool} (h : LPlayI W g r n c s A es ro w) : g ≠ r := by
  obtain ⟨⟨_, _, _, hb, _⟩, h2, _⟩ := h
  exact hb.ne_ h2 (by decide)
/-- One of both goes on, then the other. -/
theorem LPlayI.two {W w w1 w2 : World} {g r n c s s' : Nat} {A : Option Addr} {es : Nat → Iib} {ro ro' : Bool} (h : LPlayI W g r n c s A es ro w) (hg : W.heap.size ≤ g ∧ W.heap.size ≤ r) (h1 : LN w1 g n es s' ro') (k1 : Kp [g] w w1)
    (h2 : Blk w2 r 36 (rlC A n c s' ro')) (k2 : Kp [r] w1 w2) : LPlayI W g r n c s' A es ro' w2 ∧ Kp [g, r] w w2 := by
  have hne := h.ne
  have hr1 := h.2.1.kp k1 (by simpa using hne.symm)
  refine ⟨⟨h1.kp k2 (lnRoff hr1) (by simpa using hne), h2, k2.onto (k1.onto h.2.2 h.2.2.size (by simpa using hg.1)) (Nat.le_trans h.2.2.size k1.size) (by simpa using hg.2)⟩, (k1.mono (by simp)).trans (k2.mono (M := [g, r]) (by simp)) (by simp)⟩
set_option maxHeartbeats 8000000 in
theorem lplay_any {W w : World} {g r n c m cm s : Nat} {A A2 : Option Addr} {es : Nat → Iib} {ro : Bool} {qs : Nat → Int × Bool} (h : LPlayI W g r n c s A es ro w) (hgood : Good n es) (R : ERow W A n es) (Q : FRow W 2 A2 m (fun i => ibV .i64 (qs i)))
    (hg : W.heap.size ≤ g ∧ W.heap.size ≤ r) (hm : m ≤ 40) :
    Calls Try.prog 17 #[.pointer (some ⟨g, 0, none⟩), .pointer (some ⟨r, 0, none⟩), .slice A2 m cm] w (LPlayR W g r n c A es w) := by
  have H := Lib.hid h
  have HR := Lib.hid R
  have HQ := Lib.hid Q
  have HG := Lib.hid hg
  have HGo := Lib.hid hgood
  have hn := hgood.1
  have HAr : Hid (∀ ad, A = some ad → 0 < n → ad.block < W.heap.size) := Lib.hid fun ad e h0 => by
    obtain ⟨ad2, e2, hl, _⟩ := R 0 (by omega)
    rw [e] at e2
    cases e2
    exact hl
  clear h R Q hg hgood
  go_enter Try.func17, Try.ntmps17
  go_wp2_with fail
  go_loopw [7] (fun i wr => ∃ k : Nat, k ≤ m ∧ i = .int .i64 k ∧ (∃ s ro, LPlayI W g r n c s A es ro wr) ∧ Kp [g, r] w wr) (fun i _ => m - (intOf i).toNat)
  case atStart => exact ⟨0, Nat.zero_le _, rfl, ⟨s, ro, H.out⟩, Kp.refl _ _⟩
  case round =>
    obtain ⟨k, hk, rfl, ⟨s, ro, hI⟩, hK⟩ := hrel
    have HI := Lib.hid hI
    have HK := Lib.hid hK
    by_cases hlt : k < m
    · obtain ⟨ad, rfl, hl, q0, q1, _⟩ := FRow.at_ (FRow.keep HQ.out hI.2.2) k hlt
      obtain ⟨a, ha⟩ : ∃ a, (qs k).1 = a := ⟨_, rfl⟩
      obtain ⟨b, hb⟩ : ∃ b, (qs k).2 = b := ⟨_, rfl⟩
      have hag : ad.block < W.heap.size := by
        obtain ⟨ad2, e2, hl2, _⟩ := HQ.out k hlt
        cases e2
        exact hl2
      replace q0 : wr.cell? (ad.add (k * 2)) = some (.int .i64 (qs k).1) := q0 (by decide)
      replace q1 : wr.cell? ⟨(ad.add (k * 2)).block, (ad.add (k * 2)).off + 1, none⟩ = some (.bool (qs k).2) := q1 (by decide)
      rw [ha] at q0
      rw [hb] at q1
      have i0 : (0 : Int) ≤ (k : Int) := by omega
      have i1 : (k : Int) < m := by omega
      clear ha hb hI hK H
      go_upto_if 23 with fail
      go_cut [7] from 13 to 91 (fun i wx => i = .int .i64 k ∧ (∃ s ro, LPlayI W g r n c s A es ro wx) ∧ Kp [g, r] wr wx)
      case first =>
        have gg := HG.out
        have HRr := Lib.hid (FRow.keep HR.out HI.out.2.2)
        cases b with
        | true =>
          have r2 : wr.cell? ⟨r, 2, none⟩ = some (.bool ro) := HI.out.2.1.cell 2
          have fr2 := HI.out.2.1.frozen 2
          go_wp2_with fail
          refine (take_any HI.out.1).mono ?_
          rintro e w1 ⟨rfl, x1, x2⟩
          have hb1 := HI.out.2.1.kp x2 (by simpa using HI.out.ne.symm)
          have r21 : w1.cell? ⟨r, 2, none⟩ = some (.bool ro) := hb1.cell 2
          have fr21 := hb1.frozen 2
          have k2 : Kp [r] w1 (w1.setCell ⟨r, 2, none⟩ (.bool false)) := (Kp.refl _ _).setCell (.inl (by simp)) _
          have X := Lib.hid (HI.out.two gg x1 x2 (w2 := w1.setCell ⟨r, 2, none⟩ (.bool false)) (hb1.set_ 2 (.bool false)) k2)
          clear x1 x2 hb1 k2 r2 fr2
          go_wp2_with fail
          go_meet
          case rel => exact ⟨rfl, ⟨s, false, X.out.1⟩, X.out.2⟩
        | false =>
          go_wp2_with fail
          refine (to_any HI.out.1 HGo.out a).mono ?_
          rintro e w1 ⟨rfl, x1, x2⟩
          have hb1 := HI.out.2.1.kp x2 (by simpa using HI.out.ne.symm)
          have y0 : w1.cell? (ad.add (k * 2)) = some (.int .i64 a) := (x2.cell (p := ad.add (k * 2)) (by rw [block_of_add]; exact hl) (by rw [block_of_add]; simp; omega)).trans q0
          have X1 := Lib.hid x1
          have X2 := Lib.hid x2
          have HB1 := Lib.hid hb1
          have HRx : Hid (ERow w1 A n es) := Lib.hid (FRow.kp_ HRr.out x2 (fun ad2 e h0 hx => by
            have hx' : ad2.block = g := by simpa using hx
            have := HAr.out ad2 e h0
            omega))
          clear x1 x2 hb1
          go_wp2_with fail
          refine (rto_any HB1.out HRx.out (fun ad2 e h0 hx => by
            have hx' : ad2.block = r := by simpa using hx
            have := HAr.out ad2 e h0
            omega) HI.out.1.1 hn a).mono ?_
          rintro e w2 ⟨rfl, z1, z2⟩
          have X := Lib.hid (HI.out.two gg X1.out X2.out z1 z2)
          clear z1 z2
          go_wp2_with fail
          go_meet
          case rel => exact ⟨rfl, ⟨_, _, X.out.1⟩, X.out.2⟩
      case rest =>
        obtain ⟨rfl, ⟨s2, ro2, hI2⟩, hK2⟩ := hcut
        have HI2 := Lib.hid hI2
        have HK2 := Lib.hid (HK.out.trans hK2 (by simp))
        have HR2 := Lib.hid (FRow.keep HR.out hI2.2.2)
        obtain ⟨na, nb, hnv⟩ := nextV_ex es n s2
        have HNV := Lib.hid hnv
        clear hI2 hK2 HI HK q0 q1 hnv
        go_wp2_with fail
        refine (next_v HI2.out.1 hn HNV.out).mono ?_
        rintro e w3 ⟨rfl, k3⟩
        have HI3 := Lib.hid (HI2.out.kp0 k3)
        have HR3 : Hid (ERow w3 A n es) := Lib.hid (FRow.kp HR2.out k3 (by simp))
        have HK3 : Hid (Kp [g, r] w w3) := Lib.hid (HK2.out.trans k3 (by simp))
        clear k3 HI2 HR2 HK2
        go_wp2_with fail
        refine (rnext_v HI3.out.2.1 HR3.out HI3.out.1.1 hn HNV.out).mono ?_
        rintro e w4 ⟨rfl, k4⟩
        have HI4 := Lib.hid (HI3.out.kp0 k4)
        have HR4 : Hid (ERow w4 A n es) := Lib.hid (FRow.kp HR3.out k4 (by simp))
        have HK4 : Hid (Kp [g, r] w w4) := Lib.hid (HK3.out.trans k4 (by simp))
        have r1 : w4.cell? ⟨r, 1, none⟩ = some (.int .i64 s2) := HI4.out.2.1.cell 1
        have r2 : w4.cell? ⟨r, 2, none⟩ = some (.bool ro2) := HI4.out.2.1.cell 2
        have na_ : (na != na) = false := by simp
        have nb_ : (nb != nb) = false := by simp
        have ns_ : ((s2 : Int) != s2) = false := by simp
        have nr_ : (ro2 != ro2) = false := by simp
        clear k4 HI3 HR3 HK3
        go_wp2_with fail
        refine rg_begin (S := fun w' => w'.cell? ⟨r, 1, none⟩ = some (.int .i64 s2) ∧ w'.cell? ⟨r, 2, none⟩ = some (.bool ro2)) 26 #[false, false, false, false, false, false, false, false, false, false, false, false, false, false, false, false, false, false, false, false, false, false, false, false, false, false] (by kernel_rfl) (by kernel_rfl) (by kernel_rfl) ?_ (fun hHeld => ?_)
        · exact ⟨r1, r2⟩
        refine rg_take (i := 0) (d := some 53) (l := #[true, false, false, false, false, false, false, false, false, false, false, false, false, false, false, false, false, false, false, false, false, false, false, false, false, false]) (fuel := 25) (v := ?_) rfl (by kernel_rfl) (by kernel_rfl) (by kernel_rfl) (by kernel_rfl) (by kernel_rfl) (fun _ _ _ h => h) (by kernel_rfl) ?_ (by assumption) ?_
        rotate_left 1
        · (intro wS hSw; (try dsimp only at hSw); go_simp; try with_reducible rfl)
        try simp only [Act.put, List.setIfInBounds_toArray, List.set_cons_zero, List.set_cons_succ]
        refine rg_take (i := 1) (d := some 54) (l := #[true, true, false, false, false, false, false, false, false, false, false, false, false, false, false, false, false, false, false, false, false, false, false, false, false, false]) (fuel := 24) (v := ?_) rfl (by kernel_rfl) (by kernel_rfl) (by kernel_rfl) (by kernel_rfl) (by kernel_rfl) (fun _ _ _ h => h) (by kernel_rfl) ?_ (by assumption) ?_
        rotate_left 1
        · (intro wS hSw; (try dsimp only at hSw); go_simp; try with_reducible rfl)
        try simp only [Act.put, List.setIfInBounds_toArray, List.set_cons_zero, List.set_cons_succ]
        refine rg_take (i := 2) (d := some 55) (l := #[true, true, true, false, false, false, false, false, false, false, false, false, false, false, false, false, false, false, false, false, false, false, false, false, false, false]) (fuel := 23) (v := ?_) rfl (by kernel_rfl) (by kernel_rfl) (by kernel_rfl) (by kernel_rfl) (by kernel_rfl) (fun _ _ _ h => h) (by kernel_rfl) ?_ (by assumption) ?_
        rotate_left 1
        · (intro wS hSw; (try dsimp only at hSw); go_simp; try with_reducible rfl)
        try simp only [Act.put, List.setIfInBounds_toArray, List.set_cons_zero, List.set_cons_succ]
        refine rg_take (i := 3) (d := some 56) (l := #[true, true, true, true, false, false, false, false, false, false, false, false, false, false, false, false, false, false, false, false, false, false, false, false, false, false]) (fuel := 22) (v := ?_) rfl (by kernel_rfl) (by kernel_rfl) (by kernel_rfl) (by kernel_rfl) (by kernel_rfl) (fun _ _ _ h => h) (by kernel_rfl) ?_ (by assumption) ?_
        rotate_left 1
        · (intro wS hSw; (try dsimp only at hSw); go_simp; try with_reducible rfl)
        try simp only [Act.put, List.setIfInBounds_toArray, List.set_cons_zero, List.set_cons_succ]
        refine rg_take (i := 4) (d := some 57) (l := #[true, true, true, true, true, false, false, false, false, false, false, false, false, false, false, false, false, false, false, false, false, false, false, false, false, false]) (fuel := 21) (v := ?_) rfl (by kernel_rfl) (by kernel_rfl) (by kernel_rfl) (by kernel_rfl) (by kernel_rfl) (fun _ _ _ h => h) (by kernel_rfl) ?_ (by assumption) ?_
        rotate_left 1
        · (intro wS hSw; (try dsimp only at hSw); go_simp; try with_reducible rfl)
        try simp only [Act.put, List.setIfInBounds_toArray, List.set_cons_zero, List.set_cons_succ]
        refine rg_take (i := 5) (d := some 58) (l := #[true, true, true, true, true, true, false, false, false, false, false, false, false, false, false, false, false, false, false, false, false, false, false, false, false, false]) (fuel := 20) (v := ?_) rfl (by kernel_rfl) (by kernel_rfl) (by kernel_rfl) (by kernel_rfl) (by kernel_rfl) (fun _ _ _ h => h) (by kernel_rfl) ?_ (by assumption) ?_
        rotate_left 1
        · (intro wS hSw; (try dsimp only at hSw); go_simp; try with_reducible rfl)
        try simp only [Act.put, List.setIfInBounds_toArray, List.set_cons_zero, List.set_cons_succ]
        refine rg_take (i := 6) (d := some 59) (l := #[true, true, true, true, true, true, true, false, false, false, false, false, false, false, false, false, false, false, false, false, false, false, false, false, false, false]) (fuel := 19) (v := ?_) rfl (by kernel_rfl) (by kernel_rfl) (by kernel_rfl) (by kernel_rfl) (by kernel_rfl) (fun _ _ _ h => h) (by kernel_rfl) ?_ (by assumption) ?_
        rotate_left 1
        · (intro wS hSw; (try dsimp only at hSw); go_simp; try with_reducible rfl)
        try simp only [Act.put, List.setIfInBounds_toArray, List.set_cons_zero, List.set_cons_succ]
        refine rg_take (i := 7) (d := some 60) (l := #[true, true, true, true, true, true, true, true, false, false, false, false, false, false, false, false, false, false, false, false, false, false, false, false, false, false]) (fuel := 18) (v := ?_) rfl (by kernel_rfl) (by kernel_rfl) (by kernel_rfl) (by kernel_rfl) (by kernel_rfl) (fun _ _ _ h => h) (by kernel_rfl) ?_ (by assumption) ?_
        rotate_left 1
        · (intro wS hSw; (try dsimp only at hSw); go_simp; try with_reducible rfl)
        try simp only [Act.put, List.setIfInBounds_toArray, List.set_cons_zero, List.set_cons_succ]
        refine rg_take (i := 8) (d := some 61) (l := #[true, true, true, true, true, true, true, true, true, false, false, false, false, false, false, false, false, false, false, false, false, false, false, false, false, false]) (fuel := 17) (v := ?_) rfl (by kernel_rfl) (by kernel_rfl) (by kernel_rfl) (by kernel_rfl) (by kernel_rfl) (fun _ _ _ h => h) (by kernel_rfl) ?_ (by assumption) ?_
        rotate_left 1
        · (intro wS hSw; (try dsimp only at hSw); go_simp; try with_reducible rfl)
        try simp only [Act.put, List.setIfInBounds_toArray, List.set_cons_zero, List.set_cons_succ]
        refine rg_take (i := 9) (d := some 62) (l := #[true, true, true, true, true, true, true, true, true, true, false, false, false, false, false, false, false, false, false, false, false, false, false, false, false, false]) (fuel := 16) (v := ?_) rfl (by kernel_rfl) (by kernel_rfl) (by kernel_rfl) (by kernel_rfl) (by kernel_rfl) (fun _ _ _ h => h) (by kernel_rfl) ?_ (by assumption) ?_
        rotate_left 1
        · (intro wS hSw; (try dsimp only at hSw); go_simp; try with_reducible rfl)
        try simp only [Act.put, List.setIfInBounds_toArray, List.set_cons_zero, List.set_cons_succ]
        refine rg_take (i := 11) (d := some 64) (l := #[true, true, true, true, true, true, true, true, true, true, false, true, false, false, false, false, false, false, false, false, false, false, false, false, false, false]) (fuel := 15) (v := ?_) rfl (by kernel_rfl) (by kernel_rfl) (by kernel_rfl) (by kernel_rfl) (by kernel_rfl) (fun _ _ _ h => h) (by kernel_rfl) ?_ (by assumption) ?_
        rotate_left 1
        · (intro wS hSw; (try dsimp only at hSw); go_simp; try with_reducible rfl)
        try simp only [Act.put, List.setIfInBounds_toArray, List.set_cons_zero, List.set_cons_succ]
        refine rg_take (i := 12) (d := some 65) (l := #[true, true, true, true, true, true, true, true, true, true, false, true, true, false, false, false, false, false, false, false, false, false, false, false, false, false]) (fuel := 14) (v := ?_) rfl (by kernel_rfl) (by kernel_rfl) (by kernel_rfl) (by kernel_rfl) (by kernel_rfl) (fun _ _ _ h => h) (by kernel_rfl) ?_ (by assumption) ?_
        rotate_left 1
        · (intro wS hSw; (try dsimp only at hSw); go_simp; try with_reducible rfl)
        try simp only [Act.put, List.setIfInBounds_toArray, List.set_cons_zero, List.set_cons_succ]
        refine rg_take (i := 13) (d := some 66) (l := #[true, true, true, true, true, true, true, true, true, true, false, true, true, true, false, false, false, false, false, false, false, false, false, false, false, false]) (fuel := 13) (v := ?_) rfl (by kernel_rfl) (by kernel_rfl) (by kernel_rfl) (by kernel_rfl) (by kernel_rfl) (fun _ _ _ h => h) (by kernel_rfl) ?_ (by assumption) ?_
        rotate_left 1
        · (intro wS hSw; (try dsimp only at hSw); go_simp; try with_reducible rfl)
        try simp only [Act.put, List.setIfInBounds_toArray, List.set_cons_zero, List.set_cons_succ]
        refine rg_take (i := 14) (d := some 67) (l := #[true, true, true, true, true, true, true, true, true, true, false, true, true, true, true, false, false, false, false, false, false, false, false, false, false, false]) (fuel := 12) (v := ?_) rfl (by kernel_rfl) (by kernel_rfl) (by kernel_rfl) (by kernel_rfl) (by kernel_rfl) (fun _ _ _ h => h) (by kernel_rfl) ?_ (by assumption) ?_
        rotate_left 1
        · (intro wS hSw; (try dsimp only at hSw); go_simp; try with_reducible rfl)
        try simp only [Act.put, List.setIfInBounds_toArray, List.set_cons_zero, List.set_cons_succ]
        refine rg_next (i := 10) (l := #[true, true, true, true, true, true, true, true, true, true, true, true, true, true, true, false, false, false, false, false, false, false, false, false, false, false]) (fuel := 11) (by kernel_rfl) rfl (by kernel_rfl) (by kernel_rfl) (fun K hK => ?_)
        go_simp
        (go_at_call 20)
        refine (seen_any (by exact HI4.out.1)).mono ?_
        rintro e w' ⟨rfl, rfl⟩
        first | (refine hK.out _ _ ?_ (fun hHeld => ?_)) | (go_wp2_with fail; refine hK.out _ _ ?_ (fun hHeld => ?_))
        · (try dsimp only); exact ⟨r1, r2⟩
        clear hK K
        try simp only [Act.put, List.setIfInBounds_toArray, List.set_cons_zero, List.set_cons_succ]
        refine rg_take (i := 15) (d := some 68) (l := #[true, true, true, true, true, true, true, true, true, true, true, true, true, true, true, true, false, false, false, false, false, false, false, false, false, false]) (fuel := 10) (v := ?_) rfl (by kernel_rfl) (by kernel_rfl) (by kernel_rfl) (by kernel_rfl) (by kernel_rfl) (fun _ _ _ h => h) (by kernel_rfl) ?_ (by assumption) ?_
        rotate_left 1
        · (intro wS hSw; (try dsimp only at hSw); go_simp; try with_reducible rfl)
        try simp only [Act.put, List.setIfInBounds_toArray, List.set_cons_zero, List.set_cons_succ]
        refine rg_take (i := 16) (d := some 69) (l := #[true, true, true, true, true, true, true, true, true, true, true, true, true, true, true, true, true, false, false, false, false, false, false, false, false, false]) (fuel := 9) (v := ?_) rfl (by kernel_rfl) (by kernel_rfl) (by kernel_rfl) (by kernel_rfl) (by kernel_rfl) (fun _ _ _ h => h) (by kernel_rfl) ?_ (by assumption) ?_
        rotate_left 1
        · (intro wS hSw; (try dsimp only at hSw); go_simp; try with_reducible rfl)
        try simp only [Act.put, List.setIfInBounds_toArray, List.set_cons_zero, List.set_cons_succ]
        refine rg_take (i := 17) (d := some 70) (l := #[true, true, true, true, true, true, true, true, true, true, true, true, true, true, true, true, true, true, false, false, false, false, false, false, false, false]) (fuel := 8) (v := ?_) rfl (by kernel_rfl) (by kernel_rfl) (by kernel_rfl) (by kernel_rfl) (by kernel_rfl) (fun _ _ _ h => h) (by kernel_rfl) ?_ (by assumption) ?_
        rotate_left 1
        · (intro wS hSw; (try dsimp only at hSw); go_simp; try with_reducible rfl)
        try simp only [Act.put, List.setIfInBounds_toArray, List.set_cons_zero, List.set_cons_succ]
        refine rg_take (i := 18) (d := some 71) (l := #[true, true, true, true, true, true, true, true, true, true, true, true, true, true, true, true, true, true, true, false, false, false, false, false, false, false]) (fuel := 7) (v := ?_) rfl (by kernel_rfl) (by kernel_rfl) (by kernel_rfl) (by kernel_rfl) (by kernel_rfl) (fun _ _ _ h => h) (by kernel_rfl) ?_ (by assumption) ?_
        rotate_left 1
        · (intro wS hSw; (try dsimp only at hSw); go_simp; try with_reducible rfl)
        try simp only [Act.put, List.setIfInBounds_toArray, List.set_cons_zero, List.set_cons_succ]
        refine rg_take (i := 20) (d := some 73) (l := #[true, true, true, true, true, true, true, true, true, true, true, true, true, true, true, true, true, true, true, false, true, false, false, false, false, false]) (fuel := 6) (v := ?_) rfl (by kernel_rfl) (by kernel_rfl) (by kernel_rfl) (by kernel_rfl) (by kernel_rfl) (fun _ _ _ h => h) (by kernel_rfl) ?_ (by assumption) ?_
        rotate_left 1
        · (intro wS hSw; (try dsimp only at hSw); go_simp; try with_reducible rfl)
        try simp only [Act.put, List.setIfInBounds_toArray, List.set_cons_zero, List.set_cons_succ]
        refine rg_take (i := 21) (d := some 74) (l := #[true, true, true, true, true, true, true, true, true, true, true, true, true, true, true, true, true, true, true, false, true, true, false, false, false, false]) (fuel := 5) (v := ?_) rfl (by kernel_rfl) (by kernel_rfl) (by kernel_rfl) (by kernel_rfl) (by kernel_rfl) (fun _ _ _ h => h) (by kernel_rfl) ?_ (by assumption) ?_
        rotate_left 1
        · (intro wS hSw; (try dsimp only at hSw); go_simp; try with_reducible rfl)
        try simp only [Act.put, List.setIfInBounds_toArray, List.set_cons_zero, List.set_cons_succ]
        refine rg_take (i := 22) (d := some 75) (l := #[true, true, true, true, true, true, true, true, true, true, true, true, true, true, true, true, true, true, true, false, true, true, true, false, false, false]) (fuel := 4) (v := ?_) rfl (by kernel_rfl) (by kernel_rfl) (by kernel_rfl) (by kernel_rfl) (by kernel_rfl) (fun _ _ _ h => h) (by kernel_rfl) ?_ (by assumption) ?_
        rotate_left 1
        · (intro wS hSw; (try dsimp only at hSw); go_simp; try with_reducible rfl)
        try simp only [Act.put, List.setIfInBounds_toArray, List.set_cons_zero, List.set_cons_succ]
        refine rg_take (i := 23) (d := some 76) (l := #[true, true, true, true, true, true, true, true, true, true, true, true, true, true, true, true, true, true, true, false, true, true, true, true, false, false]) (fuel := 3) (v := ?_) rfl (by kernel_rfl) (by kernel_rfl) (by kernel_rfl) (by kernel_rfl) (by kernel_rfl) (fun _ _ _ h => h) (by kernel_rfl) ?_ (by assumption) ?_
        rotate_left 1
        · (intro wS hSw; (try dsimp only at hSw); go_simp; try with_reducible rfl)
        try simp only [Act.put, List.setIfInBounds_toArray, List.set_cons_zero, List.set_cons_succ]
        refine rg_next (i := 19) (l := #[true, true, true, true, true, true, true, true, true, true, true, true, true, true, true, true, true, true, true, true, true, true, true, true, false, false]) (fuel := 2) (by kernel_rfl) rfl (by kernel_rfl) (by kernel_rfl) (fun K hK => ?_)
        go_simp
        (go_at_call 21)
        refine (rose_any (by exact HI4.out.1)).mono ?_
        rintro e w' ⟨rfl, rfl⟩
        first | (refine hK.out _ _ ?_ (fun hHeld => ?_)) | (go_wp2_with fail; refine hK.out _ _ ?_ (fun hHeld => ?_))
        · (try dsimp only); exact ⟨r1, r2⟩
        clear hK K
        try simp only [Act.put, List.setIfInBounds_toArray, List.set_cons_zero, List.set_cons_succ]
        refine rg_take (i := 24) (d := some 77) (l := #[true, true, true, true, true, true, true, true, true, true, true, true, true, true, true, true, true, true, true, true, true, true, true, true, true, false]) (fuel := 1) (v := ?_) rfl (by kernel_rfl) (by kernel_rfl) (by kernel_rfl) (by kernel_rfl) (by kernel_rfl) (fun _ _ _ h => h) (by kernel_rfl) ?_ (by assumption) ?_
        rotate_left 1
        · (intro wS hSw; (try dsimp only at hSw); go_simp; try with_reducible rfl)
        try simp only [Act.put, List.setIfInBounds_toArray, List.set_cons_zero, List.set_cons_succ]
        refine rg_take (i := 25) (d := some 78) (l := #[true, true, true, true, true, true, true, true, true, true, true, true, true, true, true, true, true, true, true, true, true, true, true, true, true, true]) (fuel := 0) (v := ?_) rfl (by kernel_rfl) (by kernel_rfl) (by kernel_rfl) (by kernel_rfl) (by kernel_rfl) (fun _ _ _ h => h) (by kernel_rfl) ?_ (by assumption) ?_
        rotate_left 1
        · (intro wS hSw; (try dsimp only at hSw); go_simp; try with_reducible rfl)
        try simp only [Act.put, List.setIfInBounds_toArray, List.set_cons_zero, List.set_cons_succ]
        refine wpAnyH_done (by kernel_rfl) ?_ _
        go_wp2_with fail
        have HI5 : Hid (LPlayI W g r n c s2 A es ro2 w4.drew) := Lib.hid (HI4.out.kp0 (Kp.refl _ _).drew)
        have HR5 : Hid (ERow w4.drew A n es) := Lib.hid (FRow.kp HR4.out (Kp.refl [] _).drew (by simp))
        have HK5 : Hid (Kp [g, r] w w4.drew) := Lib.hid HK4.out.drew
        clear HI4 HR4 HK4 r1 r2 na_ nb_ ns_ nr_
        generalize w4.drew = w5 at *
        go_loop [12] (fun i => ∃ j : Nat, j ≤ 6 ∧ i = .int .i64 j) (fun i => 6 - (intOf i).toNat)
        case atStart => exact ⟨0, by omega, rfl⟩
        case round =>
          obtain ⟨j, hj, rfl⟩ := hrel
          by_cases hjt : j < 6
          · have hw : IntKind.u8.wrap (j : Int) = j := by rw [IntKind.wrap_u8]; omega
            obtain ⟨u, hu⟩ : ∃ u, upV es s2 j = u := ⟨_, rfl⟩
            have HU := Lib.hid hu
            clear hu
            go_wp2_with fail
            refine (up_any HI5.out.1 j (by omega)).mono ?_
            rw [HU.out]
            rintro e w' ⟨rfl, rfl⟩
            go_wp2_with fail
            refine (rup_any HI5.out.2.1 HR5.out HI5.out.1.1 hn j).mono ?_
            rw [upTo_upV HGo.out.2.1 HI5.out.1.1, HU.out]
            rintro e w' ⟨rfl, rfl⟩
            have hne : (u != u) = false := by simp
            clear hw
            go_wp2_with fail
            go_round
            case rel => exact ⟨j + 1, by omega, by go_num⟩
            case measure => simp [intOf]; omega
          · obtain rfl : j = 6 := by omega
            go_wp2_with fail
            go_roundw
            case rel => exact ⟨k + 1, by omega, by go_num, ⟨s2, ro2, HI5.out⟩, HK5.out⟩
            case measure => simp [intOf]; omega
    · obtain rfl : k = m := by omega
      clear hI hK H
      go_wp2_with fail
      go_ret
      exact ⟨rfl, ⟨s, ro, HI.out⟩, HK.out⟩
end Go.Proofs.Ytjedlldmmnacbaa
