/-
  Timers and the reference's go on alike: small, play.
-/
import Derived.Test.YtbdmpgpdnnjmpaaTim5
import Derived.Test.YtbdmpgpdnnjmpaaG14
import Derived.Deep.RegionHeld3
namespace Go.Proofs.Ytbdmpgpdnnjmpaa
open Go.RowKit
set_option linter.unusedVariables false
set_option linter.unusedSimpArgs false
set_option maxRecDepth 100000
/-- Few steps, and none too long. -/
def SmallT (n : Nat) (qs : Nat → Iii) : Prop := n ≤ 60 ∧ ∀ i, i < n → (qs i).c ≤ 4000000
theorem stepCells {w : World} {A : Option Addr} {n : Nat} {qs : Nat → Iii} (Q : FRow w 3 A n (fun i => iiiV .u8 .u8 .i64 (qs i))) (k : Nat) (hk : k < n) : ∃ ad : Addr, A = some ad ∧ ad.block < w.heap.size ∧ w.cell? (ad.add (k * 3)) = some (.int .u8 (qs k).a) ∧
    w.cell? ⟨(ad.add (k * 3)).block, (ad.add (k * 3)).off + 1, none⟩ = some (.int .u8 (qs k).b) ∧ w.cell? ⟨(ad.add (k * 3)).block, (ad.add (k * 3)).off + 2, none⟩ = some (.int .i64 (qs k).c) := by
  obtain ⟨ad, e, hl, q0, q1, q2⟩ := FRow.at_ Q k hk
  exact ⟨ad, e, hl, q0 (by decide), q1 (by decide), q2 (by decide)⟩
set_option maxHeartbeats 2000000 in
theorem tsmall_any {w : World} {A : Option Addr} {n c : Nat} {qs : Nat → Iii} (Q : FRow w 3 A n (fun i => iiiV .u8 .u8 .i64 (qs i))) (hn : n ≤ 9223372036854775807) :
    Calls Try.prog 11 #[.slice A n c] w fun e w' => (∃ b : Bool, e = .returned (.bool b) ∧ (b = true → SmallT n qs)) ∧ w = w' := by
  have HQ := Lib.hid Q
  clear Q
  by_cases h60 : 60 < n
  · have j0 : (60 : Int) < n := by omega
    go_enter Try.func11, Try.ntmps11
    go_wp2
    go_ret
    exact ⟨⟨false, rfl, fun h => by cases h⟩, rfl⟩
  have j0 : ¬ (60 : Int) < n := by omega
  go_enter Try.func11, Try.ntmps11
  go_wp2_with fail
  go_loopw [3] (fun i wr => ∃ k : Nat, k ≤ n ∧ i = .int .i64 k ∧ (∀ j, j < k → (qs j).c ≤ 4000000) ∧ wr = w) (fun i _ => n - (intOf i).toNat)
  case atStart => exact ⟨0, Nat.zero_le _, rfl, fun j hj => absurd hj (by omega), rfl⟩
  case round =>
    obtain ⟨k, hk, rfl, hok, rfl⟩ := hrel
    have HOK := Lib.hid hok
    clear hok
    by_cases hlt : k < n
    · obtain ⟨ad, rfl, hl, q0, q1, q2⟩ := stepCells HQ.out k hlt
      obtain ⟨x, hx⟩ : ∃ x, (qs k).c = x := ⟨_, rfl⟩
      rw [hx] at q2
      have HX := Lib.hid hx
      have i0 : (0 : Int) ≤ (k : Int) := by omega
      have i1 : (k : Int) < n := by omega
      clear hx q0 q1
      by_cases hb : 4000000 < x
      · go_wp2_with fail
        go_ret
        exact ⟨⟨false, rfl, fun h => by cases h⟩, rfl⟩
      · go_wp2_with fail
        go_roundw
        case rel =>
          refine ⟨k + 1, by omega, by go_num, fun j hj => ?_, by first | rfl | trivial⟩
          rcases (by omega : j < k ∨ j = k) with h | rfl
          · exact HOK.out j h
          · rw [HX.out]; omega
        case measure => simp [intOf]; omega
    · obtain rfl : k = n := by omega
      go_wp2_with fail
      go_ret
      exact ⟨⟨true, rfl, fun _ => ⟨by omega, HOK.out⟩⟩, rfl⟩
/-- A timer and the reference's, alike. -/
def TPl (W : World) (g r : Nat) (s : Tm) (w : World) : Prop := T0 w g s ∧ RTM w r s ∧ Below W.heap.size W w
def TPlR (W : World) (g r : Nat) (w : World) (e : Ending) (w' : World) : Prop := e = .returned (.bool true) ∧ (∃ s, TPl W g r s w') ∧ Kp [g, r] w w'
theorem TPl.ne {W w : World} {g r : Nat} {s : Tm} (h : TPl W g r s w) : g ≠ r := h.1.1.ne_ h.2.1.1 (by decide)
theorem TPl.kp0 {W w w' : World} {g r : Nat} {s : Tm} (h : TPl W g r s w) (k : Kp [] w w') : TPl W g r s w' := ⟨TM.kp h.1 k (by simp), h.2.1.kp k (by simp), k.onto h.2.2 h.2.2.size (by simp)⟩
/-- One of both goes on, then the other. -/
theorem TPl.two {W w w1 w2 : World} {g r : Nat} {s s' : Tm} (h : TPl W g r s w) (hg : W.heap.size ≤ g ∧ W.heap.size ≤ r) (h1 : T0 w1 g s') (k1 : Kp [g] w w1) (h2 : RTM w2 r s') (k2 : Kp [r] w1 w2) : TPl W g r s' w2 ∧ Kp [g, r] w w2 := by
  have hne := h.ne
  exact ⟨⟨TM.kp h1 k2 (by simpa using hne), h2, k2.onto (k1.onto h.2.2 h.2.2.size (by simpa using hg.1)) (Nat.le_trans h.2.2.size k1.size) (by simpa using hg.2)⟩, (k1.mono (by simp)).trans (k2.mono (M := [g, r]) (by simp)) (by simp)⟩
theorem step_blk {w : World} {h : Nat} {cs : Array Value} {g r : Nat} {s : Tm} {W : World} (b : Blk w h 67 cs) (t : TPl W g r s w) : h ∉ [g] ∧ h ∉ [r] :=
  ⟨by simpa using b.ne_ t.1.1 (by decide), by simpa using b.ne_ t.2.1.1 (by decide)⟩
set_option maxHeartbeats 8000000 in
theorem tplay_any {W w : World} {g r m cm : Nat} {s : Tm} {A : Option Addr} {qs : Nat → Iii} (h : TPl W g r s w) (Q : FRow W 3 A m (fun i => iiiV .u8 .u8 .i64 (qs i)))
    (F : ∀ i, i < m → (Lit.int .u8 (qs i).a).wf = true ∧ (Lit.int .u8 (qs i).b).wf = true ∧ (Lit.int .i64 (qs i).c).wf = true) (hsm : SmallT m qs) (hg : W.heap.size ≤ g ∧ W.heap.size ≤ r) :
    Calls Try.prog 14 #[.pointer (some ⟨g, 0, none⟩), .pointer (some ⟨r, 0, none⟩), .slice A m cm] w (TPlR W g r w) := by
  have H := Lib.hid h
  have HQ := Lib.hid Q
  have HF := Lib.hid F
  have HG := Lib.hid hg
  have hm := hsm.1
  clear h Q F hsm hg
  go_enter Try.func14, Try.ntmps14
  go_wp2_with fail
  go_loopw [7] (fun i wr => ∃ k : Nat, k ≤ m ∧ i = .int .i64 k ∧ (∃ s, TPl W g r s wr) ∧ Kp [g, r] w wr) (fun i _ => m - (intOf i).toNat)
  case atStart => exact ⟨0, Nat.zero_le _, rfl, ⟨s, H.out⟩, Kp.refl _ _⟩
  case round =>
    obtain ⟨k, hk, rfl, ⟨s, hI⟩, hK⟩ := hrel
    have HI := Lib.hid hI
    have HK := Lib.hid hK
    by_cases hlt : k < m
    · obtain ⟨ad, rfl, hl, q0, q1, q2⟩ := stepCells (FRow.keep HQ.out hI.2.2) k hlt
      obtain ⟨wa, wb, wc⟩ := HF.out k hlt
      obtain ⟨a0, a1⟩ := bounds_u8 wa
      obtain ⟨b0, b1⟩ := bounds_u8 wb
      obtain ⟨x0, x1⟩ := bounds_i64 wc
      generalize (qs k).a = a at *
      generalize (qs k).b = b at *
      generalize (qs k).c = x at *
      have i0 : (0 : Int) ≤ (k : Int) := by omega
      have i1 : (k : Int) < m := by omega
      clear hI hK H wa wb wc
      go_upto_if 21 with fail
      have kA : Kp [] wr (wr.alloc (.cells #[.int .u8 a, .int .u8 b, .int .i64 x] 67)) := (Kp.refl _ _).alloc _
      have hb := Blk.new wr 67 #[.int .u8 a, .int .u8 b, .int .i64 x]
      have HI0 := Lib.hid (HI.out.kp0 kA)
      have HB0 := Lib.hid hb
      have HK0 := Lib.hid (HK.out.trans kA (by simp))
      have e0 := hb.cell 0
      have e1 := hb.cell 1
      have e2 := hb.cell 2
      clear kA hb HI HK q0 q1 q2
      generalize wr.alloc _ = w0 at *
      generalize wr.heap.size = hh at *
      go_cut [7] from 9 to 78 (fun i wx => i = .int .i64 k ∧ (∃ s, TPl W g r s wx) ∧ Kp [g, r] w0 wx)
      case first =>
        have gg := HG.out
        obtain ⟨hn1, hn2⟩ := step_blk HB0.out HI0.out
        by_cases h3 : a < 3
        · go_wp2_with fail
          refine (twrite_v HI0.out.1 b0 b1 rfl).mono ?_
          rintro e w1 ⟨rfl, y1, y2⟩
          have r1 := Lib.hid (HI0.out.2.1.kp y2 (by simpa using HI0.out.ne.symm))
          have B1 := Lib.hid (HB0.out.kp y2 hn1)
          have c0 := B1.out.cell 0
          have c1 := B1.out.cell 1
          have Y1 := Lib.hid y1
          have Y2 := Lib.hid y2
          clear y1 y2 e0 e1 e2
          go_wp2_with fail
          refine (rtwrite_any r1.out a b b0 b1).mono ?_
          rintro e w2 ⟨rfl, z1, z2⟩
          have X := Lib.hid (HI0.out.two gg Y1.out Y2.out z1 z2)
          clear z1 z2 c0 c1
          go_wp2_with fail
          go_meet
          case rel => exact ⟨rfl, ⟨_, X.out.1⟩, X.out.2⟩
        · obtain ⟨v, hv⟩ : ∃ v : Int, (s.overN x.toNat : Int) = v := ⟨_, rfl⟩
          have HV := Lib.hid hv
          have nv : (v != v) = false := by simp
          clear hv
          go_wp2_with fail
          refine rg_begin (S := fun w' => w'.cell? ⟨hh, 2, none⟩ = some (.int .i64 x)) 9 #[false, false, false, false, false, false, false, false, false] (by kernel_rfl) (by kernel_rfl) (by kernel_rfl) ?_ (fun hHeld => ?_)
          · exact e2
          refine rg_take (i := 0) (d := some 36) (l := #[true, false, false, false, false, false, false, false, false]) (fuel := 8) (v := ?_) rfl (by kernel_rfl) (by kernel_rfl) (by kernel_rfl) (by kernel_rfl) (by kernel_rfl) (fun _ _ _ h => h) (by kernel_rfl) ?_ (by assumption) ?_
          rotate_left 1
          · (intro wS hSw; (try dsimp only at hSw); go_simp; try with_reducible rfl)
          try simp only [Act.put, List.setIfInBounds_toArray, List.set_cons_zero, List.set_cons_succ]
          refine rg_take (i := 1) (d := some 37) (l := #[true, true, false, false, false, false, false, false, false]) (fuel := 7) (v := ?_) rfl (by kernel_rfl) (by kernel_rfl) (by kernel_rfl) (by kernel_rfl) (by kernel_rfl) (fun _ _ _ h => h) (by kernel_rfl) ?_ (by assumption) ?_
          rotate_left 1
          · (intro wS hSw; (try dsimp only at hSw); go_simp; try with_reducible rfl)
          try simp only [Act.put, List.setIfInBounds_toArray, List.set_cons_zero, List.set_cons_succ]
          refine rg_take (i := 2) (d := some 38) (l := #[true, true, true, false, false, false, false, false, false]) (fuel := 6) (v := ?_) rfl (by kernel_rfl) (by kernel_rfl) (by kernel_rfl) (by kernel_rfl) (by kernel_rfl) (fun _ _ _ h => h) (by kernel_rfl) ?_ (by assumption) ?_
          rotate_left 1
          · (intro wS hSw; (try dsimp only at hSw); go_simp; try with_reducible rfl)
          try simp only [Act.put, List.setIfInBounds_toArray, List.set_cons_zero, List.set_cons_succ]
          refine rg_take (i := 4) (d := some 40) (l := #[true, true, true, false, true, false, false, false, false]) (fuel := 5) (v := ?_) rfl (by kernel_rfl) (by kernel_rfl) (by kernel_rfl) (by kernel_rfl) (by kernel_rfl) (fun _ _ _ h => h) (by kernel_rfl) ?_ (by assumption) ?_
          rotate_left 1
          · (intro wS hSw; (try dsimp only at hSw); go_simp; try with_reducible rfl)
          try simp only [Act.put, List.setIfInBounds_toArray, List.set_cons_zero, List.set_cons_succ]
          refine rg_take (i := 5) (d := some 41) (l := #[true, true, true, false, true, true, false, false, false]) (fuel := 4) (v := ?_) rfl (by kernel_rfl) (by kernel_rfl) (by kernel_rfl) (by kernel_rfl) (by kernel_rfl) (fun _ _ _ h => h) (by kernel_rfl) ?_ (by assumption) ?_
          rotate_left 1
          · (intro wS hSw; (try dsimp only at hSw); go_simp; try with_reducible rfl)
          try simp only [Act.put, List.setIfInBounds_toArray, List.set_cons_zero, List.set_cons_succ]
          refine rg_take (i := 6) (d := some 42) (l := #[true, true, true, false, true, true, true, false, false]) (fuel := 3) (v := ?_) rfl (by kernel_rfl) (by kernel_rfl) (by kernel_rfl) (by kernel_rfl) (by kernel_rfl) (fun _ _ _ h => h) (by kernel_rfl) ?_ (by assumption) ?_
          rotate_left 1
          · (intro wS hSw; (try dsimp only at hSw); go_simp; try with_reducible rfl)
          try simp only [Act.put, List.setIfInBounds_toArray, List.set_cons_zero, List.set_cons_succ]
          refine rg_next (i := 3) (l := #[true, true, true, true, true, true, true, false, false]) (fuel := 2) (by kernel_rfl) rfl (by kernel_rfl) (by kernel_rfl) (fun K hK => ?_)
          go_simp
          (go_at_call 20)
          refine (tgo_v (by exact HI0.out.1) x1 rfl HV.out).mono ?_
          rintro e wx ⟨rfl, y1, y2⟩
          have Y1 := Lib.hid y1
          have Y2 : Hid (Kp [g] w0 wx) := Lib.hid ((Kp.refl [g] w0).drew.trans y2 (by simp))
          clear y1 y2
          have R1 := Lib.hid (HI0.out.2.1.kp Y2.out (by simpa using HI0.out.ne.symm))
          have B1 := Lib.hid (HB0.out.kp Y2.out hn1)
          first | (refine hK.out _ _ ?_ (fun hHeld => ?_)) | (go_wp2_with fail; refine hK.out _ _ ?_ (fun hHeld => ?_))
          · (try dsimp only); exact B1.out.cell 2
          clear hK K
          try simp only [Act.put, List.setIfInBounds_toArray, List.set_cons_zero, List.set_cons_succ]
          refine rg_next (i := 7) (l := #[true, true, true, true, true, true, true, true, false]) (fuel := 1) (by kernel_rfl) rfl (by kernel_rfl) (by kernel_rfl) (fun K hK => ?_)
          go_simp
          (go_at_call 37)
          refine (rtgo_any R1.out x x1).mono ?_
          rw [HV.out]
          rintro e wy ⟨rfl, z1, z2⟩
          have X := Lib.hid (HI0.out.two gg Y1.out Y2.out z1 z2)
          have B2 := Lib.hid (B1.out.kp z2 hn2)
          clear z1 z2
          first | (refine hK.out _ _ ?_ (fun hHeld => ?_)) | (go_wp2_with fail; refine hK.out _ _ ?_ (fun hHeld => ?_))
          · (try dsimp only); exact B2.out.cell 2
          clear hK K
          try simp only [Act.put, List.setIfInBounds_toArray, List.set_cons_zero, List.set_cons_succ]
          refine rg_take (i := 8) (d := some 44) (l := #[true, true, true, true, true, true, true, true, true]) (fuel := 0) (v := ?_) rfl (by kernel_rfl) (by kernel_rfl) (by kernel_rfl) (by kernel_rfl) (by kernel_rfl) (fun _ _ _ h => h) (by kernel_rfl) ?_ (by assumption) ?_
          rotate_left 1
          · (intro wS hSw; (try dsimp only at hSw); go_simp; try with_reducible rfl)
          try simp only [Act.put, List.setIfInBounds_toArray, List.set_cons_zero, List.set_cons_succ]
          refine wpAnyH_done (by kernel_rfl) ?_ _
          go_wp2_with fail
          go_meet
          case rel => exact ⟨rfl, ⟨_, X.out.1⟩, X.out.2⟩
      case rest =>
        obtain ⟨rfl, ⟨s2, hI2⟩, hK2⟩ := hcut
        have HI2 := Lib.hid hI2
        have HK2 := Lib.hid (HK0.out.trans hK2 (by simp))
        obtain ⟨d0, d1, d2, d3⟩ := hI2.2.1.cells
        obtain ⟨gone, cc, rr, on⟩ := s2
        dsimp only at d0 d1 d2 d3
        have n0 : ((rr : Int) != rr) = false := by simp
        have n1 : ((cc : Int) != cc) = false := by simp
        have n2 : (on != on) = false := by simp
        have n3 : ((3072 - (gone : Int)) != 3072 - (gone : Int)) = false := by simp
        clear hI2 hK2 HI0 HB0 HK0 e0 e1 e2
        go_wp2_with fail
        go_quiet ((first | (go_at_call 17; exact Calls.quiet_of_same ((tcounter_v (s := ⟨gone, cc, rr, on⟩) (by exact HI2.out.1) (x := cc) rfl).mono fun _ _ h => ⟨h.1, h.2.symm⟩)) | (go_at_call 35; exact Calls.quiet_of_same ((treload_v (s := ⟨gone, cc, rr, on⟩) (by exact HI2.out.1) (x := rr) rfl).mono fun _ _ h => ⟨h.1, h.2.symm⟩)) | (go_at_call 22; exact Calls.quiet_of_same ((ton_v (s := ⟨gone, cc, rr, on⟩) (by exact HI2.out.1) (x := on) rfl).mono fun _ _ h => ⟨h.1, h.2.symm⟩)) | (go_at_call 18; exact Calls.quiet_of_same ((tleft_v (s := ⟨gone, cc, rr, on⟩) (by exact HI2.out.1) (x := 3072 - gone) rfl).mono fun _ _ h => ⟨h.1, h.2.symm⟩))))
        go_wp2_with fail
        go_roundw
        case rel => exact ⟨k + 1, by omega, by go_num, ⟨_, HI2.out.kp0 ((Kp.refl _ _).drewN _)⟩, HK2.out.drewN _⟩
        case measure => simp [intOf]; omega
    · obtain rfl : k = m := by omega
      clear hI hK H
      go_wp2_with fail
      go_ret
      exact ⟨rfl, ⟨s, HI.out⟩, HK.out⟩
end Go.Proofs.Ytbdmpgpdnnjmpaa
