/-
  The reference's channel: Go, New, Copy (by wip/tools/genwav6.py).
-/
import Derived.Test.YtcnjekballnncaaWav5
import Derived.Test.YtcnjekballnncaaG14
import Derived.Deep.Cut
import Derived.Deep.CutBlock
namespace Go.Proofs.Ytcnjekballnncaa
open Go.RowKit
set_option linter.unusedVariables false
set_option linter.unusedSimpArgs false
set_option maxRecDepth 100000
section
variable {w w' : World} {r n : Nat} {x y : Cw}
theorem RCW.noise (h : RCW w r n x) {m : Nz} (h' : RNZ w' n m) (k : Kp [n] w w') : RCW w' r n { x with nz := m } :=
  ⟨h.1.kp k (by simpa using h.ne), h', h'.2, h.2.2.2⟩
set_option maxHeartbeats 8000000 in
theorem rcgo_any (h : RCW w r n x) (N : Nat) (hN : N ≤ 1099511627776) : Calls Try.prog 57 #[.pointer (some ⟨r, 0, none⟩), .int .i64 N] w (RcR r n (x.go N) w) := by
  have c38 : w.cell? ⟨r, 38, none⟩ = some (.bool x.ns) := h.cell 38 (by decide)
  have c39 : w.cell? ⟨r, 39, none⟩ = some (.pointer (some ⟨n, 0, none⟩)) := h.cell 39 (by decide)
  have H := Lib.hid h
  clear h
  have e0 : x.go N = (x.goN N).goW N := rfl
  obtain ⟨Y, hY⟩ : ∃ Y, x.go N = Y := ⟨_, rfl⟩
  rw [hY]
  rw [hY] at e0
  clear hY
  cases hs : x.ns with
  | false =>
    rw [hs] at c38
    have e1 : x.goN N = x := by unfold Cw.goN; rw [hs]; simp
    have HFIN := Lib.hid e0.symm
    rw [e1] at HFIN
    clear e1 hs e0 c39
    go_enter Try.func57, Try.ntmps57
    go_upto_region 4 with fail
    clear c38
    obtain ⟨y, rfl⟩ : ∃ y, y = x := ⟨_, rfl⟩
    have HY := H
    have KY := Lib.hid (Kp.refl [r, n] w)
    clear H
    obtain ⟨wc, hwc⟩ : ∃ wc, wc = w := ⟨_, rfl⟩
    rw [← hwc] at HY
    have KY' : Hid (Kp [r, n] w wc) := Lib.hid (hwc ▸ KY.out)
    clear KY
    have KY := KY'
    clear KY'
    have eg : ∀ (P : World → Prop), P wc → P w := fun P p => hwc ▸ p
    refine eg (fun v => Code.wp _ _ _ _ v) ?_
    clear eg hwc
    obtain ⟨l1, l2⟩ := lvl_cases HY.out.2.2
    obtain ⟨_, _, _, _, _, ⟨t0, t1⟩, _⟩ := HY.out.2.2
    have c3 : wc.cell? ⟨r, 3, none⟩ = some (.int .u8 y.ct) := HY.out.cell 3 (by decide)
    cases hr : y.runs with
    | false =>
      have e : y.goW N = y := by unfold Cw.goW; rw [hr]; simp
      have HE := Lib.hid e
      have j2 : (y.ct / 64 != 2) = true := by
        unfold Cw.runs at hr
        rw [l1, l2] at hr
        have : ¬ y.ct / 64 = 2 := fun e => by
          rw [decide_eq_true (by omega), decide_eq_false (by omega)] at hr
          simp at hr
        simpa using this
      clear hr e l1 l2
      go_wp2_with fail
      first | go_end0 | refine bodyPost_ret (results_none rfl _ _ _) rfl ?_
      exact ⟨rfl, by rw [← HFIN.out, HE.out]; exact HY.out, KY.out⟩
    | true =>
      have j2 : (y.ct / 64 != 2) = false := by
        unfold Cw.runs at hr
        rw [l1, l2] at hr
        have : y.ct / 64 = 2 := by
          by_cases q1 : 128 ≤ y.ct
          · by_cases q2 : y.ct / 64 % 2 = 1
            · rw [decide_eq_true q1, decide_eq_true q2] at hr; simp at hr
            · omega
          · rw [decide_eq_false q1] at hr; simp at hr
        simp [this]
      have HRN := Lib.hid hr
      clear hr l1 l2
      go_upto_block 0 with fail
      clear c3 j2
      go_wp2_with fail
      go_loopw [1] (fun m wr => ∃ (M : Nat) (z : Cw), m = .int .i64 M ∧ M ≤ N ∧ RCW wr r n z ∧ z.runs = true ∧ z.goW M = Y ∧ Kp [r, n] w wr) (fun m _ => (intOf m).toNat)
      case atStart => exact ⟨N, y, rfl, Nat.le_refl _, HY.out, HRN.out, HFIN.out, KY.out⟩
      case round =>
        obtain ⟨M, z, rfl, hM, hz, hr, hfin, hK⟩ := hrel
        have HZ := Lib.hid hz
        have HRZ := Lib.hid hr
        have HFZ := Lib.hid hfin
        have KZ := Lib.hid hK
        obtain ⟨_, a1, _, _, ⟨b0, b1⟩, _⟩ := hz.2.2
        have c40 : wr.cell? ⟨r, 40, none⟩ = some (.int .i64 z.left) := hz.cell 40 (by decide)
        have c1 : wr.cell? ⟨r, 1, none⟩ = some (.int .i64 z.pl) := hz.cell 1 (by decide)
        have f1 := hz.1.frozen 1
        have f40 := hz.1.frozen 40
        clear hz hr hfin hK HY KY HRN HFIN
        by_cases hle : z.left ≤ M
        · have j1 : (z.left : Int) ≤ (M : Int) := by omega
          have gs := Cw.goW_step HRZ.out hle
          rw [HFZ.out] at gs
          have GS := Lib.hid gs
          have i1 : (((z.pl + 1) % 32 : Nat) : Int) = ((z.pl : Int) + 1) % 32 := by omega
          obtain ⟨q1, q2⟩ := HZ.out.put (y := { z with pl := (z.pl + 1) % 32 }) 1 (.int .i64 (((z.pl + 1) % 32 : Nat) : Int)) (fun j hj => by
            by_cases e : j = 1
            · subst e; rfl
            · rw [if_neg e]; unfold rchV; dsimp only; simp only [if_neg e]) ⟨HZ.out.2.2.1, Nat.mod_lt _ (by decide), HZ.out.2.2.2.2⟩ rfl
          rw [i1] at q1 q2
          have Q1 := Lib.hid q1
          have Q2 := Lib.hid (KZ.out.trans (q2.mono (M := [r, n]) (by simp)) (by simp))
          clear gs q1 q2 i1 f40
          go_wp2_with fail
          refine (rcper_any Q1.out).mono ?_
          rintro e w2 ⟨rfl, b2⟩
          have h2 := Q1.out.keep b2
          have hp := z.per_bd
          have d40 : w2.cell? ⟨r, 40, none⟩ = some (.int .i64 z.left) := h2.cell 40 (by decide)
          have g40 := h2.1.frozen 40
          have ep : Cw.per { z with pl := (z.pl + 1) % 32 } = z.per := rfl
          rw [ep]
          obtain ⟨p1, p2⟩ := h2.put (y := { z with pl := (z.pl + 1) % 32, left := z.per }) 40 (.int .i64 (z.per : Int)) (fun j hj => by
            by_cases e : j = 40
            · subst e; rfl
            · rw [if_neg e]
              by_cases e2 : j < 38
              · unfold rchV; dsimp only; simp only [if_pos e2]
              · have : j = 38 ∨ j = 39 := by omega
                rcases this with rfl | rfl <;> rfl) ⟨HZ.out.2.2.1, Nat.mod_lt _ (by decide), HZ.out.2.2.2.2.1, HZ.out.2.2.2.2.2.1, hp, HZ.out.2.2.2.2.2.2.2⟩ rfl
          have P1 := Lib.hid p1
          have P2 := Lib.hid ((Q2.out.trans (Kp.of_below (L := []) b2) (by simp)).trans (p2.mono (M := [r, n]) (by simp)) (by simp))
          clear b2 h2 p1 p2 Q1 Q2 HZ KZ
          go_wp2_with fail
          go_roundw
          case rel => exact ⟨M - z.left, { z with pl := (z.pl + 1) % 32, left := z.per }, by go_num, by omega, P1.out, HRZ.out, GS.out.symm, P2.out⟩
          case measure => simp [intOf]; omega
        · have j1 : (M : Int) < (z.left : Int) := by omega
          have gl := Cw.goW_lt HRZ.out a1 (by omega : M < z.left)
          rw [HFZ.out] at gl
          have GL := Lib.hid gl
          have i1 : ((z.left - M : Nat) : Int) = (z.left : Int) - (M : Int) := by omega
          obtain ⟨p1, p2⟩ := HZ.out.put (y := { z with left := z.left - M }) 40 (.int .i64 ((z.left - M : Nat) : Int)) (fun j hj => by
            by_cases e : j = 40
            · subst e; rfl
            · rw [if_neg e]
              by_cases e2 : j < 38
              · unfold rchV; dsimp only; simp only [if_pos e2]
              · have : j = 38 ∨ j = 39 := by omega
                rcases this with rfl | rfl <;> rfl) ⟨HZ.out.2.2.1, a1, HZ.out.2.2.2.2.1, HZ.out.2.2.2.2.2.1, ⟨by dsimp only; omega, by dsimp only; omega⟩, HZ.out.2.2.2.2.2.2.2⟩ rfl
          rw [i1] at p1 p2
          have P1 := Lib.hid p1
          have P2 := Lib.hid (KZ.out.trans (p2.mono (M := [r, n]) (by simp)) (by simp))
          clear gl p1 p2 i1 f1 c1
          go_wp2_with fail
          first | go_end0 | refine bodyPost_ret (results_none rfl _ _ _) rfl ?_
          exact ⟨rfl, by rw [GL.out]; exact P1.out, P2.out⟩
  | true =>
    rw [hs] at c38
    have e1 : x.goN N = { x with nz := x.nz.go N } := by unfold Cw.goN; rw [if_pos hs]
    have HFIN := Lib.hid e0.symm
    rw [e1] at HFIN
    clear e1 hs e0
    go_enter Try.func57, Try.ntmps57
    go_wp2_with fail
    refine (rngo_any H.out.2.1 N (by omega)).mono ?_
    rintro e wc ⟨rfl, y1, k1⟩
    obtain ⟨y, hy⟩ : ∃ y, { x with nz := x.nz.go N } = y := ⟨_, rfl⟩
    have HY : Hid (RCW wc r n y) := Lib.hid (hy ▸ H.out.noise y1 k1)
    have KY := Lib.hid (k1.mono (M := [r, n]) (by simp))
    rw [hy] at HFIN
    clear y1 k1 c38 c39 H hy
    go_upto_region 4 with fail
    obtain ⟨l1, l2⟩ := lvl_cases HY.out.2.2
    obtain ⟨_, _, _, _, _, ⟨t0, t1⟩, _⟩ := HY.out.2.2
    have c3 : wc.cell? ⟨r, 3, none⟩ = some (.int .u8 y.ct) := HY.out.cell 3 (by decide)
    cases hr : y.runs with
    | false =>
      have e : y.goW N = y := by unfold Cw.goW; rw [hr]; simp
      have HE := Lib.hid e
      have j2 : (y.ct / 64 != 2) = true := by
        unfold Cw.runs at hr
        rw [l1, l2] at hr
        have : ¬ y.ct / 64 = 2 := fun e => by
          rw [decide_eq_true (by omega), decide_eq_false (by omega)] at hr
          simp at hr
        simpa using this
      clear hr e l1 l2
      go_wp2_with fail
      first | go_end0 | refine bodyPost_ret (results_none rfl _ _ _) rfl ?_
      exact ⟨rfl, by rw [← HFIN.out, HE.out]; exact HY.out, KY.out⟩
    | true =>
      have j2 : (y.ct / 64 != 2) = false := by
        unfold Cw.runs at hr
        rw [l1, l2] at hr
        have : y.ct / 64 = 2 := by
          by_cases q1 : 128 ≤ y.ct
          · by_cases q2 : y.ct / 64 % 2 = 1
            · rw [decide_eq_true q1, decide_eq_true q2] at hr; simp at hr
            · omega
          · rw [decide_eq_false q1] at hr; simp at hr
        simp [this]
      have HRN := Lib.hid hr
      clear hr l1 l2
      go_upto_block 0 with fail
      clear c3 j2
      go_wp2_with fail
      go_loopw [1] (fun m wr => ∃ (M : Nat) (z : Cw), m = .int .i64 M ∧ M ≤ N ∧ RCW wr r n z ∧ z.runs = true ∧ z.goW M = Y ∧ Kp [r, n] w wr) (fun m _ => (intOf m).toNat)
      case atStart => exact ⟨N, y, rfl, Nat.le_refl _, HY.out, HRN.out, HFIN.out, KY.out⟩
      case round =>
        obtain ⟨M, z, rfl, hM, hz, hr, hfin, hK⟩ := hrel
        have HZ := Lib.hid hz
        have HRZ := Lib.hid hr
        have HFZ := Lib.hid hfin
        have KZ := Lib.hid hK
        obtain ⟨_, a1, _, _, ⟨b0, b1⟩, _⟩ := hz.2.2
        have c40 : wr.cell? ⟨r, 40, none⟩ = some (.int .i64 z.left) := hz.cell 40 (by decide)
        have c1 : wr.cell? ⟨r, 1, none⟩ = some (.int .i64 z.pl) := hz.cell 1 (by decide)
        have f1 := hz.1.frozen 1
        have f40 := hz.1.frozen 40
        clear hz hr hfin hK HY KY HRN HFIN
        by_cases hle : z.left ≤ M
        · have j1 : (z.left : Int) ≤ (M : Int) := by omega
          have gs := Cw.goW_step HRZ.out hle
          rw [HFZ.out] at gs
          have GS := Lib.hid gs
          have i1 : (((z.pl + 1) % 32 : Nat) : Int) = ((z.pl : Int) + 1) % 32 := by omega
          obtain ⟨q1, q2⟩ := HZ.out.put (y := { z with pl := (z.pl + 1) % 32 }) 1 (.int .i64 (((z.pl + 1) % 32 : Nat) : Int)) (fun j hj => by
            by_cases e : j = 1
            · subst e; rfl
            · rw [if_neg e]; unfold rchV; dsimp only; simp only [if_neg e]) ⟨HZ.out.2.2.1, Nat.mod_lt _ (by decide), HZ.out.2.2.2.2⟩ rfl
          rw [i1] at q1 q2
          have Q1 := Lib.hid q1
          have Q2 := Lib.hid (KZ.out.trans (q2.mono (M := [r, n]) (by simp)) (by simp))
          clear gs q1 q2 i1 f40
          go_wp2_with fail
          refine (rcper_any Q1.out).mono ?_
          rintro e w2 ⟨rfl, b2⟩
          have h2 := Q1.out.keep b2
          have hp := z.per_bd
          have d40 : w2.cell? ⟨r, 40, none⟩ = some (.int .i64 z.left) := h2.cell 40 (by decide)
          have g40 := h2.1.frozen 40
          have ep : Cw.per { z with pl := (z.pl + 1) % 32 } = z.per := rfl
          rw [ep]
          obtain ⟨p1, p2⟩ := h2.put (y := { z with pl := (z.pl + 1) % 32, left := z.per }) 40 (.int .i64 (z.per : Int)) (fun j hj => by
            by_cases e : j = 40
            · subst e; rfl
            · rw [if_neg e]
              by_cases e2 : j < 38
              · unfold rchV; dsimp only; simp only [if_pos e2]
              · have : j = 38 ∨ j = 39 := by omega
                rcases this with rfl | rfl <;> rfl) ⟨HZ.out.2.2.1, Nat.mod_lt _ (by decide), HZ.out.2.2.2.2.1, HZ.out.2.2.2.2.2.1, hp, HZ.out.2.2.2.2.2.2.2⟩ rfl
          have P1 := Lib.hid p1
          have P2 := Lib.hid ((Q2.out.trans (Kp.of_below (L := []) b2) (by simp)).trans (p2.mono (M := [r, n]) (by simp)) (by simp))
          clear b2 h2 p1 p2 Q1 Q2 HZ KZ
          go_wp2_with fail
          go_roundw
          case rel => exact ⟨M - z.left, { z with pl := (z.pl + 1) % 32, left := z.per }, by go_num, by omega, P1.out, HRZ.out, GS.out.symm, P2.out⟩
          case measure => simp [intOf]; omega
        · have j1 : (M : Int) < (z.left : Int) := by omega
          have gl := Cw.goW_lt HRZ.out a1 (by omega : M < z.left)
          rw [HFZ.out] at gl
          have GL := Lib.hid gl
          have i1 : ((z.left - M : Nat) : Int) = (z.left : Int) - (M : Int) := by omega
          obtain ⟨p1, p2⟩ := HZ.out.put (y := { z with left := z.left - M }) 40 (.int .i64 ((z.left - M : Nat) : Int)) (fun j hj => by
            by_cases e : j = 40
            · subst e; rfl
            · rw [if_neg e]
              by_cases e2 : j < 38
              · unfold rchV; dsimp only; simp only [if_pos e2]
              · have : j = 38 ∨ j = 39 := by omega
                rcases this with rfl | rfl <;> rfl) ⟨HZ.out.2.2.1, a1, HZ.out.2.2.2.2.1, HZ.out.2.2.2.2.2.1, ⟨by dsimp only; omega, by dsimp only; omega⟩, HZ.out.2.2.2.2.2.2.2⟩ rfl
          rw [i1] at p1 p2
          have P1 := Lib.hid p1
          have P2 := Lib.hid (KZ.out.trans (p2.mono (M := [r, n]) (by simp)) (by simp))
          clear gl p1 p2 i1 f1 c1
          go_wp2_with fail
          first | go_end0 | refine bodyPost_ret (results_none rfl _ _ _) rfl ?_
          exact ⟨rfl, by rw [GL.out]; exact P1.out, P2.out⟩
end
end Go.Proofs.Ytcnjekballnncaa
