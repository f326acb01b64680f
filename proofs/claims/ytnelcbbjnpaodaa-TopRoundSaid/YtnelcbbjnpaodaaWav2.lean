/-
  A channel of sound: Go (by wip/tools/genwav2.py).
-/
import Derived.Test.YtnelcbbjnpaodaaWav1
namespace Go.Proofs.Ytnelcbbjnpaodaa
open Go.RowKit
set_option linter.unusedVariables false
set_option linter.unusedSimpArgs false
set_option maxRecDepth 100000
section
variable {w : World} {g : Nat} {x : Cw}
set_option maxHeartbeats 8000000 in
theorem cgo_any (h : CW w g x) (n : Nat) (hn : n ≤ 1099511627776) : Calls Try.prog 24 #[.pointer (some ⟨g, 0, none⟩), .int .i64 n] w (ChR (.tuple #[]) g (x.go n) w) := by
  have c42 : w.cell? ⟨g, 42, none⟩ = some (.bool x.ns) := h.cell 42 (by decide)
  have m1 : min (n : Int) 1099511627776 = (n : Int) := by omega
  obtain ⟨hz, hback⟩ := h.noise
  have H := Lib.hid h
  have HZ := Lib.hid hz
  have HK := Lib.hid hback
  clear h hz hback
  have e0 : x.go n = (x.goN n).goW n := rfl
  obtain ⟨Y, hY⟩ : ∃ Y, x.go n = Y := ⟨_, rfl⟩
  rw [hY]
  rw [hY] at e0
  clear hY
  cases hs : x.ns with
  | false =>
    rw [hs] at c42
    have e1 : x.goN n = x := by unfold Cw.goN; rw [hs]; simp
    have HFIN := Lib.hid e0.symm
    rw [e1] at HFIN
    clear e1 hs e0
    go_enter Try.func24, Try.ntmps24
    go_wp2_with fail
    clear c42 m1
    obtain ⟨y, rfl⟩ : ∃ y, y = x := ⟨_, rfl⟩
    have HY := H
    have KY := Lib.hid (Kp.refl [g] w)
    clear H HZ HK
    cases ho : y.on with
    | false =>
      have e : y.goW n = y := by unfold Cw.goW Cw.runs; rw [ho]; simp
      have HO := Lib.hid ho
      have HE := Lib.hid e
      clear ho e
      refine (con_v HY.out HO.out).mono ?_
      rintro e w' ⟨rfl, rfl⟩
      go_wp2_with fail
      first | go_end0 | refine bodyPost_ret (results_none rfl _ _ _) rfl ?_
      exact ⟨rfl, by rw [← HFIN.out, HE.out]; exact HY.out, KY.out⟩
    | true =>
      have HO := Lib.hid ho
      cases ht : y.tell with
      | true =>
        have e : y.goW n = y := by unfold Cw.goW Cw.runs; rw [ht]; simp
        have HT := Lib.hid ht
        have HE := Lib.hid e
        clear ho ht e
        refine (con_v HY.out HO.out).mono ?_
        rintro e w' ⟨rfl, rfl⟩
        go_wp2_with fail
        refine (ctell_v HY.out HT.out).mono ?_
        rintro e w' ⟨rfl, rfl⟩
        go_wp2_with fail
        first | go_end0 | refine bodyPost_ret (results_none rfl _ _ _) rfl ?_
        exact ⟨rfl, by rw [← HFIN.out, HE.out]; exact HY.out, KY.out⟩
      | false =>
        have hl := HY.out.2.2.2.2.2.1
        have hp := y.per_bd
        have hpl := HY.out.2.2.1
        have e : y.goW n = { y with pl := (y.pl + dnS n y.left y.per) % 32, left := dnL n y.left y.per } := by unfold Cw.goW Cw.runs; rw [ho, ht]; rfl
        have ok := Cw.goW_ok HY.out.2 n
        rw [e] at ok
        have hfin := HFIN.out
        rw [e] at hfin
        have hdn : Hid (∀ w, Calls Try.prog 40 #[.int .i64 n, .int .i64 y.left, .int .i64 y.per] w fun e w' => e = .returned (.tuple #[.int .i64 (dnS n y.left y.per : Nat), .int .i64 (dnL n y.left y.per : Nat)]) ∧ Below w.heap.size w w') := Lib.hid fun w => down_any (n : Int) y.left y.per w (by omega) hl.1 (by omega) hp.1 (by omega)
        have hS : dnS n y.left y.per ≤ 1099511627776 := Nat.le_trans (dnS_le hl.1) hn
        generalize dnS n y.left y.per = S at *
        generalize dnL n y.left y.per = L at *
        have OK := Lib.hid ok
        have HT := Lib.hid ht
        have HF2 := Lib.hid hfin
        clear ho ht e ok hfin HFIN
        refine (con_v HY.out HO.out).mono ?_
        rintro e w' ⟨rfl, rfl⟩
        go_wp2_with fail
        refine (ctell_v HY.out HT.out).mono ?_
        rintro e w' ⟨rfl, rfl⟩
        go_wp2_with fail
        refine (cuntil_any HY.out).mono ?_
        rintro e w' ⟨rfl, rfl⟩
        go_wp2_with fail
        refine (cper_any HY.out).mono ?_
        rintro e w3 ⟨rfl, b3⟩
        have HY3 := Lib.hid (HY.out.keep b3 HY.out.lt)
        have KY3 := Lib.hid (KY.out.trans (Kp.of_below (L := []) b3) (by simp))
        clear b3 HY KY
        go_wp2_with fail
        refine (hdn.out _).mono ?_
        rintro e w4 ⟨rfl, b4⟩
        have h4 := HY3.out.keep b4 HY3.out.lt
        have KY4 := Lib.hid (KY3.out.trans (Kp.of_below (L := []) b4) (by simp))
        have c38 : w4.cell? ⟨g, 38, none⟩ = some (.int .i64 y.left) := h4.cell 38 (by decide)
        have f38 := h4.1.frozen 38
        obtain ⟨q1, q2⟩ := h4.put (y := { y with left := L }) 38 (.int .i64 L) (fun j hj => by
          by_cases e : j = 38
          · subst e; rfl
          · rw [if_neg e]; unfold chV; dsimp only; simp only [if_neg e]) ⟨h4.2.1, h4.2.2.1, h4.2.2.2.1, h4.2.2.2.2.1, OK.out.2.2.2.2.1, h4.2.2.2.2.2.2⟩
        have Q1 := Lib.hid q1
        have Q2 := Lib.hid (KY4.out.trans q2 (by simp))
        clear b4 h4 q1 q2 HY3 KY3 KY4
        go_wp2_with fail
        refine (cgoes_any Q1.out S (by omega) _ rfl).mono ?_
        rintro e w5 ⟨rfl, y5, k5⟩
        go_wp2_with fail
        first | go_end0 | refine bodyPost_ret (results_none rfl _ _ _) rfl ?_
        exact ⟨rfl, by rw [← HF2.out]; exact y5, Q2.out.trans k5 (by simp)⟩
  | true =>
    rw [hs] at c42
    have e1 : x.goN n = { x with nz := x.nz.go n } := by unfold Cw.goN; rw [if_pos hs]
    have HFIN := Lib.hid e0.symm
    rw [e1] at HFIN
    clear e1 hs e0
    go_enter Try.func24, Try.ntmps24
    go_wp2_with fail
    refine (ngo_any HZ.out (n : Int) (by omega) (by omega)).mono ?_
    rw [Int.toNat_natCast]
    rintro e w1 ⟨rfl, y1, k1⟩
    obtain ⟨y, hy⟩ : ∃ y, { x with nz := x.nz.go n } = y := ⟨_, rfl⟩
    have HY : Hid (CW w1 g y) := Lib.hid (hy ▸ HK.out w1 _ y1 k1)
    have KY := Lib.hid k1
    rw [hy] at HFIN
    clear y1 k1 c42 m1 H HZ HK hy
    go_wp2_with fail
    cases ho : y.on with
    | false =>
      have e : y.goW n = y := by unfold Cw.goW Cw.runs; rw [ho]; simp
      have HO := Lib.hid ho
      have HE := Lib.hid e
      clear ho e
      refine (con_v HY.out HO.out).mono ?_
      rintro e w' ⟨rfl, rfl⟩
      go_wp2_with fail
      first | go_end0 | refine bodyPost_ret (results_none rfl _ _ _) rfl ?_
      exact ⟨rfl, by rw [← HFIN.out, HE.out]; exact HY.out, KY.out⟩
    | true =>
      have HO := Lib.hid ho
      cases ht : y.tell with
      | true =>
        have e : y.goW n = y := by unfold Cw.goW Cw.runs; rw [ht]; simp
        have HT := Lib.hid ht
        have HE := Lib.hid e
        clear ho ht e
        refine (con_v HY.out HO.out).mono ?_
        rintro e w' ⟨rfl, rfl⟩
        go_wp2_with fail
        refine (ctell_v HY.out HT.out).mono ?_
        rintro e w' ⟨rfl, rfl⟩
        go_wp2_with fail
        first | go_end0 | refine bodyPost_ret (results_none rfl _ _ _) rfl ?_
        exact ⟨rfl, by rw [← HFIN.out, HE.out]; exact HY.out, KY.out⟩
      | false =>
        have hl := HY.out.2.2.2.2.2.1
        have hp := y.per_bd
        have hpl := HY.out.2.2.1
        have e : y.goW n = { y with pl := (y.pl + dnS n y.left y.per) % 32, left := dnL n y.left y.per } := by unfold Cw.goW Cw.runs; rw [ho, ht]; rfl
        have ok := Cw.goW_ok HY.out.2 n
        rw [e] at ok
        have hfin := HFIN.out
        rw [e] at hfin
        have hdn : Hid (∀ w, Calls Try.prog 40 #[.int .i64 n, .int .i64 y.left, .int .i64 y.per] w fun e w' => e = .returned (.tuple #[.int .i64 (dnS n y.left y.per : Nat), .int .i64 (dnL n y.left y.per : Nat)]) ∧ Below w.heap.size w w') := Lib.hid fun w => down_any (n : Int) y.left y.per w (by omega) hl.1 (by omega) hp.1 (by omega)
        have hS : dnS n y.left y.per ≤ 1099511627776 := Nat.le_trans (dnS_le hl.1) hn
        generalize dnS n y.left y.per = S at *
        generalize dnL n y.left y.per = L at *
        have OK := Lib.hid ok
        have HT := Lib.hid ht
        have HF2 := Lib.hid hfin
        clear ho ht e ok hfin HFIN
        refine (con_v HY.out HO.out).mono ?_
        rintro e w' ⟨rfl, rfl⟩
        go_wp2_with fail
        refine (ctell_v HY.out HT.out).mono ?_
        rintro e w' ⟨rfl, rfl⟩
        go_wp2_with fail
        refine (cuntil_any HY.out).mono ?_
        rintro e w' ⟨rfl, rfl⟩
        go_wp2_with fail
        refine (cper_any HY.out).mono ?_
        rintro e w3 ⟨rfl, b3⟩
        have HY3 := Lib.hid (HY.out.keep b3 HY.out.lt)
        have KY3 := Lib.hid (KY.out.trans (Kp.of_below (L := []) b3) (by simp))
        clear b3 HY KY
        go_wp2_with fail
        refine (hdn.out _).mono ?_
        rintro e w4 ⟨rfl, b4⟩
        have h4 := HY3.out.keep b4 HY3.out.lt
        have KY4 := Lib.hid (KY3.out.trans (Kp.of_below (L := []) b4) (by simp))
        have c38 : w4.cell? ⟨g, 38, none⟩ = some (.int .i64 y.left) := h4.cell 38 (by decide)
        have f38 := h4.1.frozen 38
        obtain ⟨q1, q2⟩ := h4.put (y := { y with left := L }) 38 (.int .i64 L) (fun j hj => by
          by_cases e : j = 38
          · subst e; rfl
          · rw [if_neg e]; unfold chV; dsimp only; simp only [if_neg e]) ⟨h4.2.1, h4.2.2.1, h4.2.2.2.1, h4.2.2.2.2.1, OK.out.2.2.2.2.1, h4.2.2.2.2.2.2⟩
        have Q1 := Lib.hid q1
        have Q2 := Lib.hid (KY4.out.trans q2 (by simp))
        clear b4 h4 q1 q2 HY3 KY3 KY4
        go_wp2_with fail
        refine (cgoes_any Q1.out S (by omega) _ rfl).mono ?_
        rintro e w5 ⟨rfl, y5, k5⟩
        go_wp2_with fail
        first | go_end0 | refine bodyPost_ret (results_none rfl _ _ _) rfl ?_
        exact ⟨rfl, by rw [← HF2.out]; exact y5, Q2.out.trans k5 (by simp)⟩
end
end Go.Proofs.Ytnelcbbjnpaodaa
