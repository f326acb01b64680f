/-
  A channel of sound: On, telling, Level, Volume, Balance, Place, Until, Period, Bend, goes, take.
-/
import Derived.Test.YtnelcbbjnpaodaaWav0
import Derived.Deep.LoopGhost
import Derived.RegionTactic
import Derived.BigRegion
namespace Go.Proofs.Ytnelcbbjnpaodaa
open Go.RowKit
set_option linter.unusedVariables false
set_option linter.unusedSimpArgs false
set_option maxRecDepth 100000
def ChR (v : Value) (g : Nat) (y : Cw) (w : World) (e : Ending) (w' : World) : Prop := e = .returned v ∧ CW w' g y ∧ Kp [g] w w'
section
variable {w : World} {g : Nat} {x : Cw}
theorem con_any (h : CW w g x) : Calls Try.prog 35 #[.pointer (some ⟨g, 0, none⟩)] w fun e w' => e = .returned (.bool x.on) ∧ w = w' := by
  have c39 : w.cell? ⟨g, 39, none⟩ = some (.int .u8 x.ct) := h.cell 39 (by decide)
  obtain ⟨b, hb⟩ : ∃ b, bitB x.ct 7 = b := ⟨_, rfl⟩
  have HB := Lib.hid hb
  have e : x.on = b := hb
  rw [e]
  clear h hb e
  go_enter Try.func35, Try.ntmps35
  go_wp2_with (go_at_call 20; refine (bit_any _ _ _).mono ?_; rw [HB.out]; rintro e w' ⟨rfl, rfl⟩)
  go_ret
  exact ⟨rfl, rfl⟩
theorem ctell_any (h : CW w g x) : Calls Try.prog 34 #[.pointer (some ⟨g, 0, none⟩)] w fun e w' => e = .returned (.bool x.tell) ∧ w = w' := by
  have c39 : w.cell? ⟨g, 39, none⟩ = some (.int .u8 x.ct) := h.cell 39 (by decide)
  obtain ⟨b, hb⟩ : ∃ b, bitB x.ct 6 = b := ⟨_, rfl⟩
  have HB := Lib.hid hb
  have e : x.tell = b := hb
  rw [e]
  clear h hb e
  go_enter Try.func34, Try.ntmps34
  go_wp2_with (go_at_call 20; refine (bit_any _ _ _).mono ?_; rw [HB.out]; rintro e w' ⟨rfl, rfl⟩)
  go_ret
  exact ⟨rfl, rfl⟩
theorem con_v (h : CW w g x) {b : Bool} (e : x.on = b) : Calls Try.prog 35 #[.pointer (some ⟨g, 0, none⟩)] w fun e w' => e = .returned (.bool b) ∧ w = w' := e ▸ con_any h
theorem ctell_v (h : CW w g x) {b : Bool} (e : x.tell = b) : Calls Try.prog 34 #[.pointer (some ⟨g, 0, none⟩)] w fun e w' => e = .returned (.bool b) ∧ w = w' := e ▸ ctell_any h
theorem cuntil_any (h : CW w g x) : Calls Try.prog 25 #[.pointer (some ⟨g, 0, none⟩)] w fun e w' => e = .returned (.int .i64 x.left) ∧ w = w' := by
  have c38 : w.cell? ⟨g, 38, none⟩ = some (.int .i64 x.left) := h.cell 38 (by decide)
  obtain ⟨_, _, _, _, ⟨a0, a1⟩, _⟩ := h.2
  have j1 : ((x.left : Int) == 0) = false := by
    have : ¬ (x.left : Int) = 0 := by omega
    simpa using this
  clear h
  go_enter Try.func25, Try.ntmps25
  go_wp2
  go_ret
  exact ⟨rfl, rfl⟩
set_option maxHeartbeats 1000000 in
theorem cper_any (h : CW w g x) : Calls Try.prog 41 #[.pointer (some ⟨g, 0, none⟩)] w fun e w' => e = .returned (.int .i64 x.per) ∧ Below w.heap.size w w' := by
  have c36 : w.cell? ⟨g, 36, none⟩ = some (.int .i64 x.fq) := h.cell 36 (by decide)
  have c37 : w.cell? ⟨g, 37, none⟩ = some (.int .i64 x.bd) := h.cell 37 (by decide)
  obtain ⟨_, _, a1, ⟨a2, a3⟩, _⟩ := h.2
  clear h
  have j0 : (x.per : Int) = if ((x.fq : Int) + x.bd + 4096) % 4096 = 0 then 4096 else ((x.fq : Int) + x.bd + 4096) % 4096 := by unfold Cw.per; split <;> omega
  by_cases h0 : ((x.fq : Int) + x.bd + 4096) % 4096 = 0
  · rw [j0, if_pos h0]
    clear j0
    go_enter Try.func41, Try.ntmps41
    go_wp2_with fail
    go_region
    all_goals
      go_wp2_with fail
      go_ret
      exact ⟨rfl, (Below.refl _ _).drew⟩
  · rw [j0, if_neg h0]
    have j1 : (((x.fq : Int) + x.bd + 4096) % 4096 == 0) = false := by simpa using h0
    clear j0
    go_enter Try.func41, Try.ntmps41
    go_wp2_with fail
    go_region
    all_goals
      go_wp2_with fail
      go_ret
      exact ⟨rfl, (Below.refl _ _).drew⟩
theorem cgoes_any (h : CW w g x) (n : Nat) (hn : n ≤ 4611686018427387904) (y : Cw) (hy : y = { x with pl := (x.pl + n) % 32 }) :
    Calls Try.prog 42 #[.pointer (some ⟨g, 0, none⟩), .int .i64 n] w (ChR (.tuple #[]) g y w) := by
  have c35 : w.cell? ⟨g, 35, none⟩ = some (.int .i64 x.pl) := h.cell 35 (by decide)
  have f35 := h.1.frozen 35
  obtain ⟨_, a1, _⟩ := h.2
  obtain ⟨q1, q2⟩ := h.put (y := y) 35 (.int .i64 (((x.pl + n) % 32 : Nat) : Int)) (fun j hj => by
    subst hy
    by_cases e : j = 35
    · subst e; rfl
    · rw [if_neg e]; unfold chV; dsimp only; simp only [if_neg e]) (by subst hy; exact ⟨h.2.1, Nat.mod_lt _ (by decide), h.2.2.2⟩)
  have i1 : (((x.pl + n) % 32 : Nat) : Int) = ((x.pl : Int) + (n : Int)) % 32 := by omega
  rw [i1] at q1 q2
  have Q1 := Lib.hid q1
  have Q2 := Lib.hid q2
  clear h q1 q2 i1 hy
  go_enter Try.func42, Try.ntmps42
  go_wp2
  first | go_end0 | refine bodyPost_ret (results_none rfl _ _ _) rfl ?_
  exact ⟨rfl, Q1.out, Q2.out⟩
set_option maxHeartbeats 2000000 in
theorem ctake_any (h : CW w g x) (l : Int) (l0 : 0 ≤ l) (l1 : l ≤ 255) : Calls Try.prog 36 #[.pointer (some ⟨g, 0, none⟩), .int .u8 l] w (ChR (.tuple #[]) g (x.take l) w) := by
  have H := Lib.hid h
  obtain ⟨_, a1, _⟩ := h.2
  cases ht : x.tell with
  | true =>
    have e : x.take l = { x with td := l } := by unfold Cw.take; rw [if_pos ht]
    rw [e]
    have c41 : w.cell? ⟨g, 41, none⟩ = some (.int .u8 x.td) := h.cell 41 (by decide)
    have f41 := h.1.frozen 41
    obtain ⟨q1, q2⟩ := h.put (y := { x with td := l }) 41 (.int .u8 l) (fun j hj => by
      by_cases e : j = 41
      · subst e; rfl
      · rw [if_neg e]; unfold chV; dsimp only; simp only [if_neg e]) (by rw [← e]; exact Cw.take_ok h.2 l0 l1)
    have Q1 := Lib.hid q1
    have Q2 := Lib.hid q2
    have HT := Lib.hid ht
    clear h q1 q2 e ht
    go_enter Try.func36, Try.ntmps36
    go_wp2_with (go_at_call 34; refine (ctell_v H.out HT.out).mono ?_; rintro e w' ⟨rfl, rfl⟩)
    first | go_end0 | refine bodyPost_ret (results_none rfl _ _ _) rfl ?_
    exact ⟨rfl, Q1.out, Q2.out⟩
  | false =>
    have e : x.take l = { x with wv := fun i => if i = x.pl then l else x.wv i, pl := (x.pl + 1) % 32 } := by unfold Cw.take; rw [if_neg (by rw [ht]; simp)]
    rw [e]
    have c35 : w.cell? ⟨g, 35, none⟩ = some (.int .i64 x.pl) := h.cell 35 (by decide)
    have cw : w.cell? ⟨g, 3 + x.pl, none⟩ = some (.int .u8 (x.wv x.pl)) := h.wave x.pl a1
    have fw := h.1.frozen (3 + x.pl)
    obtain ⟨q1, q2⟩ := h.put (y := { x with wv := fun i => if i = x.pl then l else x.wv i }) (3 + x.pl) (.int .u8 l) (fun j hj => by
      unfold chV; dsimp only
      by_cases e : j = 3 + x.pl
      · subst e
        rw [if_pos rfl, if_neg (by omega), if_neg (by omega), if_neg (by omega), if_pos (by omega), if_pos (by omega)]
      · rw [if_neg e]
        by_cases e2 : 3 ≤ j ∧ j < 35
        · rw [if_neg (by omega), if_neg (by omega), if_neg (by omega), if_pos (by omega), if_neg (by omega : ¬ j - 3 = x.pl), if_neg (by omega), if_neg (by omega), if_neg (by omega), if_pos (by omega)]
        · by_cases e3 : j < 3
          · have : j = 0 ∨ j = 1 ∨ j = 2 := by omega
            rcases this with rfl | rfl | rfl <;> rfl
          · simp only [if_neg (show ¬ j = 0 by omega), if_neg (show ¬ j = 1 by omega), if_neg (show ¬ j = 2 by omega), if_neg (show ¬ j < 35 by omega)]) ⟨h.2.1, h.2.2.1, h.2.2.2.1, h.2.2.2.2.1, h.2.2.2.2.2.1, h.2.2.2.2.2.2.1, h.2.2.2.2.2.2.2.1, fun i => by
            show 0 ≤ (if i = x.pl then l else x.wv i) ∧ (if i = x.pl then l else x.wv i) ≤ 255
            split
            · exact ⟨l0, l1⟩
            · exact h.2.2.2.2.2.2.2.2 i⟩
    have i0 : (0 : Int) ≤ (x.pl : Int) := by omega
    have i1 : (x.pl : Int) < 32 := by omega
    have Q1 := Lib.hid q1
    have Q2 := Lib.hid q2
    have HT := Lib.hid ht
    clear h q1 q2 e ht
    go_enter Try.func36, Try.ntmps36
    go_wp2_with fail
    refine (ctell_v H.out HT.out).mono ?_
    rintro e w' ⟨rfl, rfl⟩
    go_wp2_with fail
    go_region
    all_goals
      go_wp2_with fail
      refine (cgoes_any (Q1.out.kp (Kp.refl [] _).drew (by simp)) 1 (by decide) _ rfl).mono ?_
      rintro e w2 ⟨rfl, y1, y2⟩
      go_wp2_with fail
      first | go_end0 | refine bodyPost_ret (results_none rfl _ _ _) rfl ?_
      exact ⟨rfl, y1, (Q2.out.drew).trans y2 (by simp)⟩
theorem clevel_any (h : CW w g x) : Calls Try.prog 23 #[.pointer (some ⟨g, 0, none⟩)] w fun e w' => e = .returned (.int .u8 x.lvl) ∧ Below w.heap.size w w' := by
  have H := Lib.hid h
  obtain ⟨_, a1, _⟩ := h.2
  have i0 : (0 : Int) ≤ (x.pl : Int) := by omega
  have i1 : (x.pl : Int) < 32 := by omega
  have c35 : w.cell? ⟨g, 35, none⟩ = some (.int .i64 x.pl) := h.cell 35 (by decide)
  have c41 : w.cell? ⟨g, 41, none⟩ = some (.int .u8 x.td) := h.cell 41 (by decide)
  have c42 : w.cell? ⟨g, 42, none⟩ = some (.bool x.ns) := h.cell 42 (by decide)
  have cw : w.cell? ⟨g, 3 + x.pl, none⟩ = some (.int .u8 (x.wv x.pl)) := h.wave x.pl a1
  have HN := Lib.hid h.noise.1
  clear h
  cases ho : x.on with
  | false =>
    have e : x.lvl = 0 := by unfold Cw.lvl; rw [if_pos ho]
    have HO := Lib.hid ho
    rw [e]
    clear ho e c35 c41 c42 cw
    go_enter Try.func23, Try.ntmps23
    go_wp2_with (go_at_call 35; refine (con_v H.out HO.out).mono ?_; rintro e w' ⟨rfl, rfl⟩)
    go_ret
    exact ⟨rfl, Below.refl _ _⟩
  | true =>
    have HO := Lib.hid ho
    cases ht : x.tell with
    | true =>
      have e : x.lvl = x.td := by unfold Cw.lvl; rw [if_neg (by rw [ho]; simp), if_pos ht]
      have HT := Lib.hid ht
      rw [e]
      clear ho ht e c35 c42 cw
      go_enter Try.func23, Try.ntmps23
      go_wp2_with (first | (go_at_call 35; refine (con_v H.out HO.out).mono ?_; rintro e w' ⟨rfl, rfl⟩) | (go_at_call 34; refine (ctell_v H.out HT.out).mono ?_; rintro e w' ⟨rfl, rfl⟩))
      go_ret
      exact ⟨rfl, Below.refl _ _⟩
    | false =>
      have HT := Lib.hid ht
      cases hn : x.ns with
      | true =>
        have e : x.lvl = lvN x.nz.st := by unfold Cw.lvl; rw [if_neg (by rw [ho]; simp), if_neg (by rw [ht]; simp), if_pos hn]
        rw [hn] at c42
        rw [e]
        clear ho ht e c35 c41 cw hn
        go_enter Try.func23, Try.ntmps23
        go_wp2_with (first | (go_at_call 35; refine (con_v H.out HO.out).mono ?_; rintro e w' ⟨rfl, rfl⟩) | (go_at_call 34; refine (ctell_v H.out HT.out).mono ?_; rintro e w' ⟨rfl, rfl⟩) | (go_at_call 38; refine (nlevel_any HN.out).mono ?_; rintro e w' ⟨rfl, rfl⟩))
        go_ret
        exact ⟨rfl, Below.refl _ _⟩
      | false =>
        have e : x.lvl = x.wv x.pl := by unfold Cw.lvl; rw [if_neg (by rw [ho]; simp), if_neg (by rw [ht]; simp), if_neg (by rw [hn]; simp)]
        rw [hn] at c42
        rw [e]
        clear ho ht e c41 hn
        go_enter Try.func23, Try.ntmps23
        go_wp2_with (first | (go_at_call 35; refine (con_v H.out HO.out).mono ?_; rintro e w' ⟨rfl, rfl⟩) | (go_at_call 34; refine (ctell_v H.out HT.out).mono ?_; rintro e w' ⟨rfl, rfl⟩))
        go_region
        all_goals
          go_wp2_with fail
          go_ret
          exact ⟨rfl, (Below.refl _ _).drew⟩
end
end Go.Proofs.Ytnelcbbjnpaodaa
