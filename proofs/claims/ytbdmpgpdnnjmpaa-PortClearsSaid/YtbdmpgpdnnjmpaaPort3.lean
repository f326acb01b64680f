/-
  The reference's port: New, Write, Read, Copy; its feed within.
-/
import Derived.Test.YtbdmpgpdnnjmpaaPort2
import Derived.BigRegion
import Derived.RegionTactic
namespace Go.Proofs.Ytbdmpgpdnnjmpaa
open Go.RowKit
set_option linter.unusedVariables false
set_option linter.unusedSimpArgs false
set_option maxRecDepth 100000
def rpC (A : Option Addr) (n c t : Nat) (s : Pt) : Array Value := #[.slice A n c, .int .i64 t, .int .u8 s.l, .int .i64 s.p]
/-- In block r there is the reference's port, over the slice of bytes that came in. -/
def RP (w : World) (r : Nat) (A : Option Addr) (n c t : Nat) (s : Pt) : Prop := Blk w r 57 (rpC A n c t s) ∧ s.ok
section
variable {w w' : World} {r n c t : Nat} {A : Option Addr} {z : Nat → Int} {s : Pt}
theorem RP.kp {L : List Nat} (h : RP w r A n c t s) (k : Kp L w w') (hL : r ∉ L) : RP w' r A n c t s := ⟨h.1.kp k hL, h.2⟩
theorem RP.keep {m : Nat} (h : RP w r A n c t s) (k : Below m w w') (hm : r < m) : RP w' r A n c t s := ⟨h.1.below k hm, h.2⟩
theorem RP.lt (h : RP w r A n c t s) : r < w.heap.size := h.1.lt
theorem RP.cells (h : RP w r A n c t s) : w.cell? ⟨r, 0, none⟩ = some (.slice A n c) ∧ w.cell? ⟨r, 1, none⟩ = some (.int .i64 t) ∧ w.cell? ⟨r, 2, none⟩ = some (.int .u8 s.l) ∧ w.cell? ⟨r, 3, none⟩ = some (.int .i64 s.p) :=
  ⟨h.1.cell 0, h.1.cell 1, h.1.cell 2, h.1.cell 3⟩
theorem RP.put {x : Value} {k t' : Nat} {s' : Pt} (h : RP w r A n c t s) (e : (rpC A n c t s).setIfInBounds k x = rpC A n c t' s') (hs : s'.ok) : RP (w.setCell ⟨r, k, none⟩ x) r A n c t' s' ∧ Kp [r] w (w.setCell ⟨r, k, none⟩ x) := by
  refine ⟨⟨?_, hs⟩, (Kp.refl _ _).setCell (.inl (by simp)) _⟩
  rw [← e]
  exact h.1.set_ k x
end
def RpR (v : Value) (r : Nat) (A : Option Addr) (n c t : Nat) (s : Pt) (w : World) (e : Ending) (w' : World) : Prop := e = .returned v ∧ RP w' r A n c t s ∧ Kp [r] w w'
def NewRPR (A : Option Addr) (n c : Nat) (w : World) (e : Ending) (w' : World) : Prop :=
  e = .returned (.pointer (some ⟨w.heap.size, 0, none⟩)) ∧ RP w' w.heap.size A n c 0 ⟨0, 0⟩ ∧ Below w.heap.size w w'
theorem rpnew_any (A : Option Addr) (n c : Nat) (w : World) : Calls Try.prog 25 #[.slice A n c] w (NewRPR A n c w) := by
  go_enter Try.func25, Try.ntmps25
  go_wp2
  go_ret
  exact ⟨rfl, ⟨Blk.new w _ _, by decide, by decide⟩, (Below.refl _ _).alloc (Nat.le_refl _) _⟩
section
variable {w : World} {r n c t : Nat} {A : Option Addr} {z : Nat → Int} {s : Pt}
set_option maxHeartbeats 2000000 in
theorem rppeek_any (c0 : w.cell? ⟨r, 0, none⟩ = some (.slice A n c)) (c1 : w.cell? ⟨r, 1, none⟩ = some (.int .i64 t)) (R : IRow w .u8 A n z) (hn : n ≤ 140737488355328) (ht : t ≤ 1000000000) :
    Calls Try.prog 59 #[.pointer (some ⟨r, 0, none⟩), .int .i64 0] w fun e w' => e = .returned (.int .u8 (peekI (n - t) (fun j => z (t + j)) 0)) ∧ Kp [] w w' := by
  by_cases h1 : t < n
  · rw [show ((0 : Int)) = ((0 : Nat) : Int) from rfl, peekI_yes _ _ 0 (by omega)]
    have h2 : ¬ ((n : Int) - t ≤ 0) := by omega
    have d2 : decide ((n : Int) - t ≤ 0) = false := decide_eq_false h2
    obtain ⟨ad, rfl, _, hc, _⟩ := R (t + 0) (by omega)
    have i0 : (0 : Int) ≤ (t : Int) := by omega
    have i1 : (t : Int) < n := by omega
    have e1 : ((t : Int)).toNat = t := by omega
    rw [Nat.add_zero] at hc
    show Calls Try.prog 59 #[.pointer (some ⟨r, 0, none⟩), .int .i64 0] w fun e w' => e = .returned (.int .u8 (z t)) ∧ Kp [] w w'
    clear R
    go_enter Try.func59, Try.ntmps59
    go_wp2_with fail
    go_quiet (fail)
    go_wp2
    go_quiet (fail)
    go_wp2
    go_ret
    exact ⟨rfl, by rw [World.drewN_drewN]; exact (Kp.refl _ _).drewN _⟩
  · rw [peekI_no _ _ 0 (by omega)]
    have h2 : (n : Int) - t ≤ 0 := by omega
    have d2 : decide ((n : Int) - t ≤ 0) = true := decide_eq_true h2
    clear R
    go_enter Try.func59, Try.ntmps59
    go_wp2_with fail
    go_quiet (fail)
    go_wp2
    go_ret
    exact ⟨rfl, (Kp.refl _ _).drewN _⟩
set_option maxHeartbeats 2000000 in
theorem rpnext_any (h : RP w r A n c t s) (R : IRow w .u8 A n z) (hn : n ≤ 140737488355328) (ht : t ≤ 1000000000) :
    Calls Try.prog 53 #[.pointer (some ⟨r, 0, none⟩)] w (RpR (.int .u8 (peekI (n - t) (fun j => z (t + j)) 0)) r A n c (t + 1) s w) := by
  have H := Lib.hid h
  have HR := Lib.hid R
  clear h R
  obtain ⟨b, hb⟩ : ∃ b, peekI (n - t) (fun j => z (t + j)) 0 = b := ⟨_, rfl⟩
  rw [hb]
  have HB := Lib.hid hb
  clear hb
  go_enter Try.func53, Try.ntmps53
  go_wp2_with fail
  refine (rppeek_any H.out.cells.1 H.out.cells.2.1 HR.out hn ht).mono ?_
  rw [HB.out]
  rintro e w1 ⟨rfl, k1⟩
  have H1 := Lib.hid (H.out.kp k1 (by simp))
  have c1 := H1.out.cells.2.1
  have f1 := H1.out.1.frozen 1
  go_wp2
  go_ret
  obtain ⟨p1, p2⟩ := H1.out.put (k := 1) (x := .int .i64 ((t + 1 : Nat) : Int)) (t' := t + 1) (s' := s) rfl H.out.2
  exact ⟨rfl, p1, (k1.mono (by simp)).trans p2 (by simp)⟩
theorem rpwrite_any (h : RP w r A n c t s) (b : Int) (b0 : 0 ≤ b) (b1 : b ≤ 255) :
    Calls Try.prog 43 #[.pointer (some ⟨r, 0, none⟩), .int .u8 b] w (RpR (.tuple #[]) r A n c t (s.wr b) w) := by
  obtain ⟨c0, c1, c2, c3⟩ := h.cells
  have f2 := h.1.frozen 2
  have f3 := h.1.frozen 3
  obtain ⟨k1, k2⟩ := h.2
  have hl3 : (b % 4).toNat ≤ 3 := by omega
  obtain ⟨p1, p2⟩ := h.put (k := 2) (x := .int .u8 ((b % 4).toNat : Int)) (t' := t) (s' := ⟨(b % 4).toNat, s.p⟩) rfl ⟨hl3, k2⟩
  have i1 : ((b % 4).toNat : Int) = b % 4 := by omega
  rw [i1] at p1 p2
  have P1 := Lib.hid p1
  have P2 := Lib.hid p2
  clear h p1 p2 c0 c1 i1
  by_cases h2 : 2 ≤ b % 4
  · have hw : s.wr b = ⟨(b % 4).toNat, 0⟩ := by unfold Pt.wr; rw [if_pos (by omega)]
    rw [hw]
    clear hw
    go_enter Try.func43, Try.ntmps43
    go_wp2_with fail
    first | go_end0 | refine bodyPost_ret (results_none rfl _ _ _) rfl ?_
    obtain ⟨q1, q2⟩ := P1.out.put (k := 3) (x := .int .i64 0) (t' := t) (s' := ⟨(b % 4).toNat, 0⟩) rfl ⟨hl3, by dsimp only; omega⟩
    exact ⟨rfl, q1, P2.out.trans q2 (by simp)⟩
  have j2 : ¬ 2 ≤ b % 4 := h2
  by_cases h1 : b % 4 = 1
  · have j1 : (b % 4 == 1) = true := by simpa using h1
    by_cases hl : s.l % 2 = 0
    · have jl : ((s.l : Int) % 2 == 0) = true := by
        have : (s.l : Int) % 2 = 0 := by omega
        simpa using this
      by_cases h5 : s.p < 5
      · have j5 : (s.p : Int) < 5 := by omega
        have hw : s.wr b = ⟨(b % 4).toNat, s.p + 1⟩ := by
          unfold Pt.wr
          rw [if_neg (by omega), if_pos (by omega)]
          congr 1
          omega
        rw [hw]
        clear hw h1
        go_enter Try.func43, Try.ntmps43
        go_wp2_with fail
        first | go_end0 | refine bodyPost_ret (results_none rfl _ _ _) rfl ?_
        obtain ⟨q1, q2⟩ := P1.out.put (k := 3) (x := .int .i64 ((s.p + 1 : Nat) : Int)) (t' := t) (s' := ⟨(b % 4).toNat, s.p + 1⟩) rfl ⟨hl3, by dsimp only; omega⟩
        exact ⟨rfl, q1, P2.out.trans q2 (by simp)⟩
      · have j5 : ¬ (s.p : Int) < 5 := by omega
        have hw : s.wr b = ⟨(b % 4).toNat, s.p⟩ := by
          unfold Pt.wr
          rw [if_neg (by omega), if_pos (by omega)]
          congr 1
          omega
        rw [hw]
        clear hw h1
        go_enter Try.func43, Try.ntmps43
        go_wp2_with fail
        first | go_end0 | refine bodyPost_ret (results_none rfl _ _ _) rfl ?_
        exact ⟨rfl, P1.out, P2.out⟩
    · have jl : ((s.l : Int) % 2 == 0) = false := by
        have : ¬ (s.l : Int) % 2 = 0 := by omega
        simpa using this
      have hw : s.wr b = ⟨(b % 4).toNat, s.p⟩ := by
        unfold Pt.wr
        rw [if_neg (by omega), if_neg (by omega)]
      rw [hw]
      clear hw h1
      go_enter Try.func43, Try.ntmps43
      go_wp2_with fail
      first | go_end0 | refine bodyPost_ret (results_none rfl _ _ _) rfl ?_
      exact ⟨rfl, P1.out, P2.out⟩
  · have j1 : (b % 4 == 1) = false := by simpa using h1
    have hw : s.wr b = ⟨(b % 4).toNat, s.p⟩ := by
      unfold Pt.wr
      rw [if_neg (by omega), if_neg (by omega)]
    rw [hw]
    clear hw
    go_enter Try.func43, Try.ntmps43
    go_wp2_with fail
    first | go_end0 | refine bodyPost_ret (results_none rfl _ _ _) rfl ?_
    exact ⟨rfl, P1.out, P2.out⟩
set_option maxHeartbeats 1000000 in
theorem rpread_any (h : RP w r A n c t s) (R : IRow w .u8 A n z) (hn : n ≤ 140737488355328) (ht : t ≤ 1000000000) (hb : 0 ≤ peekI (n - t) (fun j => z (t + j)) 0 ∧ peekI (n - t) (fun j => z (t + j)) 0 ≤ 255) :
    Calls Try.prog 44 #[.pointer (some ⟨r, 0, none⟩)] w (RpR (.int .u8 (s.val (peekI (n - t) (fun j => z (t + j)) 0))) r A n c (if s.takes then t + 1 else t) s w) := by
  obtain ⟨c0, c1, c2, c3⟩ := h.cells
  obtain ⟨k1, k2⟩ := h.2
  have H := Lib.hid h
  have HR := Lib.hid R
  clear h R c0 c1
  by_cases h2 : 2 ≤ s.l
  · have hk : ¬ s.takes := fun x => x (.inr h2)
    unfold Pt.val
    rw [if_neg hk, if_neg hk]
    have j2 : (2 : Int) ≤ s.l := by omega
    clear hk
    go_enter Try.func44, Try.ntmps44
    go_wp2_with fail
    go_ret
    exact ⟨rfl, H.out, Kp.refl _ _⟩
  have j2 : ¬ (2 : Int) ≤ s.l := by omega
  by_cases h5 : s.p = 5
  · have hk : ¬ s.takes := fun x => x (.inl h5)
    unfold Pt.val
    rw [if_neg hk, if_neg hk]
    rw [h5] at c3
    clear hk h5 k2
    go_enter Try.func44, Try.ntmps44
    go_wp2_with fail
    go_ret
    exact ⟨rfl, H.out, Kp.refl _ _⟩
  have j5 : ¬ (4 : Int) < s.p := by omega
  have hk : s.takes := fun x => by omega
  unfold Pt.val
  rw [if_pos hk, if_pos hk]
  obtain ⟨b0, b1⟩ := hb
  obtain ⟨b, hb⟩ : ∃ b, peekI (n - t) (fun i => z (t + i)) 0 = b := ⟨_, rfl⟩
  rw [hb] at b0 b1 ⊢
  have HB := Lib.hid hb
  clear hk hb h5
  by_cases hl : s.l % 2 = 1
  · rw [if_pos hl]
    have jl : ((s.l : Int) % 2 == 1) = true := by
      have : (s.l : Int) % 2 = 1 := by omega
      simpa using this
    go_enter Try.func44, Try.ntmps44
    go_wp2_with fail
    refine (rpnext_any H.out HR.out hn ht).mono ?_
    rw [HB.out]
    rintro e w1 ⟨rfl, q1, q2⟩
    have d2 := q1.cells.2.2.1
    have Q1 := Lib.hid q1
    clear q1
    go_wp2_with fail
    go_ret
    exact ⟨rfl, Q1.out, q2⟩
  · rw [if_neg hl]
    have jl : ((s.l : Int) % 2 == 1) = false := by
      have : ¬ (s.l : Int) % 2 = 1 := by omega
      simpa using this
    go_enter Try.func44, Try.ntmps44
    go_wp2_with fail
    refine (rpnext_any H.out HR.out hn ht).mono ?_
    rw [HB.out]
    rintro e w1 ⟨rfl, q1, q2⟩
    have d2 := q1.cells.2.2.1
    have Q1 := Lib.hid q1
    clear q1
    go_wp2_with fail
    go_ret
    exact ⟨rfl, Q1.out, q2⟩
def RPCopyR (A : Option Addr) (n c t : Nat) (s : Pt) (w : World) (e : Ending) (w' : World) : Prop :=
  e = .returned (.pointer (some ⟨w.heap.size, 0, none⟩)) ∧ RP w' w.heap.size A n c t s ∧ Below w.heap.size w w'
set_option maxHeartbeats 4000000 in
theorem rpcopy_any (h : RP w r A n c t s) :
    Calls Try.prog 28 #[.pointer (some ⟨r, 0, none⟩)] w (RPCopyR A n c t s w) := by
  have hk := h.2
  obtain ⟨c0, c1, c2, c3⟩ := h.cells
  have HK := Lib.hid hk
  clear h hk
  go_enter Try.func28, Try.ntmps28
  go_wp2_with fail
  go_region
  all_goals
    go_wp2_with fail
    go_ret
    exact ⟨rfl, ⟨Blk.new w.drew _ _, HK.out⟩, (Below.refl _ _).drew.alloc (Nat.le_refl _) _⟩
end
end Go.Proofs.Ytbdmpgpdnnjmpaa
