/-
  Texts of these proofs, one behind the other: Port3, Tim4.
-/
import Derived.Test.YtcnjekballnncaaGreatKH26
import Derived.BigRegion
import Derived.RegionTactic
import Derived.Test.YtcnjekballnncaaGreatKH21
namespace Go.Proofs.YtcnjekballnncaaGreat
open Go.RowKit
set_option linter.unusedVariables false
set_option linter.unusedSimpArgs false
set_option maxRecDepth 100000
def rpC (A : Option Addr) (n c t : Nat) (s : Pt) : Array Value := #[.slice A n c, .int .i64 t, .int .u8 s.l, .int .i64 s.p]
/-- In block r there is the reference's port, over the slice of bytes that came in. -/
def RP (w : World) (r : Nat) (A : Option Addr) (n c t : Nat) (s : Pt) : Prop := Blk w r 116 (rpC A n c t s) ∧ s.ok
section
variable {w w' : World} {r n c t : Nat} {A : Option Addr} {z : Nat → Int} {s : Pt}
theorem RP.kp {L : List Nat} (h : RP w r A n c t s) (k : Kp L w w') (hL : r ∉ L) : RP w' r A n c t s := ⟨h.1.kp k hL, h.2⟩
theorem RP.keep {m : Nat} (h : RP w r A n c t s) (k : Below m w w') (hm : r < m) : RP w' r A n c t s := ⟨h.1.below k hm, h.2⟩
theorem RP.lt (h : RP w r A n c t s) : r < w.heap.size := h.1.lt
theorem RP.cells (h : RP w r A n c t s) : w.cell? ⟨r, 0, none⟩ = some (.slice A n c) ∧ w.cell? ⟨r, 1, none⟩ = some (.int .i64 t) ∧ w.cell? ⟨r, 2, none⟩ = some (.int .u8 s.l) ∧ w.cell? ⟨r, 3, none⟩ = some (.int .i64 s.p) :=
  ⟨h.1.cell 0, h.1.cell 1, h.1.cell 2, h.1.cell 3⟩
theorem RP.put {x : Value} {k t' : Nat} {s' : Pt} (h : RP w r A n c t s) (e : (rpC A n c t s).setIfInBounds k x = rpC A n c t' s') (hs : s'.ok) : RP (w.setCell ⟨r, k, none⟩ x) r A n c t' s' ∧ Kp [r] w (w.setCell ⟨r, k, none⟩ x) := by
  refine ⟨⟨?_, hs⟩, (Kp.refl _ _).setCell (.inl (by simp)) _⟩
  rw [← e]
  exact h.1.set_ k x
end
def RpR (v : Value) (r : Nat) (A : Option Addr) (n c t : Nat) (s : Pt) (w : World) (e : Ending) (w' : World) : Prop := e = .returned v ∧ RP w' r A n c t s ∧ Kp [r] w w'
def NewRPR (A : Option Addr) (n c : Nat) (w : World) (e : Ending) (w' : World) : Prop :=
  e = .returned (.pointer (some ⟨w.heap.size, 0, none⟩)) ∧ RP w' w.heap.size A n c 0 ⟨0, 0⟩ ∧ Below w.heap.size w w'
theorem rpnew_any (A : Option Addr) (n c : Nat) (w : World) : Calls Tryz.prog 31 #[.slice A n c] w (NewRPR A n c w) := by
  go_enter Tryz.func31, Tryz.ntmps31
  go_wp2
  go_ret
  exact ⟨rfl, ⟨Blk.new w _ _, by decide, by decide⟩, (Below.refl _ _).alloc (Nat.le_refl _) _⟩
section
variable {w : World} {r n c t : Nat} {A : Option Addr} {z : Nat → Int} {s : Pt}
set_option maxHeartbeats 2000000 in
theorem rppeek_any (c0 : w.cell? ⟨r, 0, none⟩ = some (.slice A n c)) (c1 : w.cell? ⟨r, 1, none⟩ = some (.int .i64 t)) (R : IRow w .u8 A n z) (hn : n ≤ 140737488355328) (ht : t ≤ 1000000000) :
    Calls Tryz.prog 110 #[.pointer (some ⟨r, 0, none⟩), .int .i64 0] w fun e w' => e = .returned (.int .u8 (peekI (n - t) (fun j => z (t + j)) 0)) ∧ Kp [] w w' := by
  by_cases h1 : t < n
  · rw [show ((0 : Int)) = ((0 : Nat) : Int) from rfl, peekI_yes _ _ 0 (by omega)]
    have h2 : ¬ ((n : Int) - t ≤ 0) := by omega
    have d2 : decide ((n : Int) - t ≤ 0) = false := decide_eq_false h2
    obtain ⟨ad, rfl, _, hc, _⟩ := R (t + 0) (by omega)
    have i0 : (0 : Int) ≤ (t : Int) := by omega
    have i1 : (t : Int) < n := by omega
    have e1 : ((t : Int)).toNat = t := by omega
    rw [Nat.add_zero] at hc
    show Calls Tryz.prog 110 #[.pointer (some ⟨r, 0, none⟩), .int .i64 0] w fun e w' => e = .returned (.int .u8 (z t)) ∧ Kp [] w w'
    clear R
    go_enter Tryz.func110, Tryz.ntmps110
    go_wp2_with fail
    go_quiet (fail)
    go_wp2
    go_quiet (fail)
    go_wp2
    go_ret
    exact ⟨rfl, by rw [World.drewN_drewN]; exact (Kp.refl _ _).drewN _⟩
  · rw [peekI_no _ _ 0 (by omega)]
    have h2 : (n : Int) - t ≤ 0 := by omega
    have d2 : decide ((n : Int) - t ≤ 0) = true := decide_eq_true h2
    clear R
    go_enter Tryz.func110, Tryz.ntmps110
    go_wp2_with fail
    go_quiet (fail)
    go_wp2
    go_ret
    exact ⟨rfl, (Kp.refl _ _).drewN _⟩
set_option maxHeartbeats 2000000 in
theorem rpnext_any (h : RP w r A n c t s) (R : IRow w .u8 A n z) (hn : n ≤ 140737488355328) (ht : t ≤ 1000000000) :
    Calls Tryz.prog 83 #[.pointer (some ⟨r, 0, none⟩)] w (RpR (.int .u8 (peekI (n - t) (fun j => z (t + j)) 0)) r A n c (t + 1) s w) := by
  have H := Lib.hid h
  have HR := Lib.hid R
  clear h R
  obtain ⟨b, hb⟩ : ∃ b, peekI (n - t) (fun j => z (t + j)) 0 = b := ⟨_, rfl⟩
  rw [hb]
  have HB := Lib.hid hb
  clear hb
  go_enter Tryz.func83, Tryz.ntmps83
  go_wp2_with fail
  refine (rppeek_any H.out.cells.1 H.out.cells.2.1 HR.out hn ht).mono ?_
  rw [HB.out]
  rintro e w1 ⟨rfl, k1⟩
  have H1 := Lib.hid (H.out.kp k1 (by simp))
  have c1 := H1.out.cells.2.1
  have f1 := H1.out.1.frozen 1
  go_wp2
  go_ret
  obtain ⟨p1, p2⟩ := H1.out.put (k := 1) (x := .int .i64 ((t + 1 : Nat) : Int)) (t' := t + 1) (s' := s) rfl H.out.2
  exact ⟨rfl, p1, (k1.mono (by simp)).trans p2 (by simp)⟩
theorem rpwrite_any (h : RP w r A n c t s) (b : Int) (b0 : 0 ≤ b) (b1 : b ≤ 255) :
    Calls Tryz.prog 90 #[.pointer (some ⟨r, 0, none⟩), .int .u8 b] w (RpR (.tuple #[]) r A n c t (s.wr b) w) := by
  obtain ⟨c0, c1, c2, c3⟩ := h.cells
  have f2 := h.1.frozen 2
  have f3 := h.1.frozen 3
  obtain ⟨k1, k2⟩ := h.2
  have hl3 : (b % 4).toNat ≤ 3 := by omega
  obtain ⟨p1, p2⟩ := h.put (k := 2) (x := .int .u8 ((b % 4).toNat : Int)) (t' := t) (s' := ⟨(b % 4).toNat, s.p⟩) rfl ⟨hl3, k2⟩
  have i1 : ((b % 4).toNat : Int) = b % 4 := by omega
  rw [i1] at p1 p2
  have P1 := Lib.hid p1
  have P2 := Lib.hid p2
  clear h p1 p2 c0 c1 i1
  by_cases h2 : 2 ≤ b % 4
  · have hw : s.wr b = ⟨(b % 4).toNat, 0⟩ := by unfold Pt.wr; rw [if_pos (by omega)]
    rw [hw]
    clear hw
    go_enter Tryz.func90, Tryz.ntmps90
    go_wp2_with fail
    first | go_end0 | refine bodyPost_ret (results_none rfl _ _ _) rfl ?_
    obtain ⟨q1, q2⟩ := P1.out.put (k := 3) (x := .int .i64 0) (t' := t) (s' := ⟨(b % 4).toNat, 0⟩) rfl ⟨hl3, by dsimp only; omega⟩
    exact ⟨rfl, q1, P2.out.trans q2 (by simp)⟩
  have j2 : ¬ 2 ≤ b % 4 := h2
  by_cases h1 : b % 4 = 1
  · have j1 : (b % 4 == 1) = true := by simpa using h1
    by_cases hl : s.l % 2 = 0
    · have jl : ((s.l : Int) % 2 == 0) = true := by
        have : (s.l : Int) % 2 = 0 := by omega
        simpa using this
      by_cases h5 : s.p < 5
      · have j5 : (s.p : Int) < 5 := by omega
        have hw : s.wr b = ⟨(b % 4).toNat, s.p + 1⟩ := by
          unfold Pt.wr
          rw [if_neg (by omega), if_pos (by omega)]
          congr 1
          omega
        rw [hw]
        clear hw h1
        go_enter Tryz.func90, Tryz.ntmps90
        go_wp2_with fail
        first | go_end0 | refine bodyPost_ret (results_none rfl _ _ _) rfl ?_
        obtain ⟨q1, q2⟩ := P1.out.put (k := 3) (x := .int .i64 ((s.p + 1 : Nat) : Int)) (t' := t) (s' := ⟨(b % 4).toNat, s.p + 1⟩) rfl ⟨hl3, by dsimp only; omega⟩
        exact ⟨rfl, q1, P2.out.trans q2 (by simp)⟩
      · have j5 : ¬ (s.p : Int) < 5 := by omega
        have hw : s.wr b = ⟨(b % 4).toNat, s.p⟩ := by
          unfold Pt.wr
          rw [if_neg (by omega), if_pos (by omega)]
          congr 1
          omega
        rw [hw]
        clear hw h1
        go_enter Tryz.func90, Tryz.ntmps90
        go_wp2_with fail
        first | go_end0 | refine bodyPost_ret (results_none rfl _ _ _) rfl ?_
        exact ⟨rfl, P1.out, P2.out⟩
    · have jl : ((s.l : Int) % 2 == 0) = false := by
        have : ¬ (s.l : Int) % 2 = 0 := by omega
        simpa using this
      have hw : s.wr b = ⟨(b % 4).toNat, s.p⟩ := by
        unfold Pt.wr
        rw [if_neg (by omega), if_neg (by omega)]
      rw [hw]
      clear hw h1
      go_enter Tryz.func90, Tryz.ntmps90
      go_wp2_with fail
      first | go_end0 | refine bodyPost_ret (results_none rfl _ _ _) rfl ?_
      exact ⟨rfl, P1.out, P2.out⟩
  · have j1 : (b % 4 == 1) = false := by simpa using h1
    have hw : s.wr b = ⟨(b % 4).toNat, s.p⟩ := by
      unfold Pt.wr
      rw [if_neg (by omega), if_neg (by omega)]
    rw [hw]
    clear hw
    go_enter Tryz.func90, Tryz.ntmps90
    go_wp2_with fail
    first | go_end0 | refine bodyPost_ret (results_none rfl _ _ _) rfl ?_
    exact ⟨rfl, P1.out, P2.out⟩
set_option maxHeartbeats 1000000 in
theorem rpread_any (h : RP w r A n c t s) (R : IRow w .u8 A n z) (hn : n ≤ 140737488355328) (ht : t ≤ 1000000000) (hb : 0 ≤ peekI (n - t) (fun j => z (t + j)) 0 ∧ peekI (n - t) (fun j => z (t + j)) 0 ≤ 255) :
    Calls Tryz.prog 85 #[.pointer (some ⟨r, 0, none⟩)] w (RpR (.int .u8 (s.val (peekI (n - t) (fun j => z (t + j)) 0))) r A n c (if s.takes then t + 1 else t) s w) := by
  obtain ⟨c0, c1, c2, c3⟩ := h.cells
  obtain ⟨k1, k2⟩ := h.2
  have H := Lib.hid h
  have HR := Lib.hid R
  clear h R c0 c1
  by_cases h2 : 2 ≤ s.l
  · have hk : ¬ s.takes := fun x => x (.inr h2)
    unfold Pt.val
    rw [if_neg hk, if_neg hk]
    have j2 : (2 : Int) ≤ s.l := by omega
    clear hk
    go_enter Tryz.func85, Tryz.ntmps85
    go_wp2_with fail
    go_ret
    exact ⟨rfl, H.out, Kp.refl _ _⟩
  have j2 : ¬ (2 : Int) ≤ s.l := by omega
  by_cases h5 : s.p = 5
  · have hk : ¬ s.takes := fun x => x (.inl h5)
    unfold Pt.val
    rw [if_neg hk, if_neg hk]
    rw [h5] at c3
    clear hk h5 k2
    go_enter Tryz.func85, Tryz.ntmps85
    go_wp2_with fail
    go_ret
    exact ⟨rfl, H.out, Kp.refl _ _⟩
  have j5 : ¬ (4 : Int) < s.p := by omega
  have hk : s.takes := fun x => by omega
  unfold Pt.val
  rw [if_pos hk, if_pos hk]
  obtain ⟨b0, b1⟩ := hb
  obtain ⟨b, hb⟩ : ∃ b, peekI (n - t) (fun i => z (t + i)) 0 = b := ⟨_, rfl⟩
  rw [hb] at b0 b1 ⊢
  have HB := Lib.hid hb
  clear hk hb h5
  by_cases hl : s.l % 2 = 1
  · rw [if_pos hl]
    have jl : ((s.l : Int) % 2 == 1) = true := by
      have : (s.l : Int) % 2 = 1 := by omega
      simpa using this
    go_enter Tryz.func85, Tryz.ntmps85
    go_wp2_with fail
    refine (rpnext_any H.out HR.out hn ht).mono ?_
    rw [HB.out]
    rintro e w1 ⟨rfl, q1, q2⟩
    have d2 := q1.cells.2.2.1
    have Q1 := Lib.hid q1
    clear q1
    go_wp2_with fail
    go_ret
    exact ⟨rfl, Q1.out, q2⟩
  · rw [if_neg hl]
    have jl : ((s.l : Int) % 2 == 1) = false := by
      have : ¬ (s.l : Int) % 2 = 1 := by omega
      simpa using this
    go_enter Tryz.func85, Tryz.ntmps85
    go_wp2_with fail
    refine (rpnext_any H.out HR.out hn ht).mono ?_
    rw [HB.out]
    rintro e w1 ⟨rfl, q1, q2⟩
    have d2 := q1.cells.2.2.1
    have Q1 := Lib.hid q1
    clear q1
    go_wp2_with fail
    go_ret
    exact ⟨rfl, Q1.out, q2⟩
def RPCopyR (A : Option Addr) (n c t : Nat) (s : Pt) (w : World) (e : Ending) (w' : World) : Prop :=
  e = .returned (.pointer (some ⟨w.heap.size, 0, none⟩)) ∧ RP w' w.heap.size A n c t s ∧ Below w.heap.size w w'
set_option maxHeartbeats 4000000 in
theorem rpcopy_any (h : RP w r A n c t s) :
    Calls Tryz.prog 44 #[.pointer (some ⟨r, 0, none⟩)] w (RPCopyR A n c t s w) := by
  have hk := h.2
  obtain ⟨c0, c1, c2, c3⟩ := h.cells
  have HK := Lib.hid hk
  clear h hk
  go_enter Tryz.func44, Tryz.ntmps44
  go_wp2_with fail
  go_region
  all_goals
    go_wp2_with fail
    go_ret
    exact ⟨rfl, ⟨Blk.new w.drew _ _, HK.out⟩, (Below.refl _ _).drew.alloc (Nat.le_refl _) _⟩
end
end Go.Proofs.YtcnjekballnncaaGreat
namespace Go.Proofs.YtcnjekballnncaaGreat
open Go.RowKit
set_option linter.unusedVariables false
set_option linter.unusedSimpArgs false
set_option maxRecDepth 100000
def rtC (s : Tm) : Array Value := #[.int .u8 s.r, .int .u8 s.c, .bool s.on, .int .i64 (3072 - (s.gone : Int))]
/-- In block g there is the reference's timer. -/
def RTM (w : World) (g : Nat) (s : Tm) : Prop := Blk w g 114 (rtC s) ∧ s.ok
section
variable {w w' : World} {g : Nat} {s : Tm}
theorem RTM.kp {L : List Nat} (h : RTM w g s) (k : Kp L w w') (hL : g ∉ L) : RTM w' g s := ⟨h.1.kp k hL, h.2⟩
theorem RTM.keep {n : Nat} (h : RTM w g s) (k : Below n w w') (hn : g < n) : RTM w' g s := ⟨h.1.below k hn, h.2⟩
theorem RTM.lt (h : RTM w g s) : g < w.heap.size := h.1.lt
theorem RTM.cells (h : RTM w g s) : w.cell? ⟨g, 0, none⟩ = some (.int .u8 s.r) ∧ w.cell? ⟨g, 1, none⟩ = some (.int .u8 s.c) ∧ w.cell? ⟨g, 2, none⟩ = some (.bool s.on) ∧ w.cell? ⟨g, 3, none⟩ = some (.int .i64 (3072 - (s.gone : Int))) :=
  ⟨h.1.cell 0, h.1.cell 1, h.1.cell 2, h.1.cell 3⟩
theorem RTM.put {x : Value} {k : Nat} {s' : Tm} (h : RTM w g s) (e : (rtC s).setIfInBounds k x = rtC s') (hs : s'.ok) : RTM (w.setCell ⟨g, k, none⟩ x) g s' ∧ Kp [g] w (w.setCell ⟨g, k, none⟩ x) := by
  refine ⟨⟨?_, hs⟩, (Kp.refl _ _).setCell (.inl (by simp)) _⟩
  rw [← e]
  exact h.1.set_ k x
end
/-- What a call on the reference's timer leaves. -/
def RtR (v : Value) (g : Nat) (s : Tm) (w : World) (e : Ending) (w' : World) : Prop := e = .returned v ∧ RTM w' g s ∧ Kp [g] w w'
def NewRTR (w : World) (e : Ending) (w' : World) : Prop :=
  e = .returned (.pointer (some ⟨w.heap.size, 0, none⟩)) ∧ RTM w' w.heap.size Tm.new ∧ Below w.heap.size w w'
theorem rtnew_any (w : World) : Calls Tryz.prog 30 #[] w (NewRTR w) := by
  go_enter Tryz.func30, Tryz.ntmps30
  go_wp2
  go_ret
  exact ⟨rfl, ⟨Blk.new w _ _, Tm.new_ok⟩, (Below.refl _ _).alloc (Nat.le_refl _) _⟩
section
variable {w : World} {g : Nat} {s : Tm}
theorem rttick_any (h : RTM w g s) :
    Calls Tryz.prog 109 #[.pointer (some ⟨g, 0, none⟩)] w (RtR (.bool (decide (s.c = 0))) g ⟨s.gone, tkS s.r s.c, s.r, s.on⟩ w) := by
  obtain ⟨k0, k1, k2⟩ := h.2
  obtain ⟨c0, c1, c2, c3⟩ := h.cells
  have f1 := h.1.frozen 1
  have H := Lib.hid h
  clear h c2 c3
  by_cases h0 : s.c = 0
  · have e : tkS s.r s.c = s.r := by unfold tkS; rw [if_pos h0]
    rw [e, decide_eq_true h0]
    obtain ⟨p1, p2⟩ := H.out.put (k := 1) (x := .int .u8 (s.r : Int)) (s' := ⟨s.gone, s.r, s.r, s.on⟩) rfl ⟨k0, k2, k2⟩
    have P1 := Lib.hid p1
    have P2 := Lib.hid p2
    rw [h0] at c1
    clear e p1 p2 h0 k0 k1 k2
    go_enter Tryz.func109, Tryz.ntmps109
    go_wp2
    go_ret
    exact ⟨rfl, P1.out, P2.out⟩
  · have e : tkS s.r s.c = s.c - 1 := by unfold tkS; rw [if_neg h0]
    rw [e, decide_eq_false h0]
    obtain ⟨p1, p2⟩ := H.out.put (k := 1) (x := .int .u8 ((s.c - 1 : Nat) : Int)) (s' := ⟨s.gone, s.c - 1, s.r, s.on⟩) rfl ⟨k0, by dsimp only; omega, k2⟩
    have i1 : ((s.c - 1 : Nat) : Int) = (s.c : Int) - 1 := by omega
    rw [i1] at p1 p2
    have P1 := Lib.hid p1
    have P2 := Lib.hid p2
    have j0 : ((s.c : Int) == 0) = false := by
      have : ¬ (s.c : Int) = 0 := by omega
      simpa using this
    have j1 : (0 : Int) < (s.c : Int) := by omega
    clear e p1 p2 i1 k0 k2
    go_enter Tryz.func109, Tryz.ntmps109
    go_wp2
    go_ret
    exact ⟨rfl, P1.out, P2.out⟩
theorem rtwrite_any (h : RTM w g s) (reg b : Int) (b0 : 0 ≤ b) (b1 : b ≤ 255) :
    Calls Tryz.prog 89 #[.pointer (some ⟨g, 0, none⟩), .int .i64 reg, .int .u8 b] w (RtR (.tuple #[]) g (s.wr reg b) w) := by
  obtain ⟨k0, k1, k2⟩ := h.2
  obtain ⟨c0, c1, c2, c3⟩ := h.cells
  have f0 := h.1.frozen 0
  have f1 := h.1.frozen 1
  have f2 := h.1.frozen 2
  have f3 := h.1.frozen 3
  have H := Lib.hid h
  clear h
  by_cases h0 : reg = 0
  · subst h0
    have e : s.wr 0 b = ⟨s.gone, s.c, (b % 128).toNat, s.on⟩ := by unfold Tm.wr; rw [if_pos rfl]
    rw [e]
    have i1 : ((b % 128).toNat : Int) = b % 128 := by omega
    obtain ⟨p1, p2⟩ := H.out.put (k := 0) (x := .int .u8 ((b % 128).toNat : Int)) (s' := ⟨s.gone, s.c, (b % 128).toNat, s.on⟩) rfl ⟨k0, k1, by dsimp only; omega⟩
    rw [i1] at p1 p2
    have P1 := Lib.hid p1
    have P2 := Lib.hid p2
    clear e i1 p1 p2
    go_enter Tryz.func89, Tryz.ntmps89
    go_wp2
    first | go_end0 | refine bodyPost_ret (results_none rfl _ _ _) rfl ?_
    exact ⟨rfl, P1.out, P2.out⟩
  · have n0 : (reg == 0) = false := by simpa using h0
    by_cases h1 : reg = 1
    · subst h1
      rw [tm_wr]
      obtain ⟨gone, c, r, on⟩ := s
      dsimp only at *
      by_cases hb : b % 2 = 1
      · rw [decide_eq_true hb]
        cases on with
        | true =>
          go_enter Tryz.func89, Tryz.ntmps89
          go_wp2
          first | go_end0 | refine bodyPost_ret (results_none rfl _ _ _) rfl ?_
          obtain ⟨p1, p2⟩ := H.out.put (k := 2) (x := .bool true) (s' := ⟨gone, c, r, true⟩) rfl ⟨k0, k1, k2⟩
          exact ⟨rfl, p1, p2⟩
        | false =>
          go_enter Tryz.func89, Tryz.ntmps89
          go_wp2
          first | go_end0 | refine bodyPost_ret (results_none rfl _ _ _) rfl ?_
          obtain ⟨p1, p2⟩ := H.out.put (k := 1) (x := .int .u8 (r : Int)) (s' := ⟨gone, r, r, false⟩) rfl ⟨k0, k2, k2⟩
          obtain ⟨q1, q2⟩ := p1.put (k := 3) (x := .int .i64 3072) (s' := ⟨0, r, r, false⟩) rfl ⟨by dsimp only; omega, k2, k2⟩
          obtain ⟨r1, r2⟩ := q1.put (k := 2) (x := .bool true) (s' := ⟨0, r, r, true⟩) rfl ⟨by dsimp only; omega, k2, k2⟩
          exact ⟨rfl, r1, (p2.trans q2 (by simp)).trans r2 (by simp)⟩
      · rw [decide_eq_false hb]
        have hb' : (b % 2 == 1) = false := by simpa using hb
        go_enter Tryz.func89, Tryz.ntmps89
        go_wp2
        first | go_end0 | refine bodyPost_ret (results_none rfl _ _ _) rfl ?_
        obtain ⟨p1, p2⟩ := H.out.put (k := 2) (x := .bool false) (s' := ⟨gone, c, r, false⟩) rfl ⟨k0, k1, k2⟩
        exact ⟨rfl, p1, p2⟩
    · have e : s.wr reg b = s := by unfold Tm.wr; rw [if_neg h0, if_neg h1]
      rw [e]
      have n1 : (reg == 1) = false := by simpa using h1
      clear e
      go_enter Tryz.func89, Tryz.ntmps89
      go_wp2
      first | go_end0 | refine bodyPost_ret (results_none rfl _ _ _) rfl ?_
      exact ⟨rfl, H.out, Kp.refl _ _⟩
set_option maxHeartbeats 1000000 in
theorem rtgo_any (h : RTM w g s) (n : Int) (hn : n ≤ 9223372036854775807) :
    Calls Tryz.prog 80 #[.pointer (some ⟨g, 0, none⟩), .int .i64 n] w (RtR (.int .i64 (s.overN n.toNat)) g (s.goN n.toNat) w) := by
  obtain ⟨k0, k1, k2⟩ := h.2
  obtain ⟨c0, c1, c2, c3⟩ := h.cells
  have H := Lib.hid h
  clear h
  cases hon : s.on with
  | false =>
    have e1 : s.overN n.toNat = 0 := by unfold Tm.overN; rw [hon]; rfl
    have e2 : s.goN n.toNat = s := by unfold Tm.goN; rw [hon]; rfl
    rw [e1, e2]
    rw [hon] at c2
    clear e1 e2 hon
    go_enter Tryz.func80, Tryz.ntmps80
    go_wp2
    go_ret
    exact ⟨rfl, H.out, Kp.refl _ _⟩
  | true =>
    rcases (by omega : n < 0 ∨ 0 ≤ n) with hneg | hpos
    · have e0 : n.toNat = 0 := by omega
      have e1 : s.overN n.toNat = 0 := by unfold Tm.overN; rw [hon, e0, if_pos rfl, Nat.add_zero, Nat.div_eq_of_lt k0]; rfl
      have e2 : s.goN n.toNat = s := by
        unfold Tm.goN
        rw [hon, e0, if_pos rfl, Nat.add_zero, Nat.div_eq_of_lt k0, Nat.mod_eq_of_lt k0]
        obtain ⟨gone, c, r, on⟩ := s
        dsimp only at hon
        subst hon
        rfl
      rw [e1, e2]
      rw [hon] at c2
      have j1 : ¬ (3072 - (s.gone : Int) ≤ n) := by omega
      clear e0 e1 e2 hon
      go_enter Tryz.func80, Tryz.ntmps80
      go_wp2_with fail
      go_loopw [1, 5] (fun x y wr => x = .int .i64 n ∧ y = .int .i64 0 ∧ wr = w) (fun _ _ _ => 0)
      case atStart => exact ⟨rfl, rfl, rfl⟩
      case round =>
        obtain ⟨rfl, rfl, rfl⟩ := hrel
        go_wp2
        go_ret
        exact ⟨rfl, H.out, Kp.refl _ _⟩
    · obtain ⟨m0, rfl⟩ := Int.eq_ofNat_of_zero_le hpos
      have e1 : s.overN (m0 : Int).toNat = tkO s.r ((s.gone + m0) / 3072) s.c := by unfold Tm.overN; rw [hon]; rfl
      have e2 : s.goN (m0 : Int).toNat = ⟨(s.gone + m0) % 3072, tkC s.r ((s.gone + m0) / 3072) s.c, s.r, true⟩ := by unfold Tm.goN; rw [hon]; rfl
      rw [e1, e2]
      have hN : tkO s.r ((s.gone + m0) / 3072) s.c ≤ m0 := Nat.le_trans (tkO_le _ _ _) (by omega)
      obtain ⟨N, eN⟩ : ∃ N, tkO s.r ((s.gone + m0) / 3072) s.c = N := ⟨_, rfl⟩
      obtain ⟨C, eC⟩ : ∃ C, tkC s.r ((s.gone + m0) / 3072) s.c = C := ⟨_, rfl⟩
      obtain ⟨G, eG⟩ : ∃ G, (s.gone + m0) % 3072 = G := ⟨_, rfl⟩
      rw [eN, eC, eG]
      rw [eN] at hN
      rw [hon] at c2
      have EN := Lib.hid eN
      have EC := Lib.hid eC
      have EG := Lib.hid eG
      have H1 : Hid (RTM w g ⟨s.gone, s.c, s.r, true⟩) := Lib.hid (by
        have := H.out
        obtain ⟨gone, c, r, on⟩ := s
        dsimp only at hon
        subst hon
        exact this)
      clear e1 e2 eN eC eG hon H hpos
      go_enter Tryz.func80, Tryz.ntmps80
      go_wp2_with fail
      go_loopw [1, 5] (fun x y wr => ∃ m a c v : Nat, x = .int .i64 m ∧ m ≤ m0 ∧ y = .int .i64 v ∧ a < 3072 ∧ c ≤ 127 ∧ v + tkO s.r ((a + m) / 3072) c = N ∧ tkC s.r ((a + m) / 3072) c = C ∧ (a + m) % 3072 = G ∧ RTM wr g ⟨a, c, s.r, true⟩ ∧ Kp [g] w wr) (fun x _ _ => (intOf x).toNat)
      case atStart => exact ⟨m0, s.gone, s.c, 0, rfl, Nat.le_refl _, rfl, k0, k1, by rw [Nat.zero_add]; exact EN.out, EC.out, EG.out, H1.out, Kp.refl _ _⟩
      case round =>
        obtain ⟨m, a, c, v, rfl, hm, rfl, ha, hc, hv, hC, hG, hT, hK⟩ := hrel
        obtain ⟨b0, b1, b2, b3⟩ := hT.cells
        have f3 := hT.1.frozen 3
        dsimp only at b0 b1 b2 b3
        have hvN : v ≤ N := by omega
        clear c0 c1 c2 c3
        by_cases hge : 3072 ≤ a + m
        · have j1 : 3072 - (a : Int) ≤ m := by omega
          have d1 : (a + m) / 3072 = (0 + (a + m - 3072)) / 3072 + 1 := by omega
          have d2 : (a + m) % 3072 = (0 + (a + m - 3072)) % 3072 := by omega
          rw [d1] at hv hC
          rw [d2] at hG
          simp only [tkC, tkO] at hv hC
          have HV := Lib.hid hv
          have HC := Lib.hid hC
          have HG := Lib.hid hG
          obtain ⟨p1, p2⟩ := hT.put (k := 3) (x := .int .i64 3072) (s' := ⟨0, c, s.r, true⟩) rfl ⟨by dsimp only; omega, hc, k2⟩
          have P1 := Lib.hid p1
          have K1 := Lib.hid (hK.trans p2 (by simp))
          clear d1 d2 hv hC hG hT hK p1 p2 H1
          go_wp2_with fail
          refine (rttick_any P1.out).mono ?_
          rintro e w1 ⟨rfl, q1, q2⟩
          dsimp only at q1
          have Q1 := Lib.hid q1
          have Q2 := Lib.hid (K1.out.trans q2 (by simp))
          have hc2 : tkS s.r c ≤ 127 := tkS_le k2 hc
          clear q1 q2
          by_cases h0 : c = 0
          · have h1 : v + 1 ≤ N := by have := HV.out; rw [if_pos h0] at this; omega
            dsimp only
            rw [decide_eq_true h0]
            go_wp2_with fail
            go_roundw
            case rel =>
              refine ⟨a + m - 3072, 0, tkS s.r c, v + 1, by congr 1; omega, by omega, by go_num, by omega, hc2, ?_, HC.out, HG.out, Q1.out, Q2.out⟩
              have := HV.out
              rw [if_pos h0] at this
              omega
            case measure => simp [intOf]; omega
          · dsimp only
            rw [decide_eq_false h0]
            go_wp2_with fail
            go_roundw
            case rel =>
              refine ⟨a + m - 3072, 0, tkS s.r c, v, by congr 1; omega, by omega, rfl, by omega, hc2, ?_, HC.out, HG.out, Q1.out, Q2.out⟩
              have := HV.out
              rw [if_neg h0] at this
              omega
            case measure => simp [intOf]; omega
        · have j1 : ¬ (3072 - (a : Int) ≤ m) := by omega
          rw [Nat.div_eq_of_lt (by omega)] at hv hC
          rw [Nat.mod_eq_of_lt (by omega)] at hG
          simp only [tkC, tkO, Nat.add_zero] at hv hC
          subst hv hC hG
          by_cases hm0 : m = 0
          · subst hm0
            have HT := Lib.hid hT
            have HK := Lib.hid hK
            clear hT hK
            go_wp2
            go_ret
            exact ⟨rfl, HT.out, HK.out⟩
          · have j2 : (0 : Int) < m := by omega
            obtain ⟨p1, p2⟩ := hT.put (k := 3) (x := .int .i64 (3072 - ((a + m : Nat) : Int))) (s' := ⟨a + m, c, s.r, true⟩) rfl ⟨by dsimp only; omega, hc, k2⟩
            rw [show (3072 : Int) - ((a + m : Nat) : Int) = 3072 - (a : Int) - (m : Int) by omega] at p1 p2
            have P1 := Lib.hid p1
            have K1 := Lib.hid (hK.trans p2 (by simp))
            clear hT hK p1 p2
            go_wp2
            go_ret
            exact ⟨rfl, P1.out, K1.out⟩
def RTCopyR (g : Nat) (s : Tm) (w : World) (e : Ending) (w' : World) : Prop :=
  e = .returned (.pointer (some ⟨w.heap.size, 0, none⟩)) ∧ RTM w' w.heap.size s ∧ Below w.heap.size w w'
set_option maxHeartbeats 1000000 in
theorem rtcopy_any (h : RTM w g s) :
    Calls Tryz.prog 43 #[.pointer (some ⟨g, 0, none⟩)] w (RTCopyR g s w) := by
  have hk := h.2
  obtain ⟨c0, c1, c2, c3⟩ := h.cells
  have HK := Lib.hid hk
  clear h hk
  go_enter Tryz.func43, Tryz.ntmps43
  go_wp2_with fail
  go_region
  all_goals
    go_wp2_with fail
    go_ret
    exact ⟨rfl, ⟨Blk.new w.drew _ _, HK.out⟩, (Below.refl _ _).drew.alloc (Nat.le_refl _) _⟩
end
end Go.Proofs.YtcnjekballnncaaGreat
