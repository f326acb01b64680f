/-
  Timers: Write, Until, Clone, and what a tick does.
-/
import Derived.Test.YtbdmpgpdnnjmpaaTim1
import Derived.Test.YtbdmpgpdnnjmpaaMB
import Derived.Deep.QuietTactic
import Derived.BigQuiet
namespace Go.Proofs.Ytbdmpgpdnnjmpaa
open Go.RowKit
set_option linter.unusedVariables false
set_option linter.unusedSimpArgs false
set_option maxRecDepth 100000
/-- What a call on a timer leaves. -/
def TmR (v : Value) (g : Nat) (T : TypeId) (cs : Array Value) (o : Nat) (s : Tm) (w : World) (e : Ending) (w' : World) : Prop := e = .returned v ∧ TM w' g T cs o s ∧ Kp [g] w w'
section
variable {w : World} {g : Nat} {T : TypeId} {cs : Array Value} {o : Nat} {s : Tm}
theorem TM.put {x : Value} {k : Nat} {s' : Tm} (h : TM w g T cs o s) (e : (tmPut cs o s).setIfInBounds k x = tmPut cs o s') (hs : s'.ok) : TM (w.setCell ⟨g, k, none⟩ x) g T cs o s' ∧ Kp [g] w (w.setCell ⟨g, k, none⟩ x) := by
  refine ⟨⟨?_, h.2.1, hs⟩, (Kp.refl _ _).setCell (.inl (by simp)) _⟩
  rw [← e]
  exact h.1.set_ k x
def Tm.turn (s : Tm) (b : Bool) : Tm := if b = true then if s.on = true then s else ⟨0, s.r, s.r, true⟩ else ⟨s.gone, s.c, s.r, false⟩
theorem Tm.turn_ok (h : s.ok) (b : Bool) : (s.turn b).ok := by
  obtain ⟨a1, a2, a3⟩ := h
  unfold Tm.turn
  repeat' split
  all_goals (refine ⟨?_, ?_, ?_⟩ <;> (try dsimp only) <;> omega)
theorem tturn_any (h : TM w g T cs o s) (b : Bool) :
    Calls Try.prog 38 #[.pointer (some ⟨g, o, none⟩), .bool b] w (TmR (.tuple #[]) g T cs o (s.turn b) w) := by
  have hz := h.2.1
  obtain ⟨k0, k1, k2⟩ := h.2.2
  obtain ⟨c0, c1, c2, c3⟩ := h.cells
  have f0 := h.1.frozen o
  have f1 := h.1.frozen (o + 1)
  have f3 := h.1.frozen (o + 3)
  obtain ⟨gone, c, r, on⟩ := s
  dsimp only at c0 c1 c2 c3 k0 k1 k2
  have H := Lib.hid h
  have HZ := Lib.hid hz
  clear h hz
  cases b with
  | false =>
    go_enter Try.func38, Try.ntmps38
    go_wp2
    first | go_end0 | refine bodyPost_ret (results_none rfl _ _ _) rfl ?_
    obtain ⟨q1, q2⟩ := H.out.put (tmPut_on HZ.out false) ⟨k0, k1, k2⟩
    exact ⟨rfl, q1, q2⟩
  | true =>
    cases on with
    | true =>
      go_enter Try.func38, Try.ntmps38
      go_wp2
      first | go_end0 | refine bodyPost_ret (results_none rfl _ _ _) rfl ?_
      obtain ⟨q1, q2⟩ := H.out.put (tmPut_on HZ.out true) ⟨k0, k1, k2⟩
      exact ⟨rfl, q1, q2⟩
    | false =>
      go_enter Try.func38, Try.ntmps38
      go_wp2
      first | go_end0 | refine bodyPost_ret (results_none rfl _ _ _) rfl ?_
      obtain ⟨p1, p2⟩ := H.out.put (tmPut_c HZ.out r) ⟨k0, k2, k2⟩
      obtain ⟨q1, q2⟩ := p1.put (tmPut_gone HZ.out 0) ⟨by dsimp only; omega, k2, k2⟩
      obtain ⟨r1, r2⟩ := q1.put (tmPut_on HZ.out true) ⟨by dsimp only; omega, k2, k2⟩
      exact ⟨rfl, r1, (p2.trans q2 (by simp)).trans r2 (by simp)⟩
theorem tm_wr (s : Tm) (b : Int) : s.wr 1 b = s.turn (decide (b % 2 = 1)) := by
  unfold Tm.wr Tm.turn
  rw [if_neg (by omega), if_pos rfl]
  by_cases h : b % 2 = 1
  · simp [h]
  · simp [h]
theorem twrite_any (h : TM w g T cs o s) (reg b : Int) (b0 : 0 ≤ b) (b1 : b ≤ 255) :
    Calls Try.prog 19 #[.pointer (some ⟨g, o, none⟩), .int .i64 reg, .int .u8 b] w (TmR (.tuple #[]) g T cs o (s.wr reg b) w) := by
  have hz := h.2.1
  have hk := h.2.2
  have f2 := h.1.frozen (o + 2)
  have H := Lib.hid h
  have HZ := Lib.hid hz
  have HK := Lib.hid hk
  clear h hz hk
  by_cases h0 : reg = 0
  · subst h0
    have e : s.wr 0 b = ⟨s.gone, s.c, (b % 128).toNat, s.on⟩ := by unfold Tm.wr; rw [if_pos rfl]
    rw [e]
    have i1 : ((b % 128).toNat : Int) = b % 128 := by omega
    have c2 := H.out.cells.2.2.1
    obtain ⟨p1, p2⟩ := H.out.put (tmPut_r HZ.out (b % 128).toNat) (s' := ⟨s.gone, s.c, (b % 128).toNat, s.on⟩) ⟨HK.out.1, HK.out.2.1, by dsimp only; omega⟩
    rw [i1] at p1 p2
    have P1 := Lib.hid p1
    have P2 := Lib.hid p2
    clear e i1 p1 p2
    go_enter Try.func19, Try.ntmps19
    go_wp2
    first | go_end0 | refine bodyPost_ret (results_none rfl _ _ _) rfl ?_
    exact ⟨rfl, P1.out, P2.out⟩
  · by_cases h1 : reg = 1
    · subst h1
      rw [tm_wr, ← bit0_eq b0 b1]
      go_enter Try.func19, Try.ntmps19
      go_wp2_with fail
      refine (bit_any _ _ _).mono ?_
      rintro e w' ⟨rfl, rfl⟩
      go_wp2_with fail
      refine (tturn_any H.out _).mono ?_
      rintro e w' ⟨rfl, q1, q2⟩
      go_wp2
      first | go_end0 | refine bodyPost_ret (results_none rfl _ _ _) rfl ?_
      exact ⟨rfl, q1, q2⟩
    · have e : s.wr reg b = s := by unfold Tm.wr; rw [if_neg h0, if_neg h1]
      rw [e]
      have n0 : (reg == 0) = false := by simpa using h0
      have n1 : (reg == 1) = false := by simpa using h1
      clear e
      go_enter Try.func19, Try.ntmps19
      go_wp2
      first | go_end0 | refine bodyPost_ret (results_none rfl _ _ _) rfl ?_
      exact ⟨rfl, H.out, Kp.refl _ _⟩
/-- How many master clocks are left till it is over. -/
def Tm.till (s : Tm) : Value := if s.on = true then .tuple #[.int .i64 (3072 - s.gone + 3072 * s.c), .bool true] else .tuple #[.int .i64 0, .bool false]
set_option maxHeartbeats 1000000 in
theorem tuntil_any (h : TM w g T cs o s) :
    Calls Try.prog 21 #[.pointer (some ⟨g, o, none⟩)] w fun e w' => e = .returned s.till ∧ Kp [] w w' := by
  obtain ⟨k0, k1, k2⟩ := h.2.2
  have c1 := h.cells.2.1
  have H := Lib.hid h
  clear h
  by_cases hon : s.on = true
  · have e : s.till = .tuple #[.int .i64 (3072 - s.gone + 3072 * s.c), .bool true] := by unfold Tm.till; rw [if_pos hon]
    rw [e]
    have HO := Lib.hid hon
    clear e hon
    go_enter Try.func21, Try.ntmps21
    go_wp2_with fail
    refine (ton_any H.out).mono ?_
    rw [HO.out]
    rintro e w' ⟨rfl, rfl⟩
    go_wp2_with fail
    go_quiet ((go_at_call 18; exact Calls.quiet_of_same ((tleft_any (T := T) (cs := cs) (s := s) (by exact H.out)).mono fun _ _ h => ⟨h.1, h.2.symm⟩)))
    go_wp2_with fail
    first | go_ret2 | go_ret
    exact ⟨rfl, (Kp.refl _ _).drewN _⟩
  · have e : s.till = .tuple #[.int .i64 0, .bool false] := by unfold Tm.till; rw [if_neg hon]
    rw [e]
    have hf : s.on = false := by simpa using hon
    have HO := Lib.hid hf
    clear e hf hon
    go_enter Try.func21, Try.ntmps21
    go_wp2_with fail
    refine (ton_any H.out).mono ?_
    rw [HO.out]
    rintro e w' ⟨rfl, rfl⟩
    go_wp2_with fail
    first | go_ret2 | go_ret
    exact ⟨rfl, Kp.refl _ _⟩
def TCloneR (g : Nat) (s : Tm) (w : World) (e : Ending) (w' : World) : Prop :=
  e = .returned (.pointer (some ⟨w.heap.size, 0, none⟩)) ∧ TM w' w.heap.size 69 (Array.replicate 4 .nilFunc) 0 s ∧ Below w.heap.size w w'
theorem tclone_any (h : TM w g T cs o s) :
    Calls Try.prog 15 #[.pointer (some ⟨g, o, none⟩)] w (TCloneR g s w) := by
  have hk := h.2.2
  obtain ⟨c0, c1, c2, c3⟩ := h.cells
  have HK := Lib.hid hk
  clear h hk
  go_enter Try.func15, Try.ntmps15
  go_wp2
  go_ret
  exact ⟨rfl, ⟨Blk.new w _ _, by decide, HK.out⟩, (Below.refl _ _).alloc (Nat.le_refl _) _⟩
theorem ttick_any (h : TM w g T cs o s) :
    Calls Try.prog 51 #[.pointer (some ⟨g, o, none⟩)] w (TmR (.bool (decide (s.c = 0))) g T cs o ⟨s.gone, tkS s.r s.c, s.r, s.on⟩ w) := by
  have hz := h.2.1
  obtain ⟨k0, k1, k2⟩ := h.2.2
  obtain ⟨c0, c1, c2, c3⟩ := h.cells
  have f1 := h.1.frozen (o + 1)
  have H := Lib.hid h
  have HZ := Lib.hid hz
  clear h hz
  by_cases h0 : s.c = 0
  · have e : tkS s.r s.c = s.r := by unfold tkS; rw [if_pos h0]
    rw [e, decide_eq_true h0]
    obtain ⟨p1, p2⟩ := H.out.put (tmPut_c HZ.out s.r) ⟨k0, k2, k2⟩
    have P1 := Lib.hid p1
    have P2 := Lib.hid p2
    rw [h0] at c1
    clear e p1 p2 h0 k0 k1 k2 c0 c3
    go_enter Try.func51, Try.ntmps51
    go_wp2
    go_ret
    exact ⟨rfl, P1.out, P2.out⟩
  · have e : tkS s.r s.c = s.c - 1 := by unfold tkS; rw [if_neg h0]
    rw [e, decide_eq_false h0]
    obtain ⟨p1, p2⟩ := H.out.put (tmPut_c HZ.out (s.c - 1)) ⟨k0, by dsimp only; omega, k2⟩
    have i1 : ((s.c - 1 : Nat) : Int) = (s.c : Int) - 1 := by omega
    rw [i1] at p1 p2
    have P1 := Lib.hid p1
    have P2 := Lib.hid p2
    have j0 : (0 : Int) < (s.c : Int) := by omega
    clear e p1 p2 i1 k0 k2 c0 c3
    go_enter Try.func51, Try.ntmps51
    go_wp2
    go_ret
    exact ⟨rfl, P1.out, P2.out⟩
end
end Go.Proofs.Ytbdmpgpdnnjmpaa
