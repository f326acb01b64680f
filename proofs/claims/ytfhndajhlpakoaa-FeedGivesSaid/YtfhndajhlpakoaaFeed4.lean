/-
  Feeds: Left, Taken, Next, Clone; all of them of nil.
-/
import Derived.Test.YtfhndajhlpakoaaFeed3
namespace Go.Proofs.Ytfhndajhlpakoaa
open Go.RowKit
set_option linter.unusedVariables false
set_option maxRecDepth 100000
section
variable {w : World} {g cb n : Nat} {z : Nat → Int} {t : Int}
set_option maxHeartbeats 1000000 in
theorem left_any (h : FD w g cb n z t) :
    Calls Try.prog 33 #[.pointer (some ⟨g, 0, none⟩)] w (FedR (.int .i64 n) g cb n z t [cb] w) := by
  have H := Lib.hid h
  clear h
  go_enter Try.func33, Try.ntmps33
  go_wp2_with fail
  refine (take0_any H.out).mono ?_
  rintro e w1 ⟨A, cap, rfl, h1, h2, h3⟩
  have H1 := Lib.hid h1
  clear h1
  go_wp2
  go_ret
  exact ⟨rfl, h2, h3⟩
theorem taken_any (h : FD w g cb n z t) :
    Calls Try.prog 35 #[.pointer (some ⟨g, 0, none⟩)] w fun e w' => e = .returned (.int .i64 t) ∧ w = w' := by
  have c1 : w.cell? ⟨g, 1, none⟩ = some (.int .i64 t) := h.1.cell 1
  clear h
  go_enter Try.func35, Try.ntmps35
  go_wp2
  go_ret
  exact ⟨rfl, rfl⟩
theorem FD.count {g cb n : Nat} {z : Nat → Int} {t : Int} (h : FD w g cb n z t) (u : Int) : FD (w.setCell ⟨g, 1, none⟩ (.int .i64 u)) g cb n z u ∧ Kp [g] w (w.setCell ⟨g, 1, none⟩ (.int .i64 u)) := by
  obtain ⟨hg, v, hc, hs⟩ := h
  have kp : Kp [g] w (w.setCell ⟨g, 1, none⟩ (.int .i64 u)) := (Kp.refl _ _).setCell (.inl (by simp)) _
  have hn : ∀ x ∈ [g], ∃ t cs, Blk w x t cs ∧ 5 ≠ t := fun x hx => by
    obtain rfl : x = g := by simpa using hx
    exact ⟨_, _, hg, by decide⟩
  have hne : cb ∉ [g] := by simpa using hc.ne_ hg (by decide)
  exact ⟨⟨hg.set_ 1 _, v, hc.kp kp hne, hs.kp kp hn⟩, kp⟩
set_option maxHeartbeats 1000000 in
theorem next_any (h : FD w g cb n z t) (h0 : 0 ≤ t) (h1 : t ≤ 1000000000) :
    Calls Try.prog 36 #[.pointer (some ⟨g, 0, none⟩)] w (FedR (.int .u8 (peekI n z 0)) g cb (n - 1) (fun i => z (1 + i)) (t + 1) [g, cb] w) := by
  have H := Lib.hid h
  clear h
  obtain ⟨b, hb⟩ : ∃ b, peekI n z 0 = b := ⟨_, rfl⟩
  rw [hb]
  have HB := Lib.hid hb
  clear hb
  go_enter Try.func36, Try.ntmps36
  go_wp2_with fail
  refine (peek_any (k := 0) H.out).mono ?_
  rintro e w1 ⟨rfl, q1, q2⟩
  rw [HB.out]
  have Q1 := Lib.hid q1
  clear q1
  go_wp2_with fail
  refine (take_any (k := 1) Q1.out (by omega)).mono ?_
  rintro e w2 ⟨A, cap, rfl, _, r1, r2⟩
  have c1 : w2.cell? ⟨g, 1, none⟩ = some (.int .i64 t) := r1.1.cell 1
  have f1 : w2.frozen? ⟨g, 1, none⟩ = false := r1.1.frozen 1
  have R1 := Lib.hid r1
  clear r1
  go_wp2
  go_ret
  obtain ⟨s1, s2⟩ := R1.out.count (t + 1)
  refine ⟨rfl, s1, ((q2.mono ?_).trans (r2.mono (M := [g, cb]) ?_) ?_).trans (s2.mono (M := [g, cb]) ?_) ?_⟩ <;> simp
end
section
variable (w : World)
theorem peek_nil (k : Int) (h : k = 0) : Calls Try.prog 56 #[.pointer none, .int .i64 k] w fun e w' => e = .returned (.int .u8 255) ∧ w = w' := by
  subst h
  go_enter Try.func56, Try.ntmps56
  go_wp2_with (go_at_call 60; refine (take_nil _ _).mono ?_; rintro e w' ⟨rfl, rfl⟩)
  go_ret
  exact ⟨rfl, rfl⟩
theorem left_nil : Calls Try.prog 33 #[.pointer none] w fun e w' => e = .returned (.int .i64 0) ∧ w = w' := by
  go_enter Try.func33, Try.ntmps33
  go_wp2_with (go_at_call 60; refine (take_nil _ _).mono ?_; rintro e w' ⟨rfl, rfl⟩)
  go_ret
  exact ⟨rfl, rfl⟩
theorem taken_nil : Calls Try.prog 35 #[.pointer none] w fun e w' => e = .returned (.int .i64 0) ∧ w = w' := by
  go_enter Try.func35, Try.ntmps35
  go_wp2
  go_ret
  exact ⟨rfl, rfl⟩
theorem next_nil : Calls Try.prog 36 #[.pointer none] w fun e w' => e = .returned (.int .u8 255) ∧ w = w' := by
  go_enter Try.func36, Try.ntmps36
  go_wp2_with (go_at_call 56; refine (peek_nil _ 0 rfl).mono ?_; rintro e w' ⟨rfl, rfl⟩)
  go_ret
  exact ⟨rfl, rfl⟩
theorem fclone_nil : Calls Try.prog 31 #[.pointer none] w fun e w' => e = .returned (.pointer none) ∧ w = w' := by
  go_enter Try.func31, Try.ntmps31
  go_wp2
  go_ret
  exact ⟨rfl, rfl⟩
end
def FCloneR (g cb n : Nat) (z : Nat → Int) (t : Int) (w : World) (e : Ending) (w' : World) : Prop :=
  ∃ g2 cb2, e = .returned (.pointer (some ⟨g2, 0, none⟩)) ∧ w.heap.size ≤ g2 ∧ w.heap.size ≤ cb2 ∧ FD w' g2 cb2 n z t ∧ FD w' g cb n z t ∧ Kp [cb] w w'
set_option maxHeartbeats 1000000 in
theorem fclone_any {w : World} {g cb n : Nat} {z : Nat → Int} {t : Int} (h : FD w g cb n z t) (hn : n ≤ 140737488355328) :
    Calls Try.prog 31 #[.pointer (some ⟨g, 0, none⟩)] w (FCloneR g cb n z t w) := by
  have H := Lib.hid h
  clear h
  go_enter Try.func31, Try.ntmps31
  go_wp2_with fail
  refine (take0_any H.out).mono ?_
  rintro e w1 ⟨A, cap, rfl, q1, q2, q3⟩
  have Q1 := Lib.hid q1
  have Q2 := Lib.hid q2
  clear q1 q2
  go_wp2_with fail
  have sA : (A = none → n = 0 ∧ cap = 0) ∧ IRow w1 .u8 A n z := by
    obtain ⟨_, _, q, a, b, R, _, hA⟩ := Q1.out
    cases q
    exact ⟨hA, R⟩
  refine (new_any A n cap z sA.1 hn sA.2).mono ?_
  clear sA
  rintro e w2 ⟨g2, cb2, rfl, r1, r2, r3, r4, r5, r6⟩
  have c1 : w2.cell? ⟨g, 1, none⟩ = some (.int .i64 t) := (Q2.out.keep r6).1.cell 1
  have f1 : w2.frozen? ⟨g2, 1, none⟩ = false := r5.1.frozen 1
  have l1 : w2.cell? ⟨g2, 1, none⟩ = some (.int .i64 0) := r5.1.cell 1
  have R5 := Lib.hid r5
  clear r5
  go_wp2
  go_ret
  obtain ⟨s1, s2⟩ := R5.out.count t
  have sz := q3.size
  have hg1 : g < w1.heap.size := Q2.out.1.lt
  have hc1 : cb < w1.heap.size := by obtain ⟨_, v, hc, _⟩ := Q2.out; exact hc.lt
  refine ⟨g2, cb2, rfl, by omega, by omega, s1, ?_, ?_⟩
  · refine (Q2.out.keep r6).kp s2 (fun x hx => ?_) ?_ ?_
    · obtain rfl : x = g2 := by simpa using hx
      exact ⟨_, _, R5.out.1, by decide⟩
    · simp; omega
    · simp; omega
  · refine (q3.trans (Kp.of_below r6 (L := [])) (by simp)).trans s2 ?_
    intro x hx
    obtain rfl : x = g2 := by simpa using hx
    exact .inr (by omega)
end Go.Proofs.Ytfhndajhlpakoaa
