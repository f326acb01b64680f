/-
  Texts of these proofs, one behind the other: Irq7, Irq8.
-/
import Derived.Test.YtndhkdcdhpfajaaGreatKED17
import Derived.Test.YtndhkdcdhpfajaaGreatKED07
namespace Go.Proofs.YtndhkdcdhpfajaaGreat
open Go.RowKit
set_option linter.unusedVariables false
set_option linter.unusedSimpArgs false
set_option maxRecDepth 100000
/-- Who is first. -/
def chI (d : Nat) (t u0 u1 u2 u3 m : Bool) : Int :=
 if u0 = true then 1 else if u1 = true then 2 else if m = false ∧ t = true ∧ d / 4 = 0 then 3 else if m = false ∧ u2 = true ∧ d / 2 % 2 = 0 then 4 else if m = false ∧ u3 = true ∧ d % 2 = 0 then 5 else 0
/-- The bits of those who ask. -/
def stV (t u2 u3 : Bool) : Int := (if u3 = true then 1 else 0) + (if u2 = true then 2 else 0) + (if t = true then 4 else 0)
theorem ch_fin : ∀ (d : Fin 8) (t u0 u1 u2 u3 m : Bool), firstB (d.val : Int) m (askL (askF u0 u1 t u2 u3) 6) = chI d.val t u0 u1 u2 u3 m := by decide +kernel
theorem st_fin : ∀ (t u2 u3 : Bool), stI (askL (askF false false t u2 u3) 6) = stV t u2 u3 := by decide +kernel
theorem of_fin : ∀ (t u2 u3 : Bool), ofTo [u3, u2, t, false, false, false, false, false] 8 = stV t u2 u3 := by decide +kernel
theorem ch_eq {d : Nat} (h : d ≤ 7) (t u0 u1 u2 u3 m : Bool) : firstB (d : Int) m (askL (askF u0 u1 t u2 u3) 6) = chI d t u0 u1 u2 u3 m := ch_fin ⟨d, by omega⟩ t u0 u1 u2 u3 m
section
variable {w : World} {g : Nat} {T : TypeId} {cs : Array Value} {o : Nat} {s : Iq}
theorem qchoose_any (h : IQ w g T cs o s) (u0 u1 u2 u3 m : Bool) :
  Calls Tryz.prog 102 #[.pointer (some ⟨g, o, none⟩), .agg #[.bool u0, .bool u1, .bool u2, .bool u3], .bool m] w fun e w' => e = .returned (.int .u8 (chI s.d s.due u0 u1 u2 u3 m)) ∧ Below w.heap.size w w' := by
 rw [← ch_eq h.2.2]
 exact choose_of (W := w) (fun w' k => qdisable_any (h.keep k h.lt)) (fun w' k => qdue_any (h.keep k h.lt)) (Below.refl _ _) u0 u1 u2 u3 m
theorem qstatus_any (h : IQ w g T cs o s) (u2 u3 : Bool) :
  Calls Tryz.prog 205 #[.pointer (some ⟨g, o, none⟩), .bool u2, .bool u3] w fun e w' => e = .returned (.int .u8 (stV s.due u2 u3)) ∧ Below w.heap.size w w' := by
 rw [← st_fin]
 exact status_of (W := w) (fun w' k => qdue_any (h.keep k h.lt)) (Below.refl _ _) u2 u3
end
/-- The reference's controller. -/
def RQ (w : World) (g : Nat) (s : Iq) : Prop := Blk w g 115 #[.int .u8 s.d, .bool s.due] ∧ s.d ≤ 7
section
variable {w w' : World} {g : Nat} {s : Iq}
theorem RQ.kp {L : List Nat} (h : RQ w g s) (k : Kp L w w') (hL : g ∉ L) : RQ w' g s := ⟨h.1.kp k hL, h.2⟩
theorem RQ.keep {n : Nat} (h : RQ w g s) (k : Below n w w') (hn : g < n) : RQ w' g s := ⟨h.1.below k hn, h.2⟩
def RqR (v : Value) (g : Nat) (s : Iq) (w : World) (e : Ending) (w' : World) : Prop := e = .returned v ∧ RQ w' g s ∧ Kp [g] w w'
theorem rqwrite_any (h : RQ w g s) (reg b : Int) (b0 : 0 ≤ b) (b1 : b ≤ 255) :
  Calls Tryz.prog 130 #[.pointer (some ⟨g, 0, none⟩), .int .i64 reg, .int .u8 b] w (RqR (.tuple #[]) g (s.wr reg b) w) := by
 obtain ⟨hb, hk⟩ := h
 have c0 : w.cell? ⟨g, 0, none⟩ = some (.int .u8 s.d) := hb.cell 0
 have c1 : w.cell? ⟨g, 1, none⟩ = some (.bool s.due) := hb.cell 1
 have f0 := hb.frozen 0
 have f1 := hb.frozen 1
 have HB := Lib.hid hb
 have HK := Lib.hid hk
 clear hb hk
 by_cases h2 : reg = 2
 ·subst h2
  have e : s.wr 2 b = ⟨(b % 8).toNat, s.due⟩ := by unfold Iq.wr; rw [if_pos rfl]
  rw [e]
  have i1 : ((b % 8).toNat : Int) = b % 8 := by omega
  have P1 : Hid (RQ (w.setCell ⟨g, 0, none⟩ (.int .u8 (b % 8))) g ⟨(b % 8).toNat, s.due⟩) := Lib.hid ⟨by rw [show (⟨(b % 8).toNat, s.due⟩ : Iq).d = (b % 8).toNat from rfl, i1]; exact HB.out.set_ 0 _, by dsimp only; omega⟩
  have P2 : Hid (Kp [g] w (w.setCell ⟨g, 0, none⟩ (.int .u8 (b % 8)))) := Lib.hid ((Kp.refl _ _).setCell (.inl (by simp)) _)
  clear e i1
  go_enter Tryz.func130, Tryz.ntmps130
  go_wp2
  first | go_end0 | refine bodyPost_ret (results_none rfl _ _ _) rfl ?_
  exact ⟨rfl, P1.out, P2.out⟩
 ·have n0 : (reg == 2) = false := by simpa using h2
  by_cases h3 : reg = 3
  ·subst h3
   have e : s.wr 3 b = ⟨s.d, false⟩ := by unfold Iq.wr; rw [if_neg (by omega), if_pos rfl]
   rw [e]
   clear e h2 n0
   go_enter Tryz.func130, Tryz.ntmps130
   go_wp2
   first | go_end0 | refine bodyPost_ret (results_none rfl _ _ _) rfl ?_
   exact ⟨rfl, ⟨HB.out.set_ 1 _, HK.out⟩, (Kp.refl _ _).setCell (.inl (by simp)) _⟩
  ·have e : s.wr reg b = s := by unfold Iq.wr; rw [if_neg h2, if_neg h3]
   rw [e]
   have n1 : (reg == 3) = false := by simpa using h3
   clear e
   go_enter Tryz.func130, Tryz.ntmps130
   go_wp2
   first | go_end0 | refine bodyPost_ret (results_none rfl _ _ _) rfl ?_
   exact ⟨rfl, ⟨HB.out, HK.out⟩, Kp.refl _ _⟩
theorem rqstatus_any (h : RQ w g s) (u2 u3 : Bool) :
  Calls Tryz.prog 135 #[.pointer (some ⟨g, 0, none⟩), .bool u2, .bool u3] w fun e w' => e = .returned (.int .u8 (stV s.due u2 u3)) ∧ Below w.heap.size w w' := by
 have c1 : w.cell? ⟨g, 1, none⟩ = some (.bool s.due) := h.1.cell 1
 have hof := of_fin s.due u2 u3
 have HO := Lib.hid hof
 clear h hof
 go_enter Tryz.func135, Tryz.ntmps135
 go_wp2_with fail
 refine (of_any u3 u2 s.due false false false false false w).mono ?_
 rw [HO.out]
 rintro e w1 ⟨rfl, h1⟩
 go_wp2_with fail
 go_ret
 exact ⟨rfl, h1⟩
set_option maxHeartbeats 2000000 in
theorem rqchoose_any (h : RQ w g s) (u0 u1 u2 u3 m : Bool) :
  Calls Tryz.prog 60 #[.pointer (some ⟨g, 0, none⟩), .agg #[.bool u0, .bool u1, .bool u2, .bool u3], .bool m] w fun e w' => e = .returned (.int .u8 (chI s.d s.due u0 u1 u2 u3 m)) ∧ Below w.heap.size w w' := by
 obtain ⟨hb, hk⟩ := h
 obtain ⟨d, due⟩ := s
 have c0 : (w.alloc (.cells #[.bool u0, .bool u1, .bool u2, .bool u3] 88)).cell? ⟨g, 0, none⟩ = some (.int .u8 d) := (hb.alloc _).cell 0
 have c1 : (w.alloc (.cells #[.bool u0, .bool u1, .bool u2, .bool u3] 88)).cell? ⟨g, 1, none⟩ = some (.bool due) := (hb.alloc _).cell 1
 clear hb
 dsimp only at hk ⊢
 have h0 : (d : Int) / 4 = ((d / 4 : Nat) : Int) := by omega
 have h1 : (d : Int) / 2 % 2 = ((d / 2 % 2 : Nat) : Int) := by omega
 have h2 : (d : Int) % 2 = ((d % 2 : Nat) : Int) := by omega
 have h3 : d / 4 < 2 ∧ d / 2 % 2 < 2 ∧ d % 2 < 2 := by omega
 cases u0 with
 | true =>
  have e : chI d due true u1 u2 u3 m = 1 := by unfold chI; simp [*]
  rw [e]
  clear e h0 h1 h2 h3 hk
  go_enter Tryz.func60, Tryz.ntmps60
  go_wp2
  go_ret
  exact ⟨rfl, (Below.refl _ _).alloc (Nat.le_refl _) _⟩
 | false =>
 cases u1 with
 | true =>
  have e : chI d due false true u2 u3 m = 2 := by unfold chI; simp [*]
  rw [e]
  clear e h0 h1 h2 h3 hk
  go_enter Tryz.func60, Tryz.ntmps60
  go_wp2
  go_ret
  exact ⟨rfl, (Below.refl _ _).alloc (Nat.le_refl _) _⟩
 | false =>
 cases m with
 | true =>
  have e : chI d due false false u2 u3 true = 0 := by unfold chI; simp [*]
  rw [e]
  clear e h0 h1 h2 h3 hk
  go_enter Tryz.func60, Tryz.ntmps60
  go_wp2
  go_ret
  exact ⟨rfl, (Below.refl _ _).alloc (Nat.le_refl _) _⟩
 | false =>
 cases due with
 | false =>
  cases u2 with
  | false =>
   cases u3 with
   | false =>
    have e : chI d false false false false false false = 0 := by unfold chI; simp [*]
    rw [e]
    clear e h0 h1 h2 h3 hk
    go_enter Tryz.func60, Tryz.ntmps60
    go_wp2
    go_ret
    exact ⟨rfl, (Below.refl _ _).alloc (Nat.le_refl _) _⟩
   | true =>
    by_cases x1 : d % 2 = 0
    ·have x1' : (d : Int) % 2 = 0 := by omega
     have e : chI d false false false false true false = 5 := by unfold chI; simp [*]
     rw [e]
     clear e h0 h1 h2 h3 hk
     go_enter Tryz.func60, Tryz.ntmps60
     go_wp2
     go_ret
     exact ⟨rfl, (Below.refl _ _).alloc (Nat.le_refl _) _⟩
    ·have x1' : (d : Int) % 2 = 1 := by omega
     have e : chI d false false false false true false = 0 := by unfold chI; simp [*]
     rw [e]
     clear e h0 h1 h2 h3 hk
     go_enter Tryz.func60, Tryz.ntmps60
     go_wp2
     go_ret
     exact ⟨rfl, (Below.refl _ _).alloc (Nat.le_refl _) _⟩
  | true =>
   by_cases x2 : d / 2 % 2 = 0
   ·have x2' : (d : Int) / 2 % 2 = 0 := by omega
    have e : chI d false false false true u3 false = 4 := by unfold chI; simp [*]
    rw [e]
    clear e h0 h1 h2 h3 hk
    go_enter Tryz.func60, Tryz.ntmps60
    go_wp2
    go_ret
    exact ⟨rfl, (Below.refl _ _).alloc (Nat.le_refl _) _⟩
   ·have x2' : (d : Int) / 2 % 2 = 1 := by omega
    cases u3 with
    | false =>
     have e : chI d false false false true false false = 0 := by unfold chI; simp [*]
     rw [e]
     clear e h0 h1 h2 h3 hk
     go_enter Tryz.func60, Tryz.ntmps60
     go_wp2
     go_ret
     exact ⟨rfl, (Below.refl _ _).alloc (Nat.le_refl _) _⟩
    | true =>
     by_cases x1 : d % 2 = 0
     ·have x1' : (d : Int) % 2 = 0 := by omega
      have e : chI d false false false true true false = 5 := by unfold chI; simp [*]
      rw [e]
      clear e h0 h1 h2 h3 hk
      go_enter Tryz.func60, Tryz.ntmps60
      go_wp2
      go_ret
      exact ⟨rfl, (Below.refl _ _).alloc (Nat.le_refl _) _⟩
     ·have x1' : (d : Int) % 2 = 1 := by omega
      have e : chI d false false false true true false = 0 := by unfold chI; simp [*]
      rw [e]
      clear e h0 h1 h2 h3 hk
      go_enter Tryz.func60, Tryz.ntmps60
      go_wp2
      go_ret
      exact ⟨rfl, (Below.refl _ _).alloc (Nat.le_refl _) _⟩
 | true =>
  by_cases x4 : d / 4 = 0
  ·have x4' : (d : Int) / 4 = 0 := by omega
   have e : chI d true false false u2 u3 false = 3 := by unfold chI; simp [*]
   rw [e]
   clear e h0 h1 h2 h3 hk
   go_enter Tryz.func60, Tryz.ntmps60
   go_wp2
   go_ret
   exact ⟨rfl, (Below.refl _ _).alloc (Nat.le_refl _) _⟩
  ·have x4' : (d : Int) / 4 = 1 := by omega
   cases u2 with
   | false =>
    cases u3 with
    | false =>
     have e : chI d true false false false false false = 0 := by unfold chI; simp [*]
     rw [e]
     clear e h0 h1 h2 h3 hk
     go_enter Tryz.func60, Tryz.ntmps60
     go_wp2
     go_ret
     exact ⟨rfl, (Below.refl _ _).alloc (Nat.le_refl _) _⟩
    | true =>
     by_cases x1 : d % 2 = 0
     ·have x1' : (d : Int) % 2 = 0 := by omega
      have e : chI d true false false false true false = 5 := by unfold chI; simp [*]
      rw [e]
      clear e h0 h1 h2 h3 hk
      go_enter Tryz.func60, Tryz.ntmps60
      go_wp2
      go_ret
      exact ⟨rfl, (Below.refl _ _).alloc (Nat.le_refl _) _⟩
     ·have x1' : (d : Int) % 2 = 1 := by omega
      have e : chI d true false false false true false = 0 := by unfold chI; simp [*]
      rw [e]
      clear e h0 h1 h2 h3 hk
      go_enter Tryz.func60, Tryz.ntmps60
      go_wp2
      go_ret
      exact ⟨rfl, (Below.refl _ _).alloc (Nat.le_refl _) _⟩
   | true =>
    by_cases x2 : d / 2 % 2 = 0
    ·have x2' : (d : Int) / 2 % 2 = 0 := by omega
     have e : chI d true false false true u3 false = 4 := by unfold chI; simp [*]
     rw [e]
     clear e h0 h1 h2 h3 hk
     go_enter Tryz.func60, Tryz.ntmps60
     go_wp2
     go_ret
     exact ⟨rfl, (Below.refl _ _).alloc (Nat.le_refl _) _⟩
    ·have x2' : (d : Int) / 2 % 2 = 1 := by omega
     cases u3 with
     | false =>
      have e : chI d true false false true false false = 0 := by unfold chI; simp [*]
      rw [e]
      clear e h0 h1 h2 h3 hk
      go_enter Tryz.func60, Tryz.ntmps60
      go_wp2
      go_ret
      exact ⟨rfl, (Below.refl _ _).alloc (Nat.le_refl _) _⟩
     | true =>
      by_cases x1 : d % 2 = 0
      ·have x1' : (d : Int) % 2 = 0 := by omega
       have e : chI d true false false true true false = 5 := by unfold chI; simp [*]
       rw [e]
       clear e h0 h1 h2 h3 hk
       go_enter Tryz.func60, Tryz.ntmps60
       go_wp2
       go_ret
       exact ⟨rfl, (Below.refl _ _).alloc (Nat.le_refl _) _⟩
      ·have x1' : (d : Int) % 2 = 1 := by omega
       have e : chI d true false false true true false = 0 := by unfold chI; simp [*]
       rw [e]
       clear e h0 h1 h2 h3 hk
       go_enter Tryz.func60, Tryz.ntmps60
       go_wp2
       go_ret
       exact ⟨rfl, (Below.refl _ _).alloc (Nat.le_refl _) _⟩
end
end Go.Proofs.YtndhkdcdhpfajaaGreat
namespace Go.Proofs.YtndhkdcdhpfajaaGreat
open Go.RowKit
set_option linter.unusedVariables false
set_option linter.unusedSimpArgs false
set_option maxRecDepth 100000
theorem inI_no {k : Int} (h : ¬ (1 ≤ k ∧ k ≤ 5)) : inI k 1 = false := decide_eq_false h
theorem goes_no {k : Int} (w : World) (h : ¬ (1 ≤ k ∧ k ≤ 5)) :
  Calls Tryz.prog 77 #[.int .u8 k] w fun e w' => e = .returned (.tuple #[.int .u16 0, .bool false]) ∧ w = w' := by
 have hin := inI_no h
 clear h
 go_enter Tryz.func77, Tryz.ntmps77
 go_wp2_with (go_at_call 136; refine (within_v hin).mono ?_; rintro e w' ⟨rfl, rfl⟩)
 go_ret2
 exact ⟨rfl, rfl⟩
theorem goes_yes (k : Nat) (w : World) (h : 1 ≤ k ∧ k ≤ 5) :
  Calls Tryz.prog 77 #[.int .u8 k] w fun e w' => e = .returned (.tuple #[.int .u16 (65536 - 2 * k), .bool true]) ∧ w = w' := by
 have hin : inI k 1 = true := decide_eq_true (by omega)
 have : k = 1 ∨ k = 2 ∨ k = 3 ∨ k = 4 ∨ k = 5 := by omega
 clear h
 rcases this with rfl | rfl | rfl | rfl | rfl
 all_goals
  go_enter Tryz.func77, Tryz.ntmps77
  go_wp2_with (go_at_call 136; refine (within_v hin).mono ?_; rintro e w' ⟨rfl, rfl⟩)
  go_ret2
  exact ⟨rfl, rfl⟩
/-- A controller by itself, whatever was there ahead being kept. -/
def QB (B : Nat) (W : World) (g : Nat) (s : Iq) (w : World) : Prop := IQ w g 96 (Array.replicate 2 .nilFunc) 0 s ∧ Below B W w ∧ B ≤ w.heap.size ∧ B ≤ g
section
variable {B g : Nat} {W w w' : World} {s s' : Iq}
theorem QB.on (h : QB B W g s w) (k : Below w.heap.size w w') : QB B W g s w' := ⟨h.1.keep k h.1.lt, h.2.1.trans (k.mono h.2.2.1), Nat.le_trans h.2.2.1 k.size, h.2.2.2⟩
theorem QB.go (h : QB B W g s w) (h1 : IQ w' g 96 (Array.replicate 2 .nilFunc) 0 s') (k : Kp [g] w w') : QB B W g s' w' := ⟨h1, k.onto h.2.1 h.2.2.1 (by simpa using h.2.2.2), Nat.le_trans h.2.2.1 k.size, h.2.2.2⟩
theorem QB.kp0 (h : QB B W g s w) (k : Kp [] w w') : QB B W g s w' := ⟨h.1.kp k (by simp), k.onto h.2.1 h.2.2.1 (by simp), Nat.le_trans h.2.2.1 k.size, h.2.2.2⟩
end
section
variable {w : World} {g : Nat} {T : TypeId} {cs : Array Value} {o : Nat} {s : Iq}
end
end Go.Proofs.YtndhkdcdhpfajaaGreat
