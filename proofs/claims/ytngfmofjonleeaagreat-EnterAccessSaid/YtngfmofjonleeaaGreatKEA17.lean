/-
  Texts of these proofs, one behind the other: Irq7, Irq8.
-/
import Derived.Test.YtngfmofjonleeaaGreatKEA16
import Derived.Test.YtngfmofjonleeaaGreatKEA07
namespace Go.Proofs.YtngfmofjonleeaaGreat
open Go.RowKit
set_option linter.unusedVariables false
set_option linter.unusedSimpArgs false
set_option maxRecDepth 100000
/-- The bits of those who ask. -/
def stV (t u2 u3 : Bool) : Int := (if u3 = true then 1 else 0) + (if u2 = true then 2 else 0) + (if t = true then 4 else 0)
theorem st_fin : ∀ (t u2 u3 : Bool), stI (askL (askF false false t u2 u3) 6) = stV t u2 u3 := by decide +kernel
theorem of_fin : ∀ (t u2 u3 : Bool), ofTo [u3, u2, t, false, false, false, false, false] 8 = stV t u2 u3 := by decide +kernel
section
variable {w : World} {g : Nat} {T : TypeId} {cs : Array Value} {o : Nat} {s : Iq}
theorem qstatus_any (h : IQ w g T cs o s) (u2 u3 : Bool) :
    Calls Tryz.prog 152 #[.pointer (some ⟨g, o, none⟩), .bool u2, .bool u3] w fun e w' => e = .returned (.int .u8 (stV s.due u2 u3)) ∧ Below w.heap.size w w' := by
  rw [← st_fin]
  exact status_of (W := w) (fun w' k => qdue_any (h.keep k h.lt)) (Below.refl _ _) u2 u3
end
/-- The reference's controller. -/
def RQ (w : World) (g : Nat) (s : Iq) : Prop := Blk w g 98 #[.int .u8 s.d, .bool s.due] ∧ s.d ≤ 7
section
variable {w w' : World} {g : Nat} {s : Iq}
theorem RQ.kp {L : List Nat} (h : RQ w g s) (k : Kp L w w') (hL : g ∉ L) : RQ w' g s := ⟨h.1.kp k hL, h.2⟩
theorem RQ.keep {n : Nat} (h : RQ w g s) (k : Below n w w') (hn : g < n) : RQ w' g s := ⟨h.1.below k hn, h.2⟩
def RqR (v : Value) (g : Nat) (s : Iq) (w : World) (e : Ending) (w' : World) : Prop := e = .returned v ∧ RQ w' g s ∧ Kp [g] w w'
theorem rqwrite_any (h : RQ w g s) (reg b : Int) (b0 : 0 ≤ b) (b1 : b ≤ 255) :
    Calls Tryz.prog 76 #[.pointer (some ⟨g, 0, none⟩), .int .i64 reg, .int .u8 b] w (RqR (.tuple #[]) g (s.wr reg b) w) := by
  obtain ⟨hb, hk⟩ := h
  have c0 : w.cell? ⟨g, 0, none⟩ = some (.int .u8 s.d) := hb.cell 0
  have c1 : w.cell? ⟨g, 1, none⟩ = some (.bool s.due) := hb.cell 1
  have f0 := hb.frozen 0
  have f1 := hb.frozen 1
  have HB := Lib.hid hb
  have HK := Lib.hid hk
  clear hb hk
  by_cases h2 : reg = 2
  · subst h2
    have e : s.wr 2 b = ⟨(b % 8).toNat, s.due⟩ := by unfold Iq.wr; rw [if_pos rfl]
    rw [e]
    have i1 : ((b % 8).toNat : Int) = b % 8 := by omega
    have P1 : Hid (RQ (w.setCell ⟨g, 0, none⟩ (.int .u8 (b % 8))) g ⟨(b % 8).toNat, s.due⟩) := Lib.hid ⟨by rw [show (⟨(b % 8).toNat, s.due⟩ : Iq).d = (b % 8).toNat from rfl, i1]; exact HB.out.set_ 0 _, by dsimp only; omega⟩
    have P2 : Hid (Kp [g] w (w.setCell ⟨g, 0, none⟩ (.int .u8 (b % 8)))) := Lib.hid ((Kp.refl _ _).setCell (.inl (by simp)) _)
    clear e i1
    go_enter Tryz.func76, Tryz.ntmps76
    go_wp2
    first | go_end0 | refine bodyPost_ret (results_none rfl _ _ _) rfl ?_
    exact ⟨rfl, P1.out, P2.out⟩
  · have n0 : (reg == 2) = false := by simpa using h2
    by_cases h3 : reg = 3
    · subst h3
      have e : s.wr 3 b = ⟨s.d, false⟩ := by unfold Iq.wr; rw [if_neg (by omega), if_pos rfl]
      rw [e]
      clear e h2 n0
      go_enter Tryz.func76, Tryz.ntmps76
      go_wp2
      first | go_end0 | refine bodyPost_ret (results_none rfl _ _ _) rfl ?_
      exact ⟨rfl, ⟨HB.out.set_ 1 _, HK.out⟩, (Kp.refl _ _).setCell (.inl (by simp)) _⟩
    · have e : s.wr reg b = s := by unfold Iq.wr; rw [if_neg h2, if_neg h3]
      rw [e]
      have n1 : (reg == 3) = false := by simpa using h3
      clear e
      go_enter Tryz.func76, Tryz.ntmps76
      go_wp2
      first | go_end0 | refine bodyPost_ret (results_none rfl _ _ _) rfl ?_
      exact ⟨rfl, ⟨HB.out, HK.out⟩, Kp.refl _ _⟩
theorem rqstatus_any (h : RQ w g s) (u2 u3 : Bool) :
    Calls Tryz.prog 81 #[.pointer (some ⟨g, 0, none⟩), .bool u2, .bool u3] w fun e w' => e = .returned (.int .u8 (stV s.due u2 u3)) ∧ Below w.heap.size w w' := by
  have c1 : w.cell? ⟨g, 1, none⟩ = some (.bool s.due) := h.1.cell 1
  have hof := of_fin s.due u2 u3
  have HO := Lib.hid hof
  clear h hof
  go_enter Tryz.func81, Tryz.ntmps81
  go_wp2_with fail
  refine (of_any u3 u2 s.due false false false false false w).mono ?_
  rw [HO.out]
  rintro e w1 ⟨rfl, h1⟩
  go_wp2_with fail
  go_ret
  exact ⟨rfl, h1⟩
end
end Go.Proofs.YtngfmofjonleeaaGreat
namespace Go.Proofs.YtngfmofjonleeaaGreat
open Go.RowKit
set_option linter.unusedVariables false
set_option linter.unusedSimpArgs false
set_option maxRecDepth 100000
theorem inI_no {k : Int} (h : ¬ (1 ≤ k ∧ k ≤ 5)) : inI k 1 = false := decide_eq_false h
theorem goes_no {k : Int} (w : World) (h : ¬ (1 ≤ k ∧ k ≤ 5)) :
    Calls Tryz.prog 45 #[.int .u8 k] w fun e w' => e = .returned (.tuple #[.int .u16 0, .bool false]) ∧ w = w' := by
  have hin := inI_no h
  clear h
  go_enter Tryz.func45, Tryz.ntmps45
  go_wp2_with (go_at_call 83; refine (within_v hin).mono ?_; rintro e w' ⟨rfl, rfl⟩)
  go_ret2
  exact ⟨rfl, rfl⟩
theorem goes_yes (k : Nat) (w : World) (h : 1 ≤ k ∧ k ≤ 5) :
    Calls Tryz.prog 45 #[.int .u8 k] w fun e w' => e = .returned (.tuple #[.int .u16 (65536 - 2 * k), .bool true]) ∧ w = w' := by
  have hin : inI k 1 = true := decide_eq_true (by omega)
  have : k = 1 ∨ k = 2 ∨ k = 3 ∨ k = 4 ∨ k = 5 := by omega
  clear h
  rcases this with rfl | rfl | rfl | rfl | rfl
  all_goals
    go_enter Tryz.func45, Tryz.ntmps45
    go_wp2_with (go_at_call 83; refine (within_v hin).mono ?_; rintro e w' ⟨rfl, rfl⟩)
    go_ret2
    exact ⟨rfl, rfl⟩
/-- A controller by itself, whatever was there ahead being kept. -/
def QB (B : Nat) (W : World) (g : Nat) (s : Iq) (w : World) : Prop := IQ w g 79 (Array.replicate 2 .nilFunc) 0 s ∧ Below B W w ∧ B ≤ w.heap.size ∧ B ≤ g
section
variable {B g : Nat} {W w w' : World} {s s' : Iq}
theorem QB.on (h : QB B W g s w) (k : Below w.heap.size w w') : QB B W g s w' := ⟨h.1.keep k h.1.lt, h.2.1.trans (k.mono h.2.2.1), Nat.le_trans h.2.2.1 k.size, h.2.2.2⟩
theorem QB.kp0 (h : QB B W g s w) (k : Kp [] w w') : QB B W g s w' := ⟨h.1.kp k (by simp), k.onto h.2.1 h.2.2.1 (by simp), Nat.le_trans h.2.2.1 k.size, h.2.2.2⟩
end
section
variable {w : World} {g : Nat} {T : TypeId} {cs : Array Value} {o : Nat} {s : Iq}
end
end Go.Proofs.YtngfmofjonleeaaGreat
