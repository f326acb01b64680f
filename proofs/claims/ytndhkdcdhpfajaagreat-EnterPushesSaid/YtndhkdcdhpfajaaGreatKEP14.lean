/-
  Texts of these proofs, one behind the other: Irq1, Irq2.
-/
import Derived.Test.YtndhkdcdhpfajaaGreatKEP04
import Derived.Test.YtndhkdcdhpfajaaGreatKEP12
import Derived.Test.YtndhkdcdhpfajaaGreatKEP13
import Derived.BigQuiet
import Derived.Deep.QuietTactic
namespace Go.Proofs.YtndhkdcdhpfajaaGreat
open Go.RowKit
set_option linter.unusedVariables false
set_option linter.unusedSimpArgs false
set_option maxRecDepth 100000
/-- What is disabled, and whether the timer asks. -/
structure Iq where
  d : Nat
  due : Bool
def Iq.wr (s : Iq) (reg b : Int) : Iq := if reg = 2 then ⟨(b % 8).toNat, s.due⟩ else if reg = 3 then ⟨s.d, false⟩ else s
theorem Iq.wr_ok {s : Iq} (h : s.d ≤ 7) (reg b : Int) : (s.wr reg b).d ≤ 7 := by
  unfold Iq.wr
  split
  · dsimp only; omega
  · split <;> exact h
/-- The cells of a controller, laid at place o. -/
def iqPut (cs : Array Value) (o : Nat) (s : Iq) : Array Value := (cs.setIfInBounds o (.int .u8 s.d)).setIfInBounds (o + 1) (.bool s.due)
section
variable {cs : Array Value} {o : Nat} {s : Iq}
theorem iqPut_size : (iqPut cs o s).size = cs.size := by simp [iqPut]
theorem iqPut_at (i : Nat) (h : o + 2 ≤ cs.size) : (iqPut cs o s)[i]? = if i = o then some (.int .u8 s.d) else if i = o + 1 then some (.bool s.due) else cs[i]? := by
  unfold iqPut
  simp only [Array.getElem?_setIfInBounds, Array.size_setIfInBounds]
  by_cases e0 : i = o
  · subst e0; simp; omega
  by_cases e1 : i = o + 1
  · subst e1; simp; omega
  rw [if_neg (by omega), if_neg (by omega), if_neg e0, if_neg e1]
theorem iqPut_d (h : o + 2 ≤ cs.size) (x : Nat) : (iqPut cs o s).setIfInBounds o (.int .u8 x) = iqPut cs o ⟨x, s.due⟩ := by
  apply Array.ext_getElem?
  intro i
  rw [Array.getElem?_setIfInBounds, iqPut_at i h, iqPut_at i h, iqPut_size]
  by_cases e : o = i
  · subst e; simp; omega
  · have e' : ¬ i = o := fun x => e x.symm
    rw [if_neg e]
    simp only [if_neg e']
theorem iqPut_due (h : o + 2 ≤ cs.size) (x : Bool) : (iqPut cs o s).setIfInBounds (o + 1) (.bool x) = iqPut cs o ⟨s.d, x⟩ := by
  apply Array.ext_getElem?
  intro i
  rw [Array.getElem?_setIfInBounds, iqPut_at i h, iqPut_at i h, iqPut_size]
  by_cases e : o + 1 = i
  · subst e; simp; omega
  · have e' : ¬ i = o + 1 := fun x => e x.symm
    rw [if_neg e]
    simp only [if_neg e']
end
/-- At place o of block g, whose other cells are those of cs, there is a controller. -/
def IQ (w : World) (g : Nat) (T : TypeId) (cs : Array Value) (o : Nat) (s : Iq) : Prop := Blk w g T (iqPut cs o s) ∧ o + 2 ≤ cs.size ∧ s.d ≤ 7
section
variable {w w' : World} {g : Nat} {T : TypeId} {cs : Array Value} {o : Nat} {s : Iq}
theorem IQ.kp {L : List Nat} (h : IQ w g T cs o s) (k : Kp L w w') (hL : g ∉ L) : IQ w' g T cs o s := ⟨h.1.kp k hL, h.2⟩
theorem IQ.keep {n : Nat} (h : IQ w g T cs o s) (k : Below n w w') (hn : g < n) : IQ w' g T cs o s := ⟨h.1.below k hn, h.2⟩
theorem IQ.lt (h : IQ w g T cs o s) : g < w.heap.size := h.1.lt
theorem IQ.cells (h : IQ w g T cs o s) : w.cell? ⟨g, o, none⟩ = some (.int .u8 s.d) ∧ w.cell? ⟨g, o + 1, none⟩ = some (.bool s.due) := by
  obtain ⟨hb, hs, _⟩ := h
  refine ⟨?_, ?_⟩ <;> rw [hb.cell, iqPut_at _ hs] <;> simp
theorem IQ.put {x : Value} {k : Nat} {s' : Iq} (h : IQ w g T cs o s) (e : (iqPut cs o s).setIfInBounds k x = iqPut cs o s') (hs : s'.d ≤ 7) : IQ (w.setCell ⟨g, k, none⟩ x) g T cs o s' ∧ Kp [g] w (w.setCell ⟨g, k, none⟩ x) := by
  refine ⟨⟨?_, h.2.1, hs⟩, (Kp.refl _ _).setCell (.inl (by simp)) _⟩
  rw [← e]
  exact h.1.set_ k x
end
/-- What a call on a controller leaves. -/
def IqR (v : Value) (g : Nat) (T : TypeId) (cs : Array Value) (o : Nat) (s : Iq) (w : World) (e : Ending) (w' : World) : Prop := e = .returned v ∧ IQ w' g T cs o s ∧ Kp [g] w w'
section
variable {w : World} {g : Nat} {T : TypeId} {cs : Array Value} {o : Nat} {s : Iq}
theorem qdisable_any (h : IQ w g T cs o s) :
    Calls Tryz.prog 109 #[.pointer (some ⟨g, o, none⟩)] w fun e w' => e = .returned (.int .u8 s.d) ∧ w = w' := by
  obtain ⟨c0, c1⟩ := h.cells
  clear h
  go_enter Tryz.func109, Tryz.ntmps109
  go_wp2
  go_ret
  exact ⟨rfl, rfl⟩
theorem qdue_any (h : IQ w g T cs o s) :
    Calls Tryz.prog 113 #[.pointer (some ⟨g, o, none⟩)] w fun e w' => e = .returned (.bool s.due) ∧ w = w' := by
  obtain ⟨c0, c1⟩ := h.cells
  clear h
  go_enter Tryz.func113, Tryz.ntmps113
  go_wp2
  go_ret
  exact ⟨rfl, rfl⟩
theorem qover_any (h : IQ w g T cs o s) :
    Calls Tryz.prog 181 #[.pointer (some ⟨g, o, none⟩)] w (IqR (.tuple #[]) g T cs o ⟨s.d, true⟩ w) := by
  have hz := h.2.1
  obtain ⟨c0, c1⟩ := h.cells
  have f1 := h.1.frozen (o + 1)
  have H := Lib.hid h
  have HZ := Lib.hid hz
  clear h hz
  go_enter Tryz.func181, Tryz.ntmps181
  go_wp2
  first | go_end0 | refine bodyPost_ret (results_none rfl _ _ _) rfl ?_
  obtain ⟨q1, q2⟩ := H.out.put (iqPut_due HZ.out true) H.out.2.2
  exact ⟨rfl, q1, q2⟩
theorem qwrite_any (h : IQ w g T cs o s) (reg b : Int) (b0 : 0 ≤ b) (b1 : b ≤ 255) :
    Calls Tryz.prog 149 #[.pointer (some ⟨g, o, none⟩), .int .i64 reg, .int .u8 b] w (IqR (.tuple #[]) g T cs o (s.wr reg b) w) := by
  have hz := h.2.1
  obtain ⟨c0, c1⟩ := h.cells
  have f0 := h.1.frozen o
  have f1 := h.1.frozen (o + 1)
  have H := Lib.hid h
  have HZ := Lib.hid hz
  clear h hz
  by_cases h2 : reg = 2
  · subst h2
    have e : s.wr 2 b = ⟨(b % 8).toNat, s.due⟩ := by unfold Iq.wr; rw [if_pos rfl]
    rw [e]
    have i1 : ((b % 8).toNat : Int) = b % 8 := by omega
    obtain ⟨p1, p2⟩ := H.out.put (iqPut_d HZ.out (b % 8).toNat) (s' := ⟨(b % 8).toNat, s.due⟩) (by dsimp only; omega)
    rw [i1] at p1 p2
    have P1 := Lib.hid p1
    have P2 := Lib.hid p2
    clear e i1 p1 p2
    go_enter Tryz.func149, Tryz.ntmps149
    go_wp2
    first | go_end0 | refine bodyPost_ret (results_none rfl _ _ _) rfl ?_
    exact ⟨rfl, P1.out, P2.out⟩
  · by_cases h3 : reg = 3
    · subst h3
      have e : s.wr 3 b = ⟨s.d, false⟩ := by unfold Iq.wr; rw [if_neg (by omega), if_pos rfl]
      rw [e]
      clear e h2
      go_enter Tryz.func149, Tryz.ntmps149
      go_wp2
      first | go_end0 | refine bodyPost_ret (results_none rfl _ _ _) rfl ?_
      obtain ⟨q1, q2⟩ := H.out.put (iqPut_due HZ.out false) H.out.2.2
      exact ⟨rfl, q1, q2⟩
    · have e : s.wr reg b = s := by unfold Iq.wr; rw [if_neg h2, if_neg h3]
      rw [e]
      have n0 : (reg == 2) = false := by simpa using h2
      have n1 : (reg == 3) = false := by simpa using h3
      clear e
      go_enter Tryz.func149, Tryz.ntmps149
      go_wp2
      first | go_end0 | refine bodyPost_ret (results_none rfl _ _ _) rfl ?_
      exact ⟨rfl, H.out, Kp.refl _ _⟩
def QCloneR (s : Iq) (w : World) (e : Ending) (w' : World) : Prop :=
  e = .returned (.pointer (some ⟨w.heap.size, 0, none⟩)) ∧ IQ w' w.heap.size 96 (Array.replicate 2 .nilFunc) 0 s ∧ Below w.heap.size w w'
end
def NewQR (w : World) (e : Ending) (w' : World) : Prop :=
  e = .returned (.pointer (some ⟨w.heap.size, 0, none⟩)) ∧ IQ w' w.heap.size 96 (Array.replicate 2 .nilFunc) 0 ⟨0, false⟩ ∧ Below w.heap.size w w'
theorem qnew_any (w : World) : Calls Tryz.prog 37 #[] w (NewQR w) := by
  go_enter Tryz.func37, Tryz.ntmps37
  go_wp2
  go_ret
  exact ⟨rfl, ⟨Blk.new w _ _, by decide, by decide⟩, (Below.refl _ _).alloc (Nat.le_refl _) _⟩
section
variable (w : World)
theorem qdisable_nil : Calls Tryz.prog 109 #[.pointer none] w fun e w' => e = .returned (.int .u8 0) ∧ w = w' := by
  go_enter Tryz.func109, Tryz.ntmps109
  go_wp2
  go_ret
  exact ⟨rfl, rfl⟩
theorem qdue_nil : Calls Tryz.prog 113 #[.pointer none] w fun e w' => e = .returned (.bool false) ∧ w = w' := by
  go_enter Tryz.func113, Tryz.ntmps113
  go_wp2
  go_ret
  exact ⟨rfl, rfl⟩
theorem qover_nil : Calls Tryz.prog 181 #[.pointer none] w fun e w' => e = .returned (.tuple #[]) ∧ w = w' := by
  go_enter Tryz.func181, Tryz.ntmps181
  go_wp2
  first | go_end0 | refine bodyPost_ret (results_none rfl _ _ _) rfl ?_
  exact ⟨rfl, rfl⟩
theorem qwrite_nil (r b : Int) : Calls Tryz.prog 149 #[.pointer none, .int .i64 r, .int .u8 b] w fun e w' => e = .returned (.tuple #[]) ∧ w = w' := by
  go_enter Tryz.func149, Tryz.ntmps149
  go_wp2
  first | go_end0 | refine bodyPost_ret (results_none rfl _ _ _) rfl ?_
  exact ⟨rfl, rfl⟩
end
end Go.Proofs.YtndhkdcdhpfajaaGreat
namespace Go.Proofs.YtndhkdcdhpfajaaGreat
open Go.RowKit
set_option linter.unusedVariables false
set_option linter.unusedSimpArgs false
set_option maxRecDepth 100000
def inI (k f : Int) : Bool := decide (f ≤ k ∧ k ≤ 5)
theorem within_any (k f : Int) (w : World) :
    Calls Tryz.prog 136 #[.int .u8 k, .int .u8 f] w fun e w' => e = .returned (.bool (inI k f)) ∧ w = w' := by
  unfold inI
  by_cases h1 : f ≤ k
  · by_cases h2 : k ≤ 5
    · rw [decide_eq_true ⟨h1, h2⟩]
      go_enter Tryz.func136, Tryz.ntmps136
      go_wp2
      go_ret
      exact ⟨rfl, rfl⟩
    · rw [decide_eq_false (by omega)]
      have h2' : 5 < k := by omega
      go_enter Tryz.func136, Tryz.ntmps136
      go_wp2
      go_ret
      exact ⟨rfl, rfl⟩
  · rw [decide_eq_false (by omega)]
    have h1' : k < f := by omega
    go_enter Tryz.func136, Tryz.ntmps136
    go_wp2
    go_ret
    exact ⟨rfl, rfl⟩
theorem within_v {k f : Int} {x : Bool} {w : World} (e : inI k f = x) : Calls Tryz.prog 136 #[.int .u8 k, .int .u8 f] w fun e w' => e = .returned (.bool x) ∧ w = w' := e ▸ within_any k f w
/-- The bit of a kind. -/
def kbI (k : Int) : Int := if 3 ≤ k ∧ k ≤ 5 then 5 - k else -1
theorem kbit_any (k : Int) (w : World) (k0 : 0 ≤ k) (k1 : k ≤ 255) :
    Calls Tryz.prog 177 #[.int .u8 k] w fun e w' => e = .returned (.int .i64 (kbI k)) ∧ w = w' := by
  unfold kbI
  by_cases h : 3 ≤ k ∧ k ≤ 5
  · rw [if_pos h]
    have hin : inI k 3 = true := decide_eq_true h
    obtain ⟨h1, h2⟩ := h
    go_enter Tryz.func177, Tryz.ntmps177
    go_wp2_with (go_at_call 136; refine (within_v hin).mono ?_; rintro e w' ⟨rfl, rfl⟩)
    go_ret
    exact ⟨rfl, rfl⟩
  · rw [if_neg h]
    have hin : inI k 3 = false := decide_eq_false h
    clear h
    go_enter Tryz.func177, Tryz.ntmps177
    go_wp2_with (go_at_call 136; refine (within_v hin).mono ?_; rintro e w' ⟨rfl, rfl⟩)
    go_ret
    exact ⟨rfl, rfl⟩
theorem kbit_v {k x : Int} {w : World} (k0 : 0 ≤ k) (k1 : k ≤ 255) (e : kbI k = x) : Calls Tryz.prog 177 #[.int .u8 k] w fun e w' => e = .returned (.int .i64 x) ∧ w = w' := e ▸ kbit_any k w k0 k1
/-- May a kind not come? -/
def barI (d k : Int) (m : Bool) : Bool := decide (3 ≤ k ∧ k ≤ 5) && (m || bitB d (5 - k))
section
variable {w : World} {p : Option Addr} {d : Int}
theorem barred_of (hd : Calls Tryz.prog 109 #[.pointer p] w fun e w' => e = .returned (.int .u8 d) ∧ w = w') (k : Int) (m : Bool) (k0 : 0 ≤ k) (k1 : k ≤ 255) :
    Calls Tryz.prog 153 #[.pointer p, .int .u8 k, .bool m] w fun e w' => e = .returned (.bool (barI d k m)) ∧ w = w' := by
  by_cases h : 3 ≤ k ∧ k ≤ 5
  · have hb : kbI k = 5 - k := by unfold kbI; rw [if_pos h]
    cases m with
    | true =>
      have e : barI d k true = true := by unfold barI; rw [decide_eq_true h]; rfl
      rw [e]
      obtain ⟨h1, h2⟩ := h
      clear e hd
      go_enter Tryz.func153, Tryz.ntmps153
      go_wp2_with (go_at_call 177; refine (kbit_v k0 k1 hb).mono ?_; rintro e w' ⟨rfl, rfl⟩)
      go_ret
      exact ⟨rfl, rfl⟩
    | false =>
      have e : barI d k false = bitB d (5 - k) := by unfold barI; rw [decide_eq_true h]; rfl
      rw [e]
      obtain ⟨h1, h2⟩ := h
      clear e
      go_enter Tryz.func153, Tryz.ntmps153
      go_wp2_with (first | (go_at_call 177; refine (kbit_v k0 k1 hb).mono ?_; rintro e w' ⟨rfl, rfl⟩) | (go_at_call 109; refine hd.mono ?_; rintro e w' ⟨rfl, rfl⟩) | (go_at_call 174; refine (bit_any _ _ _).mono ?_; rintro e w' ⟨rfl, rfl⟩))
      go_ret
      exact ⟨rfl, rfl⟩
  · have e : barI d k m = false := by unfold barI; rw [decide_eq_false h]; rfl
    have hb : kbI k = -1 := by unfold kbI; rw [if_neg h]
    rw [e]
    clear e h hd
    go_enter Tryz.func153, Tryz.ntmps153
    go_wp2_with (go_at_call 177; refine (kbit_v k0 k1 hb).mono ?_; rintro e w' ⟨rfl, rfl⟩)
    go_ret
    exact ⟨rfl, rfl⟩
end
end Go.Proofs.YtndhkdcdhpfajaaGreat
