/-
  Texts of these proofs, one behind the other: Irq1, Irq2, Tim1, Cart7, Feed1, Feed2, Lat1.
-/
import Derived.Test.YtngfmofjonleeaaGreatKEA05
import Derived.Test.YtngfmofjonleeaaGreatKEA03
import Derived.Test.YtngfmofjonleeaaGreatKEA02
import Derived.BigQuiet
import Derived.Deep.QuietTactic
import Derived.Test.YtngfmofjonleeaaGreatKEA01
import Derived.Deep.AppendLies
import Derived.Laws.CopyRow
import Derived.FnLit
import Derived.Laws.Small
import Derived.Handy
namespace Go.Proofs.YtngfmofjonleeaaGreat
open Go.RowKit
set_option linter.unusedVariables false
set_option linter.unusedSimpArgs false
set_option maxRecDepth 100000
/-- What is disabled, and whether the timer asks. -/
structure Iq where
  d : Nat
  due : Bool
def Iq.wr (s : Iq) (reg b : Int) : Iq := if reg = 2 then ⟨(b % 8).toNat, s.due⟩ else if reg = 3 then ⟨s.d, false⟩ else s
/-- The cells of a controller, laid at place o. -/
def iqPut (cs : Array Value) (o : Nat) (s : Iq) : Array Value := (cs.setIfInBounds o (.int .u8 s.d)).setIfInBounds (o + 1) (.bool s.due)
section
variable {cs : Array Value} {o : Nat} {s : Iq}
theorem iqPut_size : (iqPut cs o s).size = cs.size := by simp [iqPut]
theorem iqPut_at (i : Nat) (h : o + 2 ≤ cs.size) : (iqPut cs o s)[i]? = if i = o then some (.int .u8 s.d) else if i = o + 1 then some (.bool s.due) else cs[i]? := by
  unfold iqPut
  simp only [Array.getElem?_setIfInBounds, Array.size_setIfInBounds]
  by_cases e0 : i = o
  · subst e0; simp; omega
  by_cases e1 : i = o + 1
  · subst e1; simp; omega
  rw [if_neg (by omega), if_neg (by omega), if_neg e0, if_neg e1]
theorem iqPut_d (h : o + 2 ≤ cs.size) (x : Nat) : (iqPut cs o s).setIfInBounds o (.int .u8 x) = iqPut cs o ⟨x, s.due⟩ := by
  apply Array.ext_getElem?
  intro i
  rw [Array.getElem?_setIfInBounds, iqPut_at i h, iqPut_at i h, iqPut_size]
  by_cases e : o = i
  · subst e; simp; omega
  · have e' : ¬ i = o := fun x => e x.symm
    rw [if_neg e]
    simp only [if_neg e']
theorem iqPut_due (h : o + 2 ≤ cs.size) (x : Bool) : (iqPut cs o s).setIfInBounds (o + 1) (.bool x) = iqPut cs o ⟨s.d, x⟩ := by
  apply Array.ext_getElem?
  intro i
  rw [Array.getElem?_setIfInBounds, iqPut_at i h, iqPut_at i h, iqPut_size]
  by_cases e : o + 1 = i
  · subst e; simp; omega
  · have e' : ¬ i = o + 1 := fun x => e x.symm
    rw [if_neg e]
    simp only [if_neg e']
end
/-- At place o of block g, whose other cells are those of cs, there is a controller. -/
def IQ (w : World) (g : Nat) (T : TypeId) (cs : Array Value) (o : Nat) (s : Iq) : Prop := Blk w g T (iqPut cs o s) ∧ o + 2 ≤ cs.size ∧ s.d ≤ 7
section
variable {w w' : World} {g : Nat} {T : TypeId} {cs : Array Value} {o : Nat} {s : Iq}
theorem IQ.kp {L : List Nat} (h : IQ w g T cs o s) (k : Kp L w w') (hL : g ∉ L) : IQ w' g T cs o s := ⟨h.1.kp k hL, h.2⟩
theorem IQ.keep {n : Nat} (h : IQ w g T cs o s) (k : Below n w w') (hn : g < n) : IQ w' g T cs o s := ⟨h.1.below k hn, h.2⟩
theorem IQ.lt (h : IQ w g T cs o s) : g < w.heap.size := h.1.lt
theorem IQ.cells (h : IQ w g T cs o s) : w.cell? ⟨g, o, none⟩ = some (.int .u8 s.d) ∧ w.cell? ⟨g, o + 1, none⟩ = some (.bool s.due) := by
  obtain ⟨hb, hs, _⟩ := h
  refine ⟨?_, ?_⟩ <;> rw [hb.cell, iqPut_at _ hs] <;> simp
theorem IQ.put {x : Value} {k : Nat} {s' : Iq} (h : IQ w g T cs o s) (e : (iqPut cs o s).setIfInBounds k x = iqPut cs o s') (hs : s'.d ≤ 7) : IQ (w.setCell ⟨g, k, none⟩ x) g T cs o s' ∧ Kp [g] w (w.setCell ⟨g, k, none⟩ x) := by
  refine ⟨⟨?_, h.2.1, hs⟩, (Kp.refl _ _).setCell (.inl (by simp)) _⟩
  rw [← e]
  exact h.1.set_ k x
end
/-- What a call on a controller leaves. -/
def IqR (v : Value) (g : Nat) (T : TypeId) (cs : Array Value) (o : Nat) (s : Iq) (w : World) (e : Ending) (w' : World) : Prop := e = .returned v ∧ IQ w' g T cs o s ∧ Kp [g] w w'
section
variable {w : World} {g : Nat} {T : TypeId} {cs : Array Value} {o : Nat} {s : Iq}
theorem qdisable_any (h : IQ w g T cs o s) :
    Calls Tryz.prog 151 #[.pointer (some ⟨g, o, none⟩)] w fun e w' => e = .returned (.int .u8 s.d) ∧ w = w' := by
  obtain ⟨c0, c1⟩ := h.cells
  clear h
  go_enter Tryz.func151, Tryz.ntmps151
  go_wp2
  go_ret
  exact ⟨rfl, rfl⟩
theorem qdue_any (h : IQ w g T cs o s) :
    Calls Tryz.prog 162 #[.pointer (some ⟨g, o, none⟩)] w fun e w' => e = .returned (.bool s.due) ∧ w = w' := by
  obtain ⟨c0, c1⟩ := h.cells
  clear h
  go_enter Tryz.func162, Tryz.ntmps162
  go_wp2
  go_ret
  exact ⟨rfl, rfl⟩
theorem qover_any (h : IQ w g T cs o s) :
    Calls Tryz.prog 121 #[.pointer (some ⟨g, o, none⟩)] w (IqR (.tuple #[]) g T cs o ⟨s.d, true⟩ w) := by
  have hz := h.2.1
  obtain ⟨c0, c1⟩ := h.cells
  have f1 := h.1.frozen (o + 1)
  have H := Lib.hid h
  have HZ := Lib.hid hz
  clear h hz
  go_enter Tryz.func121, Tryz.ntmps121
  go_wp2
  first | go_end0 | refine bodyPost_ret (results_none rfl _ _ _) rfl ?_
  obtain ⟨q1, q2⟩ := H.out.put (iqPut_due HZ.out true) H.out.2.2
  exact ⟨rfl, q1, q2⟩
theorem qwrite_any (h : IQ w g T cs o s) (reg b : Int) (b0 : 0 ≤ b) (b1 : b ≤ 255) :
    Calls Tryz.prog 116 #[.pointer (some ⟨g, o, none⟩), .int .i64 reg, .int .u8 b] w (IqR (.tuple #[]) g T cs o (s.wr reg b) w) := by
  have hz := h.2.1
  obtain ⟨c0, c1⟩ := h.cells
  have f0 := h.1.frozen o
  have f1 := h.1.frozen (o + 1)
  have H := Lib.hid h
  have HZ := Lib.hid hz
  clear h hz
  by_cases h2 : reg = 2
  · subst h2
    have e : s.wr 2 b = ⟨(b % 8).toNat, s.due⟩ := by unfold Iq.wr; rw [if_pos rfl]
    rw [e]
    have i1 : ((b % 8).toNat : Int) = b % 8 := by omega
    obtain ⟨p1, p2⟩ := H.out.put (iqPut_d HZ.out (b % 8).toNat) (s' := ⟨(b % 8).toNat, s.due⟩) (by dsimp only; omega)
    rw [i1] at p1 p2
    have P1 := Lib.hid p1
    have P2 := Lib.hid p2
    clear e i1 p1 p2
    go_enter Tryz.func116, Tryz.ntmps116
    go_wp2
    first | go_end0 | refine bodyPost_ret (results_none rfl _ _ _) rfl ?_
    exact ⟨rfl, P1.out, P2.out⟩
  · by_cases h3 : reg = 3
    · subst h3
      have e : s.wr 3 b = ⟨s.d, false⟩ := by unfold Iq.wr; rw [if_neg (by omega), if_pos rfl]
      rw [e]
      clear e h2
      go_enter Tryz.func116, Tryz.ntmps116
      go_wp2
      first | go_end0 | refine bodyPost_ret (results_none rfl _ _ _) rfl ?_
      obtain ⟨q1, q2⟩ := H.out.put (iqPut_due HZ.out false) H.out.2.2
      exact ⟨rfl, q1, q2⟩
    · have e : s.wr reg b = s := by unfold Iq.wr; rw [if_neg h2, if_neg h3]
      rw [e]
      have n0 : (reg == 2) = false := by simpa using h2
      have n1 : (reg == 3) = false := by simpa using h3
      clear e
      go_enter Tryz.func116, Tryz.ntmps116
      go_wp2
      first | go_end0 | refine bodyPost_ret (results_none rfl _ _ _) rfl ?_
      exact ⟨rfl, H.out, Kp.refl _ _⟩
end
def NewQR (w : World) (e : Ending) (w' : World) : Prop :=
  e = .returned (.pointer (some ⟨w.heap.size, 0, none⟩)) ∧ IQ w' w.heap.size 79 (Array.replicate 2 .nilFunc) 0 ⟨0, false⟩ ∧ Below w.heap.size w w'
theorem qnew_any (w : World) : Calls Tryz.prog 23 #[] w (NewQR w) := by
  go_enter Tryz.func23, Tryz.ntmps23
  go_wp2
  go_ret
  exact ⟨rfl, ⟨Blk.new w _ _, by decide, by decide⟩, (Below.refl _ _).alloc (Nat.le_refl _) _⟩
section
variable (w : World)
end
end Go.Proofs.YtngfmofjonleeaaGreat
namespace Go.Proofs.YtngfmofjonleeaaGreat
open Go.RowKit
set_option linter.unusedVariables false
set_option linter.unusedSimpArgs false
set_option maxRecDepth 100000
def inI (k f : Int) : Bool := decide (f ≤ k ∧ k ≤ 5)
theorem within_any (k f : Int) (w : World) :
    Calls Tryz.prog 83 #[.int .u8 k, .int .u8 f] w fun e w' => e = .returned (.bool (inI k f)) ∧ w = w' := by
  unfold inI
  by_cases h1 : f ≤ k
  · by_cases h2 : k ≤ 5
    · rw [decide_eq_true ⟨h1, h2⟩]
      go_enter Tryz.func83, Tryz.ntmps83
      go_wp2
      go_ret
      exact ⟨rfl, rfl⟩
    · rw [decide_eq_false (by omega)]
      have h2' : 5 < k := by omega
      go_enter Tryz.func83, Tryz.ntmps83
      go_wp2
      go_ret
      exact ⟨rfl, rfl⟩
  · rw [decide_eq_false (by omega)]
    have h1' : k < f := by omega
    go_enter Tryz.func83, Tryz.ntmps83
    go_wp2
    go_ret
    exact ⟨rfl, rfl⟩
theorem within_v {k f : Int} {x : Bool} {w : World} (e : inI k f = x) : Calls Tryz.prog 83 #[.int .u8 k, .int .u8 f] w fun e w' => e = .returned (.bool x) ∧ w = w' := e ▸ within_any k f w
/-- The bit of a kind. -/
def kbI (k : Int) : Int := if 3 ≤ k ∧ k ≤ 5 then 5 - k else -1
theorem kbit_any (k : Int) (w : World) (k0 : 0 ≤ k) (k1 : k ≤ 255) :
    Calls Tryz.prog 161 #[.int .u8 k] w fun e w' => e = .returned (.int .i64 (kbI k)) ∧ w = w' := by
  unfold kbI
  by_cases h : 3 ≤ k ∧ k ≤ 5
  · rw [if_pos h]
    have hin : inI k 3 = true := decide_eq_true h
    obtain ⟨h1, h2⟩ := h
    go_enter Tryz.func161, Tryz.ntmps161
    go_wp2_with (go_at_call 83; refine (within_v hin).mono ?_; rintro e w' ⟨rfl, rfl⟩)
    go_ret
    exact ⟨rfl, rfl⟩
  · rw [if_neg h]
    have hin : inI k 3 = false := decide_eq_false h
    clear h
    go_enter Tryz.func161, Tryz.ntmps161
    go_wp2_with (go_at_call 83; refine (within_v hin).mono ?_; rintro e w' ⟨rfl, rfl⟩)
    go_ret
    exact ⟨rfl, rfl⟩
section
variable {w : World} {p : Option Addr} {d : Int}
end
end Go.Proofs.YtngfmofjonleeaaGreat
namespace Go.Proofs.YtngfmofjonleeaaGreat
open Go.RowKit
set_option linter.unusedVariables false
set_option linter.unusedSimpArgs false
set_option maxRecDepth 100000
/-- The cells of a timer, laid at place o. -/
def tmPut (cs : Array Value) (o : Nat) (s : Tm) : Array Value := (((cs.setIfInBounds o (.int .i64 s.gone)).setIfInBounds (o + 1) (.int .u8 s.c)).setIfInBounds (o + 2) (.int .u8 s.r)).setIfInBounds (o + 3) (.bool s.on)
section
variable {cs : Array Value} {o : Nat} {s : Tm}
theorem tmPut_size : (tmPut cs o s).size = cs.size := by simp [tmPut]
theorem tmPut_at (i : Nat) (h : o + 4 ≤ cs.size) : (tmPut cs o s)[i]? = if i = o then some (.int .i64 s.gone) else if i = o + 1 then some (.int .u8 s.c) else if i = o + 2 then some (.int .u8 s.r) else if i = o + 3 then some (.bool s.on) else cs[i]? := by
  unfold tmPut
  simp only [Array.getElem?_setIfInBounds, Array.size_setIfInBounds]
  by_cases e0 : i = o
  · subst e0; simp; omega
  by_cases e1 : i = o + 1
  · subst e1; simp; omega
  by_cases e2 : i = o + 2
  · subst e2; simp; omega
  by_cases e3 : i = o + 3
  · subst e3; simp; omega
  rw [if_neg (by omega), if_neg (by omega), if_neg (by omega), if_neg (by omega), if_neg e0, if_neg e1, if_neg e2, if_neg e3]
theorem tmPut_gone (h : o + 4 ≤ cs.size) (x : Nat) : (tmPut cs o s).setIfInBounds o (.int .i64 x) = tmPut cs o ⟨x, s.c, s.r, s.on⟩ := by
  apply Array.ext_getElem?
  intro i
  rw [Array.getElem?_setIfInBounds, tmPut_at i h, tmPut_at i h, tmPut_size]
  by_cases e : o = i
  · subst e; simp; omega
  · have e' : ¬ i = o := fun x => e x.symm
    rw [if_neg e]
    simp only [if_neg e']
theorem tmPut_c (h : o + 4 ≤ cs.size) (x : Nat) : (tmPut cs o s).setIfInBounds (o + 1) (.int .u8 x) = tmPut cs o ⟨s.gone, x, s.r, s.on⟩ := by
  apply Array.ext_getElem?
  intro i
  rw [Array.getElem?_setIfInBounds, tmPut_at i h, tmPut_at i h, tmPut_size]
  by_cases e : o + 1 = i
  · subst e; simp; omega
  · have e' : ¬ i = o + 1 := fun x => e x.symm
    rw [if_neg e]
    simp only [if_neg e']
theorem tmPut_r (h : o + 4 ≤ cs.size) (x : Nat) : (tmPut cs o s).setIfInBounds (o + 2) (.int .u8 x) = tmPut cs o ⟨s.gone, s.c, x, s.on⟩ := by
  apply Array.ext_getElem?
  intro i
  rw [Array.getElem?_setIfInBounds, tmPut_at i h, tmPut_at i h, tmPut_size]
  by_cases e : o + 2 = i
  · subst e; simp; omega
  · have e' : ¬ i = o + 2 := fun x => e x.symm
    rw [if_neg e]
    simp only [if_neg e']
theorem tmPut_on (h : o + 4 ≤ cs.size) (x : Bool) : (tmPut cs o s).setIfInBounds (o + 3) (.bool x) = tmPut cs o ⟨s.gone, s.c, s.r, x⟩ := by
  apply Array.ext_getElem?
  intro i
  rw [Array.getElem?_setIfInBounds, tmPut_at i h, tmPut_at i h, tmPut_size]
  by_cases e : o + 3 = i
  · subst e; simp; omega
  · have e' : ¬ i = o + 3 := fun x => e x.symm
    rw [if_neg e]
    simp only [if_neg e']
end
/-- At place o of block g, whose other cells are those of cs, there is a timer. -/
def TM (w : World) (g : Nat) (T : TypeId) (cs : Array Value) (o : Nat) (s : Tm) : Prop := Blk w g T (tmPut cs o s) ∧ o + 4 ≤ cs.size ∧ s.ok
section
variable {w w' : World} {g : Nat} {T : TypeId} {cs : Array Value} {o : Nat} {s : Tm}
theorem TM.kp {L : List Nat} (h : TM w g T cs o s) (k : Kp L w w') (hL : g ∉ L) : TM w' g T cs o s := ⟨h.1.kp k hL, h.2⟩
theorem TM.keep {n : Nat} (h : TM w g T cs o s) (k : Below n w w') (hn : g < n) : TM w' g T cs o s := ⟨h.1.below k hn, h.2⟩
theorem TM.lt (h : TM w g T cs o s) : g < w.heap.size := h.1.lt
theorem TM.cells (h : TM w g T cs o s) : w.cell? ⟨g, o, none⟩ = some (.int .i64 s.gone) ∧ w.cell? ⟨g, o + 1, none⟩ = some (.int .u8 s.c) ∧ w.cell? ⟨g, o + 2, none⟩ = some (.int .u8 s.r) ∧ w.cell? ⟨g, o + 3, none⟩ = some (.bool s.on) := by
  obtain ⟨hb, hs, _⟩ := h
  refine ⟨?_, ?_, ?_, ?_⟩ <;> rw [hb.cell, tmPut_at _ hs] <;> simp
end
section
variable {w : World} {g : Nat} {T : TypeId} {cs : Array Value} {o : Nat} {s : Tm}
theorem tcounter_any (h : TM w g T cs o s) :
    Calls Tryz.prog 133 #[.pointer (some ⟨g, o, none⟩)] w fun e w' => e = .returned (.int .u8 s.c) ∧ w = w' := by
  obtain ⟨c0, c1, c2, c3⟩ := h.cells
  clear h
  go_enter Tryz.func133, Tryz.ntmps133
  go_wp2
  go_ret
  exact ⟨rfl, rfl⟩
theorem ton_any (h : TM w g T cs o s) :
    Calls Tryz.prog 144 #[.pointer (some ⟨g, o, none⟩)] w fun e w' => e = .returned (.bool s.on) ∧ w = w' := by
  obtain ⟨c0, c1, c2, c3⟩ := h.cells
  clear h
  go_enter Tryz.func144, Tryz.ntmps144
  go_wp2
  go_ret
  exact ⟨rfl, rfl⟩
end
section
variable (w : World)
end
def NewTR (w : World) (e : Ending) (w' : World) : Prop :=
  e = .returned (.pointer (some ⟨w.heap.size, 0, none⟩)) ∧ TM w' w.heap.size 68 (Array.replicate 4 .nilFunc) 0 Tm.new ∧ Below w.heap.size w w'
theorem tnew_any (w : World) : Calls Tryz.prog 21 #[] w (NewTR w) := by
  go_enter Tryz.func21, Tryz.ntmps21
  go_wp2
  go_ret
  exact ⟨rfl, ⟨Blk.new w _ _, by decide, Tm.new_ok⟩, (Below.refl _ _).alloc (Nat.le_refl _) _⟩
end Go.Proofs.YtngfmofjonleeaaGreat
namespace Go.Proofs.YtngfmofjonleeaaGreat
open Go.RowKit
set_option linter.unusedVariables false
theorem u8_info' : (Tryz.prog.info? 5).map (fun i => (i.zero, i.size, i.bytes)) = some (some (.int .u8 0), 1, 1) := by kernel_rfl
set_option maxRecDepth 100000 in
/-- Behind a new row of no bytes those of a slice that came in, one at least. -/
theorem clone_run {w : World} {ad : Addr} {n c : Nat} {z : Nat → Int} {t : TypeId} (hn : 0 < n) (hm : n ≤ 140737488355328) (R : IRow w .u8 (some ad) n z) :
    ∃ g cap w', (Builtin.append_ #[34, 34] t #[.slice (some ⟨w.heap.size, 0, none⟩) 0 0, .slice (some ad) n c]).run Tryz.prog (w.alloc (.cells #[] 5)) = .ok (.slice (some ⟨g, 0, none⟩) n cap) w' ∧
      n ≤ cap ∧ cap ≤ maxLen ∧ IRow w' .u8 (some ⟨g, 0, none⟩) n z ∧ (∃ C, Blk w' g 5 C) ∧ Below w.heap.size w w' := by
  obtain ⟨i, hi, hzz⟩ := Option.map_eq_some_iff.1 u8_info'
  simp only [Prod.mk.injEq] at hzz
  obtain ⟨hz, hs, hb⟩ := hzz
  have hB0 : Below w.heap.size w (w.alloc (.cells #[] 5)) := (Below.refl _ _).alloc (Nat.le_refl _) _
  have R0 := R.keep hB0
  have hown0 : (w.alloc (.cells #[] 5)).ownsRow w.heap.size 5 1 (.slice (some ⟨w.heap.size, 0, none⟩) 0 0) 0 [] :=
    ⟨rfl, Or.inr ⟨w.heap.size, 0, #[], rfl, Nat.le_refl _, heap_alloc_new w _, Nat.le_refl _, by unfold maxLen; omega, rfl, rfl⟩⟩
  obtain ⟨v', w', h1, h2, h3, _, _⟩ := run_append_own_at (P := Tryz.prog) (w.alloc (.cells #[] 5)) w.heap.size 34 t 5 i (.int .u8 0) 1 1 Tryz.underlying34 hi hz hs hb rfl (by omega) _ 0 [] hown0 ad n c (bytesOf z n) (by rw [bytesOf_len]; omega)
    (fun j u hu => by
      have hj : j < n := by have := (List.getElem?_eq_some_iff.1 hu).1; rwa [bytesOf_len] at this
      rw [bytesOf_at z n j hj] at hu
      injection hu with hu
      subst hu
      obtain ⟨ae, e, _, hc, _⟩ := R0 j hj
      injection e with e
      subst e
      exact hc)
    (bytesOf_one z n) (by unfold maxLen; omega) (by omega) hB0.size
  rw [Nat.zero_add, List.nil_append] at h2
  obtain ⟨g, cap, rfl, hg, hlt⟩ := h2.form hn
  rcases h2.2 with ⟨h, _⟩ | ⟨g', cap', cur, he, hg', hh, hnc, hcm, _, _⟩
  · cases h
  · injection he with e1 e2 e3
    subst e3
    refine ⟨g, cap, w', h1, hnc, hcm, fun k hk => ⟨_, rfl, hlt, ?_, ?_⟩, ⟨cur, by rw [Option.some.injEq, Addr.mk.injEq] at e1; rw [e1.1]; exact hh⟩, hB0.grown h3 hB0.size (fun j e => by simp [Value.ownBlock] at e; omega)⟩
    · exact h2.cells (g := g) rfl k _ (bytesOf_at z n k hk)
    · obtain ⟨_, _, _, _, hw⟩ := R k hk
      exact hw
set_option maxHeartbeats 1000000 in
theorem clone_any {w : World} (ad : Addr) (n c : Nat) (z : Nat → Int) (hn : 0 < n) (hm : n ≤ 140737488355328) (R : IRow w .u8 (some ad) n z) :
    Calls Tryz.prog 30 #[.slice (some ad) n c] w fun e w' => (∃ g cap, e = .returned (.slice (some ⟨g, 0, none⟩) n cap) ∧ n ≤ cap ∧ cap ≤ maxLen ∧ IRow w' .u8 (some ⟨g, 0, none⟩) n z ∧ ∃ C, Blk w' g 5 C) ∧ Below w.heap.size w w' := by
  have hnil := fun W => Lib.run_eql_slice_nil (P := Tryz.prog) W 34 5 (some ad) n c 0 0 Tryz.underlying34
  obtain ⟨g, cap, w', hrun, h1, h2, h3, h4, h5⟩ := clone_run (t := 34) (c := c) hn hm R
  have H3 := Lib.hid h3
  clear h3 R
  go_enter Tryz.func30, Tryz.ntmps30
  go_wp2_with (at_builtin; refine wpList_append_run rfl (.tmp 5) (.tmp 6) 34 rfl rfl rfl hrun ?_)
  go_ret
  exact ⟨⟨g, cap, rfl, h1, h2, H3.out, h4⟩, h5⟩
end Go.Proofs.YtngfmofjonleeaaGreat
namespace Go.Proofs.YtngfmofjonleeaaGreat
open Go.RowKit
set_option linter.unusedVariables false
/-- A slice of bytes, in blocks of bytes that are older than block cb. -/
def SliceB (w : World) (cb : Nat) (v : Value) (n : Nat) (z : Nat → Int) : Prop := ∃ A cap, v = .slice A n cap ∧ n ≤ cap ∧ cap ≤ maxLen ∧ IRow w .u8 A n z ∧ Typed w A 5 ∧ (A = none → n = 0 ∧ cap = 0) ∧ ∀ ad, A = some ad → ad.block < cb
theorem Typed.old {w : World} {A : Option Addr} {e : TypeId} (h : Typed w A e) : ∀ ad, A = some ad → ad.block < w.heap.size := fun ad x => by
  obtain ⟨C, hC⟩ := h ad x
  exact hC.lt
def CloneR (n : Nat) (z : Nat → Int) (w : World) (e : Ending) (w' : World) : Prop := ∃ v, e = .returned v ∧ SliceB w' w'.heap.size v n z ∧ Below w.heap.size w w'
set_option maxRecDepth 100000 in
theorem clone_run0 {w : World} {ad : Addr} {c : Nat} {t : TypeId} :
    ∃ A cap w', (Builtin.append_ #[34, 34] t #[.slice (some ⟨w.heap.size, 0, none⟩) 0 0, .slice (some ad) 0 c]).run Tryz.prog (w.alloc (.cells #[] 5)) = .ok (.slice A 0 cap) w' ∧
      cap ≤ maxLen ∧ Typed w' A 5 ∧ Below w.heap.size w w' ∧ (A = none → cap = 0) := by
  obtain ⟨i, hi, hzz⟩ := Option.map_eq_some_iff.1 u8_info'
  simp only [Prod.mk.injEq] at hzz
  obtain ⟨hz, hs, hb⟩ := hzz
  have hB0 : Below w.heap.size w (w.alloc (.cells #[] 5)) := (Below.refl _ _).alloc (Nat.le_refl _) _
  have hown0 : (w.alloc (.cells #[] 5)).ownsRow w.heap.size 5 1 (.slice (some ⟨w.heap.size, 0, none⟩) 0 0) 0 [] :=
    ⟨rfl, Or.inr ⟨w.heap.size, 0, #[], rfl, Nat.le_refl _, heap_alloc_new w _, Nat.le_refl _, by unfold maxLen; omega, rfl, rfl⟩⟩
  obtain ⟨v', w', h1, h2, h3, _, _⟩ := run_append_own_at (P := Tryz.prog) (w.alloc (.cells #[] 5)) w.heap.size 34 t 5 i (.int .u8 0) 1 1 Tryz.underlying34 hi hz hs hb rfl (by omega) _ 0 [] hown0 ad 0 c [] rfl
    (fun j u hu => by simp at hu) (by simp) (by unfold maxLen; omega) (by omega) hB0.size
  rcases h2.2 with ⟨rfl, _⟩ | ⟨g', cap', cur, rfl, hg', hh, hnc, hcm, _, _⟩
  · exact ⟨none, 0, w', h1, by unfold maxLen; omega, Typed.none, hB0.grown h3 hB0.size (fun j e => by simp [Value.ownBlock] at e; omega), fun _ => rfl⟩
  · exact ⟨_, cap', w', h1, hcm, fun a x => by cases x; exact ⟨cur, hh⟩, hB0.grown h3 hB0.size (fun j e => by simp [Value.ownBlock] at e; omega), fun h => by cases h⟩
set_option maxHeartbeats 1000000 in
theorem sclone_zero {w : World} (ad : Addr) (c : Nat) (z : Nat → Int) :
    Calls Tryz.prog 30 #[.slice (some ad) 0 c] w (CloneR 0 z w) := by
  have hnil := fun W => Lib.run_eql_slice_nil (P := Tryz.prog) W 34 5 (some ad) 0 c 0 0 Tryz.underlying34
  obtain ⟨A, cap, w', hrun, h1, h2, h5, h6⟩ := clone_run0 (w := w) (ad := ad) (c := c) (t := 34)
  go_enter Tryz.func30, Tryz.ntmps30
  go_wp2_with (at_builtin; refine wpList_append_run rfl (.tmp 5) (.tmp 6) 34 rfl rfl rfl hrun ?_)
  go_ret
  exact ⟨_, rfl, ⟨A, cap, rfl, Nat.zero_le _, h1, fun i hi => absurd hi (by omega), h2, fun x => ⟨rfl, h6 x⟩, h2.old⟩, h5⟩
theorem sclone_nil {w : World} (z : Nat → Int) :
    Calls Tryz.prog 30 #[.slice none 0 0] w (CloneR 0 z w) := by
  have hnil := fun W => Lib.run_eql_slice_nil (P := Tryz.prog) W 34 5 none 0 0 0 0 Tryz.underlying34
  go_enter Tryz.func30, Tryz.ntmps30
  go_wp2
  go_ret
  exact ⟨_, rfl, ⟨none, 0, rfl, Nat.zero_le _, by unfold maxLen; omega, fun i hi => absurd hi (by omega), Typed.none, fun _ => ⟨rfl, rfl⟩, (fun ad x => by cases x)⟩, Below.refl _ _⟩
theorem sclone_any {w : World} (A : Option Addr) (n c : Nat) (z : Nat → Int) (hA : A = none → n = 0 ∧ c = 0) (hm : n ≤ 140737488355328) (R : IRow w .u8 A n z) :
    Calls Tryz.prog 30 #[.slice A n c] w (CloneR n z w) := by
  cases A with
  | none =>
    obtain ⟨rfl, rfl⟩ := hA rfl
    exact sclone_nil z
  | some ad =>
    rcases Nat.eq_zero_or_pos n with rfl | hn
    · exact sclone_zero ad c z
    · refine (clone_any ad n c z hn hm R).mono ?_
      rintro e w' ⟨⟨g, cap, rfl, h1, h2, h3, C, hC⟩, hb⟩
      exact ⟨_, rfl, ⟨some ⟨g, 0, none⟩, cap, rfl, h1, h2, h3, fun a x => by cases x; exact ⟨C, hC⟩, (fun x => by cases x), (fun a x => by cases x; exact hC.lt)⟩, hb⟩
end Go.Proofs.YtngfmofjonleeaaGreat
namespace Go.Proofs.YtngfmofjonleeaaGreat
open Go.RowKit
set_option linter.unusedVariables false
/-- A feed of n bytes that are left, and how many were asked for; what is left stands in block cb. -/
def fcs (cb : Nat) (t : Int) : Array Value := #[.func (.func 95) #[] #[.pointer (some ⟨cb, 0, none⟩)], .int .i64 t]
def FD (w : World) (g cb n : Nat) (z : Nat → Int) (t : Int) : Prop :=
  Blk w g 84 (fcs cb t) ∧ ∃ v, Blk w cb 34 #[v] ∧ SliceB w cb v n z
theorem SliceB.kp {w w' : World} {cb : Nat} {v : Value} {n : Nat} {z : Nat → Int} {L : List Nat} (h : SliceB w cb v n z) (k : Kp L w w') (hL : ∀ x ∈ L, ∃ t cs, Blk w x t cs ∧ 5 ≠ t) : SliceB w' cb v n z := by
  obtain ⟨A, cap, e, h1, h2, h3, h4, h5⟩ := h
  exact ⟨A, cap, e, h1, h2, h3.kp k (h4.off hL), h4.kp k (h4.off hL), h5⟩
theorem FD.kp {w w' : World} {g cb n : Nat} {z : Nat → Int} {t : Int} {L : List Nat} (h : FD w g cb n z t) (k : Kp L w w') (hL : ∀ x ∈ L, ∃ t cs, Blk w x t cs ∧ 5 ≠ t) (h1 : g ∉ L) (h2 : cb ∉ L) : FD w' g cb n z t := by
  obtain ⟨hb, v, hc, hs⟩ := h
  exact ⟨hb.kp k h1, v, hc.kp k h2, hs.kp k hL⟩
theorem SliceB.keep {w w' : World} {cb : Nat} {v : Value} {n : Nat} {z : Nat → Int} (h : SliceB w cb v n z) (k : Below w.heap.size w w') : SliceB w' cb v n z :=
  h.kp (L := []) (Kp.of_below k) (fun x hx => by cases hx)
theorem FD.keep {w w' : World} {g cb n : Nat} {z : Nat → Int} {t : Int} (h : FD w g cb n z t) (k : Below w.heap.size w w') : FD w' g cb n z t :=
  h.kp (L := []) (Kp.of_below k) (fun x hx => by cases hx) (by simp) (by simp)
def GiverR (n : Nat) (z : Nat → Int) (w : World) (e : Ending) (w' : World) : Prop :=
  ∃ cb v, e = .returned (.func (.func 95) #[] #[.pointer (some ⟨cb, 0, none⟩)]) ∧ w.heap.size ≤ cb ∧ Blk w' cb 34 #[v] ∧ SliceB w' cb v n z ∧ Below w.heap.size w w'
set_option maxHeartbeats 1000000 in
theorem giver_any {w : World} (A : Option Addr) (n c : Nat) (z : Nat → Int) (hA : A = none → n = 0 ∧ c = 0) (hm : n ≤ 140737488355328) (R : IRow w .u8 A n z) :
    Calls Tryz.prog 60 #[.slice A n c] w (GiverR n z w) := by
  have hmf : ∀ (fn : Fn) (first cap : Array Value) (w : World), (Instr.makeFunc fn first cap).run Tryz.prog w = .ok (.func fn first cap) w := fun _ _ _ _ => rfl
  have RH := Lib.hid R
  have HA := Lib.hid hA
  clear R hA
  go_enter Tryz.func60, Tryz.ntmps60
  go_wp2_with fail
  refine (sclone_any A n c z HA.out hm RH.out).mono ?_
  rintro e w1 ⟨v, rfl, ⟨A', cap, rfl, hs⟩, hb⟩
  have HS : Hid (SliceB w1 w1.heap.size (.slice A' n cap) n z) := Lib.hid ⟨A', cap, rfl, hs⟩
  clear hs
  have sz := hb.size
  go_wp2
  go_ret
  exact ⟨w1.heap.size, .slice A' n cap, rfl, sz, Blk.new w1 _ _, HS.out.keep ((Below.refl _ _).alloc (Nat.le_refl _) _), hb.alloc sz _⟩
def NewR (n : Nat) (z : Nat → Int) (w : World) (e : Ending) (w' : World) : Prop :=
  ∃ g cb, e = .returned (.pointer (some ⟨g, 0, none⟩)) ∧ w.heap.size ≤ g ∧ w.heap.size ≤ cb ∧ g < w'.heap.size ∧ cb < w'.heap.size ∧ FD w' g cb n z 0 ∧ Below w.heap.size w w'
set_option maxHeartbeats 1000000 in
theorem new_any {w : World} (A : Option Addr) (n c : Nat) (z : Nat → Int) (hA : A = none → n = 0 ∧ c = 0) (hm : n ≤ 140737488355328) (R : IRow w .u8 A n z) :
    Calls Tryz.prog 25 #[.slice A n c] w (NewR n z w) := by
  have RH := Lib.hid R
  have HA := Lib.hid hA
  clear R hA
  go_enter Tryz.func25, Tryz.ntmps25
  go_wp2_with fail
  refine (giver_any A n c z HA.out hm RH.out).mono ?_
  rintro e w1 ⟨cb, v, rfl, h1, h2, h3, hb⟩
  have H2 := Lib.hid h2
  have H3 := Lib.hid h3
  clear h2 h3
  have sz := hb.size
  go_wp2
  go_ret
  have k : Below w1.heap.size w1 (w1.alloc (.cells (fcs cb 0) 84)) := (Below.refl _ _).alloc (Nat.le_refl _) _
  have q := H2.out.lt
  exact ⟨w1.heap.size, cb, rfl, sz, h1, by simp, by simp; omega, ⟨Blk.new w1 _ _, v, H2.out.alloc _, H3.out.keep k⟩, hb.alloc sz _⟩
theorem slice_any (A : Option Addr) (n c e : Nat) (he : e ≤ n) (hc : n ≤ c) (W : World) : (Instr.slice 34 (.slice A n c) (some (.int .i64 (e : Int))) none none).run Tryz.prog W = .ok (.slice (if c = e then A else A.map (·.add e)) (n - e) (c - e)) W := by
  have hs : (sizeOf 5).run Tryz.prog W = .ok 1 W := by kernel_rfl
  have he' : Tryz.prog.elem 34 = 5 := by kernel_rfl
  rw [run_slice_l (P := Tryz.prog) W 34 A n c (by rw [he']; exact Tryz.underlying34) .i64 e (by omega) (by omega)]
  rw [he', hs]
  simp [Result.andThen, sliced]
theorem SliceB.from_ {w : World} {cb : Nat} {A : Option Addr} {n c e : Nat} {z : Nat → Int} (h : SliceB w cb (.slice A n c) n z) (he : e ≤ n) (hc : n ≤ c) : SliceB w cb (.slice (if c = e then A else A.map (·.add e)) (n - e) (c - e)) (n - e) (fun i => z (e + i)) := by
  obtain ⟨A', c', q, h1, h2, h3, h4, h5⟩ := h
  cases q
  refine ⟨_, _, rfl, by omega, by omega, h3.from_ he hc, h4.from_ e c, fun x => ?_, fun ad x => ?_⟩
  · split at x
    · obtain ⟨rfl, rfl⟩ := h5.1 x; exact ⟨by omega, by omega⟩
    · cases A with
      | none => obtain ⟨rfl, rfl⟩ := h5.1 rfl; exact ⟨by omega, by omega⟩
      | some a => cases x
  · split at x
    · exact h5.2 ad x
    · cases A with
      | none => cases x
      | some a =>
        simp only [Option.map_some, Option.some.injEq] at x
        rw [← x, block_of_add]
        exact h5.2 a rfl
/-- What the function that gives answers: what is left behind k more, which is kept in its block. -/
def GaveR (n k cb : Nat) (z : Nat → Int) (w : World) (e : Ending) (w' : World) : Prop :=
  ∃ A cap, e = .returned (.slice A (n - k) cap) ∧ SliceB w' cb (.slice A (n - k) cap) (n - k) (fun i => z (k + i)) ∧ Blk w' cb 34 #[.slice A (n - k) cap] ∧ Kp [cb] w w'
set_option maxHeartbeats 1000000 in
theorem gives_any {w : World} {cb n k : Nat} {z : Nat → Int} {v : Value} (hb : Blk w cb 34 #[v]) (hs : SliceB w cb v n z) (hk : k ≤ 1) :
    Calls Tryz.prog 95 #[.int .i64 k, .pointer (some ⟨cb, 0, none⟩)] w (GaveR n k cb z w) := by
  obtain ⟨A, cap, rfl, h1, h2, h3⟩ := hs
  have HS : Hid (SliceB w cb (.slice A n cap) n z) := Lib.hid ⟨A, cap, rfl, h1, h2, h3⟩
  clear h3
  unfold maxLen at h2
  have c0 := hb.cell 0
  have cf := hb.frozen 0
  simp only [List.getElem?_toArray, List.getElem?_cons_zero] at c0
  have HB := Lib.hid hb
  clear hb
  rcases Nat.lt_or_ge n k with hlt | hge
  · have hsl := fun W => slice_any A n cap n (Nat.le_refl _) h1 W
    have hq := HS.out.from_ (e := n) (Nat.le_refl _) h1
    generalize (if cap = n then A else A.map (·.add n)) = A2 at *
    have HQ := Lib.hid hq
    clear hq
    have hlt' : (n : Int) < k := by omega
    go_enter Tryz.func95, Tryz.ntmps95
    go_wp2
    go_ret
    have hz : n - k = 0 := by omega
    have hz2 : n - n = 0 := by omega
    have kp : Kp [cb] w (w.setCell ⟨cb, 0, none⟩ (.slice A2 0 (cap - n))) := (Kp.refl _ _).setCell (.inl (by simp)) _
    have hb := HB.out
    have hn : ∀ x ∈ [cb], ∃ t cs, Blk w x t cs ∧ 5 ≠ t := fun x hx => by
      obtain rfl : x = cb := by simpa using hx
      exact ⟨_, _, hb, by decide⟩
    have q := HQ.out.kp kp hn
    rw [hz2] at q
    refine ⟨A2, cap - n, by rw [hz]; rfl, ?_, ?_, kp⟩
    · rw [hz]
      obtain ⟨A', c', e, p1, p2, p3, p4, p5⟩ := q
      exact ⟨A', c', e, p1, p2, fun i hi => absurd hi (by omega), p4, p5⟩
    · rw [hz]; exact hb.set_ 0 _
  · have hsl := fun W => slice_any A n cap k hge h1 W
    have hq := HS.out.from_ hge h1
    generalize (if cap = k then A else A.map (·.add k)) = A2 at *
    have HQ := Lib.hid hq
    clear hq
    have hge' : ¬ (n : Int) < k := by omega
    go_enter Tryz.func95, Tryz.ntmps95
    go_wp2
    go_ret
    have kp : Kp [cb] w (w.setCell ⟨cb, 0, none⟩ (.slice A2 (n - k) (cap - k))) := (Kp.refl _ _).setCell (.inl (by simp)) _
    have hb := HB.out
    have hn : ∀ x ∈ [cb], ∃ t cs, Blk w x t cs ∧ 5 ≠ t := fun x hx => by
      obtain rfl : x = cb := by simpa using hx
      exact ⟨_, _, hb, by decide⟩
    exact ⟨A2, cap - k, rfl, HQ.out.kp kp hn, hb.set_ 0 _, kp⟩
end Go.Proofs.YtngfmofjonleeaaGreat
namespace Go.Proofs.YtngfmofjonleeaaGreat
open Go.RowKit
set_option linter.unusedVariables false
/-- A buffer that has b. -/
def LT (w : World) (g : Nat) (b : Int) : Prop := Blk w g 75 #[.int .u8 b]
theorem LT.set {w : World} {g : Nat} {b : Int} (h : LT w g b) (u : Int) : LT (w.setCell ⟨g, 0, none⟩ (.int .u8 u)) g u := Blk.set_ h 0 _
/-- What is read: the bits of the mask are those of b, all others stay. -/
def mixI (v m b : Int) : Int := bits .or .u8 (bits .andNot .u8 v m) (bits .and .u8 b m)
theorem lnew_any (b : Int) (w : World) :
    Calls Tryz.prog 22 #[.int .u8 b] w fun e w' => e = .returned (.pointer (some ⟨w.heap.size, 0, none⟩)) ∧ w' = w.alloc (.cells #[.int .u8 b] 75) := by
  go_enter Tryz.func22, Tryz.ntmps22
  go_wp2
  go_ret
  exact ⟨rfl, rfl⟩
end Go.Proofs.YtngfmofjonleeaaGreat
