/-
  Texts of these proofs, one behind the other: Rb10, Rb12, Rb14, Rb13.
-/
import Derived.Test.YtngfmofjonleeaaGreatKEA37
import Derived.Test.YtngfmofjonleeaaGreatKEA36
import Derived.Test.YtngfmofjonleeaaGreatKEA38
import Derived.Test.YtngfmofjonleeaaGreatKEA34
import Derived.Deep.Cut
import Derived.Deep.CutRange
import Derived.Deep.CutBlock
import Derived.Deep.RegionHeld3
import Derived.Test.YtngfmofjonleeaaGreatKEA28
import Derived.Test.YtngfmofjonleeaaGreatKEA20
import Derived.BigQuiet
import Derived.WalkSmall
import Derived.Deep.QuietTactic
namespace Go.Proofs.YtngfmofjonleeaaGreat
open Go.RowKit
set_option linter.unusedVariables false
set_option linter.unusedSimpArgs false
set_option maxRecDepth 100000
def Bs.rdS1 (s : Bs) (d : Hd) (a kd : Int) : Bs := if s.left = 0 then { s with over := true } else s.rdS d a kd
def Bs.rdV1 (s : Bs) (d : Hd) (a : Int) : Int := if s.left = 0 then 255 else s.rdV d a
def Bs.wrS1 (s : Bs) (d : Hd) (a v kd : Int) : Bs := if s.left = 0 then { s with over := true } else s.wrS d a v kd
section
variable {W w w1 w2 w' : World} {g : Nat} {d : Hd} {P : Bp} {r : Nat} {Q : Rbp} {s s' : Bs} {nx nx' : Bool} {k : Nat}
theorem HC.nn (C : HC W d Q.Z) : d.np ≤ 140737488355328 ∧ d.nv ≤ 140737488355328 ∧ d.nc ≤ 140737488355328 := by have := C.sm; omega
theorem bread1 (h : BU w g d P s) (hr : s.room k) (hk : k ≤ 100000) (a kd : Int) (a0 : 0 ≤ a) (a1 : a ≤ 4294967295) :
    Calls Tryz.prog 36 #[.pointer (some ⟨g, 0, none⟩), .int .u32 a, .int .u8 kd] w (BuR (.int .u8 (s.rdV1 d a)) g d P (s.rdS1 d a kd) w) := by
  obtain ⟨r1, r2, r3, r4⟩ := hr
  have ol := h.ok.2.2.1
  by_cases h0 : s.left = 0
  · have := bread_none h a kd h0
    unfold Bs.rdV1 Bs.rdS1
    rwa [if_pos h0, if_pos h0]
  · have := bread_some h a kd a0 a1 (by omega) (by omega) (by omega) (Hp.lim_mono r3 (by omega)) (by omega)
    unfold Bs.rdV1 Bs.rdS1
    rwa [if_neg h0, if_neg h0]
theorem bwrite1 (h : BU w g d P s) (hr : s.room k) (hk : k ≤ 100000) (a v kd : Int) (a0 : 0 ≤ a) (a1 : a ≤ 4294967295) (v0 : 0 ≤ v) (v1 : v ≤ 255) :
    Calls Tryz.prog 35 #[.pointer (some ⟨g, 0, none⟩), .int .u32 a, .int .u8 v, .int .u8 kd] w (BuR (.tuple #[]) g d P (s.wrS1 d a v kd) w) := by
  obtain ⟨r1, r2, r3, r4⟩ := hr
  have ol := h.ok.2.2.1
  by_cases h0 : s.left = 0
  · have := bwrite_none h a v kd h0
    unfold Bs.wrS1
    rwa [if_pos h0]
  · have := bwrite_some h a v kd a0 a1 v0 v1 (by omega) (by omega) (by omega) (Hp.lim_mono r3 (by omega)) (by omega)
    unfold Bs.wrS1
    rwa [if_neg h0]
theorem rbread1 (hok : s.ok) (hx : s.x.ok d) (hG : Good d.n d.es) (h : RBU W w r d Q s nx) (C : HC W d Q.Z) (hr : s.room k) (hk : k ≤ 100000) (a kd : Int) (a0 : 0 ≤ a) (a1 : a ≤ 4294967295) :
    Calls Tryz.prog 12 #[.pointer (some ⟨r, 0, none⟩), .int .u32 a, .int .u8 kd] w (RbR (.int .u8 (s.rdV1 d a)) W r d Q (s.rdS1 d a kd) nx w) := by
  obtain ⟨r1, r2, r3, r4⟩ := hr
  obtain ⟨o1, o2, o3, o4, _⟩ := hok
  by_cases h0 : s.left = 0
  · have := rbread_none (a := a) h kd h0
    unfold Bs.rdV1 Bs.rdS1
    rwa [if_pos h0, if_pos h0]
  · have := rbread_some (a := a) kd h C hx (Hp.ok_to hx _) hG (HC.nn C) a0 a1 (by omega) o4 o1 o2 (by omega) (by omega) (Hp.lim_mono r3 (by omega)) (by omega)
    unfold Bs.rdV1 Bs.rdS1
    rwa [if_neg h0, if_neg h0]
theorem rbwrite1 (hok : s.ok) (hx : s.x.ok d) (hG : Good d.n d.es) (h : RBU W w r d Q s nx) (C : HC W d Q.Z) (hr : s.room k) (hk : k ≤ 100000) (a v kd : Int) (a0 : 0 ≤ a) (a1 : a ≤ 4294967295) (v0 : 0 ≤ v) (v1 : v ≤ 255) :
    Calls Tryz.prog 10 #[.pointer (some ⟨r, 0, none⟩), .int .u32 a, .int .u8 v, .int .u8 kd] w (RbR (.tuple #[]) W r d Q (s.wrS1 d a v kd) nx w) := by
  obtain ⟨r1, r2, r3, r4⟩ := hr
  obtain ⟨o1, o2, o3, o4, _⟩ := hok
  by_cases h0 : s.left = 0
  · have := rbwrite_none (a := a) h v kd h0
    unfold Bs.wrS1
    rwa [if_pos h0]
  · have := rbwrite_some (a := a) v kd v0 v1 h C hx (Hp.ok_to hx _) hG (HC.nn C) a0 a1 (by omega) o4 o1 o2 (by omega) (by omega) (Hp.lim_mono r3 (by omega)) (by omega)
    unfold Bs.wrS1
    rwa [if_neg h0]
/-- Both behind a step, in whatever blocks. -/
def BX2 (W : World) (g : Nat) (d : Hd) (P : Bp) (r : Nat) (Q : Rbp) (s' : Bs) (w w' : World) : Prop :=
  ∃ P' t nx', BX W w' g d P' r { Q with tr := t } s' nx' ∧ Kp (bxL g P r Q) w w' ∧ ∀ y ∈ bxL g P' r { Q with tr := t }, y ∈ bxL g P r Q ∨ w.heap.size ≤ y
theorem BX.both {v v2 : Value} {e e2 : Ending} (h : BX W w g d P r Q s nx) (a : BuR v g d P s' w e w1) (b : RbR v2 W r d Q s' nx' w1 e2 w2) : BX2 W g d P r Q s' w w2 := by
  obtain ⟨P', _, h1, k1, f1, q1, q2, q3⟩ := a
  obtain ⟨t, _, h2, k2, f2⟩ := b
  obtain ⟨x1, x2, x3⟩ := h.two h1 k1 f1 q2 h2 k2 f2
  exact ⟨P', t, nx', x1, x2, x3⟩
theorem BX2.refl (h : BX W w g d P r Q s nx) : BX2 W g d P r Q s w w := ⟨P, Q.tr, nx, h, Kp.refl _ _, fun y hy => .inl hy⟩
theorem BX2.on (h : BX2 W g d P r Q s w w1) (k : Kp [] w1 w2) : BX2 W g d P r Q s w w2 := by
  obtain ⟨P', t, nx', x1, x2, x3⟩ := h
  exact ⟨P', t, nx', x1.kp0 k, x2.trans k (by simp), x3⟩
theorem BX2.trans {P1 : Bp} {t1 : Value} (k : Kp (bxL g P r Q) w w1) (f : ∀ y ∈ bxL g P1 r { Q with tr := t1 }, y ∈ bxL g P r Q ∨ w.heap.size ≤ y) (h : BX2 W g d P1 r { Q with tr := t1 } s' w1 w2) : BX2 W g d P r Q s' w w2 := by
  obtain ⟨P', t, nx', x1, x2, x3⟩ := h
  refine ⟨P', t, nx', x1, k.trans x2 f, fun y hy => ?_⟩
  rcases x3 y hy with e | e
  · exact f y e
  · exact .inr (Nat.le_trans k.size e)
theorem BX.lt (h : BX W w g d P r Q s nx) : ∀ y ∈ bxL g P r Q, y < w.heap.size := fun y hy => by
  rcases List.mem_append.1 hy with e | e
  · exact h.bu.lt y e
  · exact h.rb.lt y e
/-- Room and order of a bus behind k steps. -/
def Bs.fit (s : Bs) (k : Nat) : Prop := s.room k ∧ s.tidy
theorem fit_rd (h : s.fit k) (a kd : Int) : (s.rdS1 d a kd).fit (k + 1) := by
  unfold Bs.rdS1
  split
  · exact ⟨room_mono (s := { s with over := true }) h.1 (by omega), h.2⟩
  · refine ⟨rdS_room h.1, ?_⟩
    have e := anS_eq (s.beg d a) d a
    intro q
    have q1 : ((s.beg d a).anS d a).asked = false := q
    show ((s.beg d a).anS d a).next = false
    rw [e.2.2.2.1] at q1
    rw [e.2.2.2.2.1]
    exact h.2 q1
theorem fit_wr (h : s.fit k) (a v kd : Int) : (s.wrS1 d a v kd).fit (k + 1) := by
  unfold Bs.wrS1
  split
  · exact ⟨room_mono (s := { s with over := true }) h.1 (by omega), h.2⟩
  · refine ⟨wrS_room h.1, ?_⟩
    have e := chS_eq (s.beg d a) a v
    intro q
    have q1 : ((s.beg d a).chS a v).asked = false := q
    show ((s.beg d a).chS a v).next = false
    rw [e.2.2.2.1] at q1
    rw [e.2.2.2.2.1]
    exact h.2 q1
end
end Go.Proofs.YtngfmofjonleeaaGreat
namespace Go.Proofs.YtngfmofjonleeaaGreat
open Go.RowKit
set_option linter.unusedVariables false
set_option linter.unusedSimpArgs false
set_option maxRecDepth 100000
section
variable {W w w1 w2 : World} {g : Nat} {d : Hd} {P P1 : Bp} {s s' : Bs}
/-- A bus as it is behind calls, whatever they answered. -/
def BuK (g : Nat) (d : Hd) (P : Bp) (s : Bs) (w w' : World) : Prop := BuR (.tuple #[]) g d P s w (.returned (.tuple #[])) w'
theorem BuK.refl (h : BU w g d P s) : BuK g d P s w w := ⟨P, rfl, h, Kp.refl _ _, fun y hy => .inl hy, rfl, rfl, rfl⟩
theorem BuK.on (h : BuK g d P s w w1) (k : Kp [] w1 w2) : BuK g d P s w w2 := by
  obtain ⟨Q, e, x1, x2, x3, x4, x5, x6⟩ := h
  exact ⟨Q, e, x1.kp0 k, x2.trans k (by simp), x3, x4, x5, x6⟩
theorem BuK.off (h : BuK g d P s w w1) {y : Nat} (h1 : y ∉ bL g P) (h2 : y < w.heap.size) : ∃ Q, BU w1 g d Q s ∧ Kp (bL g P) w w1 ∧ (∀ z ∈ bL g Q, z ∈ bL g P ∨ w.heap.size ≤ z) ∧ Q.p = P.p ∧ Q.b = P.b ∧ Q.m = P.m ∧ y ∉ bL g Q := by
  obtain ⟨Q, _, x1, x2, x3, x4, x5, x6⟩ := h
  refine ⟨Q, x1, x2, x3, x4, x5, x6, fun hy => ?_⟩
  rcases x3 y hy with e | e
  · exact h1 e
  · omega
theorem BuK.old (h : BuK g d P s w w1) (bw : Below W.heap.size W w) (lo : ∀ y ∈ bL g P, W.heap.size ≤ y) : Below W.heap.size W w1 := by
  obtain ⟨Q, _, x1, x2, _⟩ := h
  exact x2.onto bw bw.size lo
theorem BuK.fin {w0 : World} {f0 : Nat} {v : Value} (k0 : Kp [] w w0) (h : BuK g d P s w0 w1) (k1 : Kp [f0] w1 w2) (hN : NB w1 f0) (hf : f0 ∉ bL g P) (hl : f0 < w0.heap.size) (hw : w.heap.size ≤ f0) : BuR v g d P s w (.returned v) w2 := by
  obtain ⟨Q, _, x1, x2, x3, x4, x5, x6⟩ := h
  have hq : f0 ∉ bL g Q := fun hy => by
    rcases x3 f0 hy with e | e
    · exact hf e
    · omega
  refine ⟨Q, rfl, x1.kp k1 (fun y hy => by rw [List.mem_singleton.1 hy]; exact hN) (fun y hy hy2 => hq (by rw [← List.mem_singleton.1 hy2]; exact hy)), ?_, fun y hy => (x3 y hy).imp id (fun e => Nat.le_trans k0.size e), x4, x5, x6⟩
  exact ((k0.mono (M := bL g P) (by simp)).trans x2 (fun z hz => .inl hz)).trans k1 (fun z hz => .inr (by rw [List.mem_singleton.1 hz]; exact hw))
end
end Go.Proofs.YtngfmofjonleeaaGreat
namespace Go.Proofs.YtngfmofjonleeaaGreat
open Go.RowKit
set_option linter.unusedVariables false
set_option linter.unusedSimpArgs false
set_option maxRecDepth 100000
theorem own_base {w : World} {B B' e size n : Nat} {v : Value} {xs : List Value} (h : w.ownsRow B e size v n xs) (hB : B' ≤ B) : w.ownsRow B' e size v n xs := by
  obtain ⟨h1, h2⟩ := h
  refine ⟨h1, ?_⟩
  rcases h2 with h2 | ⟨g, cap, cur, rfl, hg, r⟩
  · exact .inl h2
  · exact .inr ⟨g, cap, cur, rfl, Nat.le_trans hB hg, r⟩
section
variable {w : World} {g : Nat} {d : Hd} {P : Bp} {s : Bs}
end
end Go.Proofs.YtngfmofjonleeaaGreat
namespace Go.Proofs.YtngfmofjonleeaaGreat
open Go.RowKit
set_option linter.unusedVariables false
set_option linter.unusedSimpArgs false
set_option maxRecDepth 100000
theorem RBU.fin {W w w0 w1 w2 : World} {g : Nat} {d : Hd} {Q : Rbp} {s : Bs} {nx : Bool} {f0 : Nat} {v : Value} (k0 : Kp [] w w0) (k : Kp (rbL g Q) w0 w1) (h : RBU W w1 g d Q s nx) (k1 : Kp [f0] w1 w2) (hf : f0 ∉ rbL g Q) (hw : w.heap.size ≤ f0) (hW : W.heap.size ≤ f0) (hr : ∀ ad, Q.A = some ad → ad.block < w.heap.size) : RbR v W g d Q s nx w (.returned v) w2 :=
  RbR.mk0 (h.kp k1 (fun y hy hy2 => hf (by rw [← List.mem_singleton.1 hy2]; exact hy)) (fun y hy => by rw [List.mem_singleton.1 hy]; exact hW) (fun ad e hy => by have h1 := hr ad e; rw [List.mem_singleton.1 hy] at h1; omega)) (((k0.mono (M := rbL g Q) (by simp)).trans k (fun z hz => .inl hz)).trans k1 (fun z hz => .inr (by rw [List.mem_singleton.1 hz]; exact hw)))
end Go.Proofs.YtngfmofjonleeaaGreat
