/-
  Texts of these proofs, one behind the other: Rb10, Cart3, Cart5.
-/
import Derived.Test.YtleofglnlfpoeaaGreatKBP39
import Derived.Test.YtleofglnlfpoeaaGreatKBP37
import Derived.Test.YtleofglnlfpoeaaGreatKBP38
import Derived.Test.YtleofglnlfpoeaaGreatKBP27
namespace Go.Proofs.YtleofglnlfpoeaaGreat
open Go.RowKit
set_option linter.unusedVariables false
set_option linter.unusedSimpArgs false
set_option maxRecDepth 100000
def Bs.rdS1 (s : Bs) (d : Hd) (a kd : Int) : Bs := if s.left = 0 then { s with over := true } else s.rdS d a kd
def Bs.rdV1 (s : Bs) (d : Hd) (a : Int) : Int := if s.left = 0 then 255 else s.rdV d a
def Bs.wrS1 (s : Bs) (d : Hd) (a v kd : Int) : Bs := if s.left = 0 then { s with over := true } else s.wrS d a v kd
section
variable {W w w1 w2 w' : World} {g : Nat} {d : Hd} {P : Bp} {r : Nat} {Q : Rbp} {s s' : Bs} {nx nx' : Bool} {k : Nat}
theorem HC.nn (C : HC W d Q.Z) : d.np ≤ 140737488355328 ∧ d.nv ≤ 140737488355328 ∧ d.nc ≤ 140737488355328 := by have := C.sm; omega
theorem bread1 (h : BU w g d P s) (hr : s.room k) (hk : k ≤ 100000) (a kd : Int) (a0 : 0 ≤ a) (a1 : a ≤ 4294967295) :
    Calls Tryz.prog 17 #[.pointer (some ⟨g, 0, none⟩), .int .u32 a, .int .u8 kd] w (BuR (.int .u8 (s.rdV1 d a)) g d P (s.rdS1 d a kd) w) := by
  obtain ⟨r1, r2, r3, r4⟩ := hr
  have ol := h.ok.2.2.1
  by_cases h0 : s.left = 0
  · have := bread_none h a kd h0
    unfold Bs.rdV1 Bs.rdS1
    rwa [if_pos h0, if_pos h0]
  · have := bread_some h a kd a0 a1 (by omega) (by omega) (by omega) (Hp.lim_mono r3 (by omega)) (by omega)
    unfold Bs.rdV1 Bs.rdS1
    rwa [if_neg h0, if_neg h0]
theorem bwrite1 (h : BU w g d P s) (hr : s.room k) (hk : k ≤ 100000) (a v kd : Int) (a0 : 0 ≤ a) (a1 : a ≤ 4294967295) (v0 : 0 ≤ v) (v1 : v ≤ 255) :
    Calls Tryz.prog 18 #[.pointer (some ⟨g, 0, none⟩), .int .u32 a, .int .u8 v, .int .u8 kd] w (BuR (.tuple #[]) g d P (s.wrS1 d a v kd) w) := by
  obtain ⟨r1, r2, r3, r4⟩ := hr
  have ol := h.ok.2.2.1
  by_cases h0 : s.left = 0
  · have := bwrite_none h a v kd h0
    unfold Bs.wrS1
    rwa [if_pos h0]
  · have := bwrite_some h a v kd a0 a1 v0 v1 (by omega) (by omega) (by omega) (Hp.lim_mono r3 (by omega)) (by omega)
    unfold Bs.wrS1
    rwa [if_neg h0]
theorem rbread1 (hok : s.ok) (hx : s.x.ok d) (hG : Good d.n d.es) (h : RBU W w r d Q s nx) (C : HC W d Q.Z) (hr : s.room k) (hk : k ≤ 100000) (a kd : Int) (a0 : 0 ≤ a) (a1 : a ≤ 4294967295) :
    Calls Tryz.prog 47 #[.pointer (some ⟨r, 0, none⟩), .int .u32 a, .int .u8 kd] w (RbR (.int .u8 (s.rdV1 d a)) W r d Q (s.rdS1 d a kd) nx w) := by
  obtain ⟨r1, r2, r3, r4⟩ := hr
  obtain ⟨o1, o2, o3, o4, _⟩ := hok
  by_cases h0 : s.left = 0
  · have := rbread_none (a := a) h kd h0
    unfold Bs.rdV1 Bs.rdS1
    rwa [if_pos h0, if_pos h0]
  · have := rbread_some (a := a) kd h C hx (Hp.ok_to hx _) hG (HC.nn C) a0 a1 (by omega) o4 o1 o2 (by omega) (by omega) (Hp.lim_mono r3 (by omega)) (by omega)
    unfold Bs.rdV1 Bs.rdS1
    rwa [if_neg h0, if_neg h0]
theorem rbwrite1 (hok : s.ok) (hx : s.x.ok d) (hG : Good d.n d.es) (h : RBU W w r d Q s nx) (C : HC W d Q.Z) (hr : s.room k) (hk : k ≤ 100000) (a v kd : Int) (a0 : 0 ≤ a) (a1 : a ≤ 4294967295) (v0 : 0 ≤ v) (v1 : v ≤ 255) :
    Calls Tryz.prog 48 #[.pointer (some ⟨r, 0, none⟩), .int .u32 a, .int .u8 v, .int .u8 kd] w (RbR (.tuple #[]) W r d Q (s.wrS1 d a v kd) nx w) := by
  obtain ⟨r1, r2, r3, r4⟩ := hr
  obtain ⟨o1, o2, o3, o4, _⟩ := hok
  by_cases h0 : s.left = 0
  · have := rbwrite_none (a := a) h v kd h0
    unfold Bs.wrS1
    rwa [if_pos h0]
  · have := rbwrite_some (a := a) v kd v0 v1 h C hx (Hp.ok_to hx _) hG (HC.nn C) a0 a1 (by omega) o4 o1 o2 (by omega) (by omega) (Hp.lim_mono r3 (by omega)) (by omega)
    unfold Bs.wrS1
    rwa [if_neg h0]
/-- Both behind a step, in whatever blocks. -/
def BX2 (W : World) (g : Nat) (d : Hd) (P : Bp) (r : Nat) (Q : Rbp) (s' : Bs) (w w' : World) : Prop :=
  ∃ P' t nx', BX W w' g d P' r { Q with tr := t } s' nx' ∧ Kp (bxL g P r Q) w w' ∧ ∀ y ∈ bxL g P' r { Q with tr := t }, y ∈ bxL g P r Q ∨ w.heap.size ≤ y
theorem BX.both {v v2 : Value} {e e2 : Ending} (h : BX W w g d P r Q s nx) (a : BuR v g d P s' w e w1) (b : RbR v2 W r d Q s' nx' w1 e2 w2) : BX2 W g d P r Q s' w w2 := by
  obtain ⟨P', _, h1, k1, f1, q1, q2, q3⟩ := a
  obtain ⟨t, _, h2, k2, f2⟩ := b
  obtain ⟨x1, x2, x3⟩ := h.two h1 k1 f1 q2 h2 k2 f2
  exact ⟨P', t, nx', x1, x2, x3⟩
theorem BX2.refl (h : BX W w g d P r Q s nx) : BX2 W g d P r Q s w w := ⟨P, Q.tr, nx, h, Kp.refl _ _, fun y hy => .inl hy⟩
theorem BX2.on (h : BX2 W g d P r Q s w w1) (k : Kp [] w1 w2) : BX2 W g d P r Q s w w2 := by
  obtain ⟨P', t, nx', x1, x2, x3⟩ := h
  exact ⟨P', t, nx', x1.kp0 k, x2.trans k (by simp), x3⟩
theorem BX2.trans {P1 : Bp} {t1 : Value} (k : Kp (bxL g P r Q) w w1) (f : ∀ y ∈ bxL g P1 r { Q with tr := t1 }, y ∈ bxL g P r Q ∨ w.heap.size ≤ y) (h : BX2 W g d P1 r { Q with tr := t1 } s' w1 w2) : BX2 W g d P r Q s' w w2 := by
  obtain ⟨P', t, nx', x1, x2, x3⟩ := h
  refine ⟨P', t, nx', x1, k.trans x2 f, fun y hy => ?_⟩
  rcases x3 y hy with e | e
  · exact f y e
  · exact .inr (Nat.le_trans k.size e)
theorem BX2.undrew (h : BX2 W g d P r Q s w.drew w2) : BX2 W g d P r Q s w w2 := by
  obtain ⟨P', t, nx', x1, x2, x3⟩ := h
  exact ⟨P', t, nx', x1, ((Kp.refl (bxL g P r Q) w).drew).trans x2 (fun z hz => .inl hz), x3⟩
theorem RbR.undrew {v : Value} {e : Ending} (h : RbR v W r d Q s nx w.drew e w2) : RbR v W r d Q s nx w e w2 := by
  obtain ⟨t, e1, x1, x2, x3⟩ := h
  exact ⟨t, e1, x1, ((Kp.refl (rbL r Q) w).drew).trans x2 (fun z hz => .inl hz), x3⟩
theorem BX.lt (h : BX W w g d P r Q s nx) : ∀ y ∈ bxL g P r Q, y < w.heap.size := fun y hy => by
  rcases List.mem_append.1 hy with e | e
  · exact h.bu.lt y e
  · exact h.rb.lt y e
/-- Room and order of a bus behind k steps. -/
def Bs.fit (s : Bs) (k : Nat) : Prop := s.room k ∧ s.tidy
theorem fit_rd (h : s.fit k) (a kd : Int) : (s.rdS1 d a kd).fit (k + 1) := by
  unfold Bs.rdS1
  split
  · exact ⟨room_mono (s := { s with over := true }) h.1 (by omega), h.2⟩
  · refine ⟨rdS_room h.1, ?_⟩
    have e := anS_eq (s.beg d a) d a
    intro q
    have q1 : ((s.beg d a).anS d a).asked = false := q
    show ((s.beg d a).anS d a).next = false
    rw [e.2.2.2.1] at q1
    rw [e.2.2.2.2.1]
    exact h.2 q1
theorem fit_wr (h : s.fit k) (a v kd : Int) : (s.wrS1 d a v kd).fit (k + 1) := by
  unfold Bs.wrS1
  split
  · exact ⟨room_mono (s := { s with over := true }) h.1 (by omega), h.2⟩
  · refine ⟨wrS_room h.1, ?_⟩
    have e := chS_eq (s.beg d a) a v
    intro q
    have q1 : ((s.beg d a).chS a v).asked = false := q
    show ((s.beg d a).chS a v).next = false
    rw [e.2.2.2.1] at q1
    rw [e.2.2.2.2.1]
    exact h.2 q1
theorem fit_ask (h : s.fit k) (b : Bool) : ({ s with asked := true, next := b } : Bs).fit (k + 1) :=
  ⟨room_mono (s := { s with asked := true, next := b }) h.1 (by omega), fun q => by cases q⟩
theorem fit_tn (h : s.fit k) : s.tn.fit (k + 1) := by
  unfold Bs.tn
  split
  · exact ⟨room_mono (s := { s with fast := s.next, asked := false, next := false }) h.1 (by omega), fun _ => rfl⟩
  · exact ⟨room_mono h.1 (by omega), h.2⟩
theorem en_lim {x : Hp} {q : Int} (h : x.lim k) : (x.en q).lim k := by
  unfold Hp.en
  repeat' split
  all_goals exact h
theorem fit_ent (h : s.fit k) (q : Int) : (s.ent q).fit (k + 1) := by
  obtain ⟨⟨r1, r2, r3, r4⟩, t⟩ := h
  unfold Bs.ent
  split
  · exact ⟨⟨show s.now ≤ _ by omega, show s.cyc ≤ _ by omega, Hp.lim_mono (en_lim r3) (by omega), by show s.tl.length ≤ _; omega⟩, fun q => by cases q⟩
  · exact ⟨⟨show s.now ≤ _ by omega, show s.cyc ≤ _ by omega, Hp.lim_mono (en_lim r3) (by omega), by show s.tl.length ≤ _; omega⟩, t⟩
end
end Go.Proofs.YtleofglnlfpoeaaGreat
namespace Go.Proofs.YtleofglnlfpoeaaGreat
open Go.RowKit
set_option linter.unusedVariables false
end Go.Proofs.YtleofglnlfpoeaaGreat
namespace Go.Proofs.YtleofglnlfpoeaaGreat
open Go.RowKit
set_option linter.unusedVariables false
theorem PRow.ok {w : World} {A : Option Addr} {m : Nat} {ps : Nat → Pc} (R : PRow w A m ps) (i : Nat) (hi : i < m) : PcOk w (ps i) := by
  obtain ⟨_, _, _, _, _, h⟩ := R i hi
  exact h
end Go.Proofs.YtleofglnlfpoeaaGreat
