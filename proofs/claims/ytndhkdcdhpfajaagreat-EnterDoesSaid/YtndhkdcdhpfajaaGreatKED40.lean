/-
  Texts of these proofs, one behind the other: Rb10, Rb12, Rb14, Rb13.
-/
import Derived.Test.YtndhkdcdhpfajaaGreatKED38
import Derived.Test.YtndhkdcdhpfajaaGreatKED37
import Derived.Test.YtndhkdcdhpfajaaGreatKED39
import Derived.Test.YtndhkdcdhpfajaaGreatKED35
import Derived.Deep.Cut
import Derived.Deep.CutRange
import Derived.Deep.CutBlock
import Derived.Deep.RegionHeld3
import Derived.Test.YtndhkdcdhpfajaaGreatKED29
import Derived.Test.YtndhkdcdhpfajaaGreatKED21
import Derived.BigQuiet
import Derived.WalkSmall
import Derived.Deep.QuietTactic
namespace Go.Proofs.YtndhkdcdhpfajaaGreat
open Go.RowKit
set_option linter.unusedVariables false
set_option linter.unusedSimpArgs false
set_option maxRecDepth 100000
def Bs.rdS1 (s : Bs) (d : Hd) (a kd : Int) : Bs := if s.left = 0 then { s with over := true } else s.rdS d a kd
def Bs.rdV1 (s : Bs) (d : Hd) (a : Int) : Int := if s.left = 0 then 255 else s.rdV d a
def Bs.wrS1 (s : Bs) (d : Hd) (a v kd : Int) : Bs := if s.left = 0 then { s with over := true } else s.wrS d a v kd
section
variable {W w w1 w2 w' : World} {g : Nat} {d : Hd} {P : Bp} {r : Nat} {Q : Rbp} {s s' : Bs} {nx nx' : Bool} {k : Nat}
theorem HC.nn (C : HC W d Q.Z) : d.np ≤ 140737488355328 ∧ d.nv ≤ 140737488355328 ∧ d.nc ≤ 140737488355328 := by have := C.sm; omega
theorem bread1 (h : BU w g d P s) (hr : s.room k) (hk : k ≤ 100000) (a kd : Int) (a0 : 0 ≤ a) (a1 : a ≤ 4294967295) :
  Calls Tryz.prog 69 #[.pointer (some ⟨g, 0, none⟩), .int .u32 a, .int .u8 kd] w (BuR (.int .u8 (s.rdV1 d a)) g d P (s.rdS1 d a kd) w) := by
 obtain ⟨r1, r2, r3, r4⟩ := hr
 have ol := h.ok.2.2.1
 by_cases h0 : s.left = 0
 ·have := bread_none h a kd h0
  unfold Bs.rdV1 Bs.rdS1
  rwa [if_pos h0, if_pos h0]
 ·have := bread_some h a kd a0 a1 (by omega) (by omega) (by omega) (Hp.lim_mono r3 (by omega)) (by omega)
  unfold Bs.rdV1 Bs.rdS1
  rwa [if_neg h0, if_neg h0]
theorem bwrite1 (h : BU w g d P s) (hr : s.room k) (hk : k ≤ 100000) (a v kd : Int) (a0 : 0 ≤ a) (a1 : a ≤ 4294967295) (v0 : 0 ≤ v) (v1 : v ≤ 255) :
  Calls Tryz.prog 68 #[.pointer (some ⟨g, 0, none⟩), .int .u32 a, .int .u8 v, .int .u8 kd] w (BuR (.tuple #[]) g d P (s.wrS1 d a v kd) w) := by
 obtain ⟨r1, r2, r3, r4⟩ := hr
 have ol := h.ok.2.2.1
 by_cases h0 : s.left = 0
 ·have := bwrite_none h a v kd h0
  unfold Bs.wrS1
  rwa [if_pos h0]
 ·have := bwrite_some h a v kd a0 a1 v0 v1 (by omega) (by omega) (by omega) (Hp.lim_mono r3 (by omega)) (by omega)
  unfold Bs.wrS1
  rwa [if_neg h0]
theorem rbread1 (hok : s.ok) (hx : s.x.ok d) (hG : Good d.n d.es) (h : RBU W w r d Q s nx) (C : HC W d Q.Z) (hr : s.room k) (hk : k ≤ 100000) (a kd : Int) (a0 : 0 ≤ a) (a1 : a ≤ 4294967295) :
  Calls Tryz.prog 29 #[.pointer (some ⟨r, 0, none⟩), .int .u32 a, .int .u8 kd] w (RbR (.int .u8 (s.rdV1 d a)) W r d Q (s.rdS1 d a kd) nx w) := by
 obtain ⟨r1, r2, r3, r4⟩ := hr
 obtain ⟨o1, o2, o3, o4, _⟩ := hok
 by_cases h0 : s.left = 0
 ·have := rbread_none (a := a) h kd h0
  unfold Bs.rdV1 Bs.rdS1
  rwa [if_pos h0, if_pos h0]
 ·have := rbread_some (a := a) kd h C hx (Hp.ok_to hx _) hG (HC.nn C) a0 a1 (by omega) o4 o1 o2 (by omega) (by omega) (Hp.lim_mono r3 (by omega)) (by omega)
  unfold Bs.rdV1 Bs.rdS1
  rwa [if_neg h0, if_neg h0]
theorem rbwrite1 (hok : s.ok) (hx : s.x.ok d) (hG : Good d.n d.es) (h : RBU W w r d Q s nx) (C : HC W d Q.Z) (hr : s.room k) (hk : k ≤ 100000) (a v kd : Int) (a0 : 0 ≤ a) (a1 : a ≤ 4294967295) (v0 : 0 ≤ v) (v1 : v ≤ 255) :
  Calls Tryz.prog 27 #[.pointer (some ⟨r, 0, none⟩), .int .u32 a, .int .u8 v, .int .u8 kd] w (RbR (.tuple #[]) W r d Q (s.wrS1 d a v kd) nx w) := by
 obtain ⟨r1, r2, r3, r4⟩ := hr
 obtain ⟨o1, o2, o3, o4, _⟩ := hok
 by_cases h0 : s.left = 0
 ·have := rbwrite_none (a := a) h v kd h0
  unfold Bs.wrS1
  rwa [if_pos h0]
 ·have := rbwrite_some (a := a) v kd v0 v1 h C hx (Hp.ok_to hx _) hG (HC.nn C) a0 a1 (by omega) o4 o1 o2 (by omega) (by omega) (Hp.lim_mono r3 (by omega)) (by omega)
  unfold Bs.wrS1
  rwa [if_neg h0]
/-- Both behind a step, in whatever blocks. -/
def BX2 (W : World) (g : Nat) (d : Hd) (P : Bp) (r : Nat) (Q : Rbp) (s' : Bs) (w w' : World) : Prop :=
 ∃ P' t nx', BX W w' g d P' r { Q with tr := t } s' nx' ∧ Kp (bxL g P r Q) w w' ∧ ∀ y ∈ bxL g P' r { Q with tr := t }, y ∈ bxL g P r Q ∨ w.heap.size ≤ y
theorem BX.both {v v2 : Value} {e e2 : Ending} (h : BX W w g d P r Q s nx) (a : BuR v g d P s' w e w1) (b : RbR v2 W r d Q s' nx' w1 e2 w2) : BX2 W g d P r Q s' w w2 := by
 obtain ⟨P', _, h1, k1, f1, q1, q2, q3⟩ := a
 obtain ⟨t, _, h2, k2, f2⟩ := b
 obtain ⟨x1, x2, x3⟩ := h.two h1 k1 f1 q2 h2 k2 f2
 exact ⟨P', t, nx', x1, x2, x3⟩
theorem BX2.refl (h : BX W w g d P r Q s nx) : BX2 W g d P r Q s w w := ⟨P, Q.tr, nx, h, Kp.refl _ _, fun y hy => .inl hy⟩
theorem BX2.on (h : BX2 W g d P r Q s w w1) (k : Kp [] w1 w2) : BX2 W g d P r Q s w w2 := by
 obtain ⟨P', t, nx', x1, x2, x3⟩ := h
 exact ⟨P', t, nx', x1.kp0 k, x2.trans k (by simp), x3⟩
theorem BX2.trans {P1 : Bp} {t1 : Value} (k : Kp (bxL g P r Q) w w1) (f : ∀ y ∈ bxL g P1 r { Q with tr := t1 }, y ∈ bxL g P r Q ∨ w.heap.size ≤ y) (h : BX2 W g d P1 r { Q with tr := t1 } s' w1 w2) : BX2 W g d P r Q s' w w2 := by
 obtain ⟨P', t, nx', x1, x2, x3⟩ := h
 refine ⟨P', t, nx', x1, k.trans x2 f, fun y hy => ?_⟩
 rcases x3 y hy with e | e
 ·exact f y e
 ·exact .inr (Nat.le_trans k.size e)
theorem BX.lt (h : BX W w g d P r Q s nx) : ∀ y ∈ bxL g P r Q, y < w.heap.size := fun y hy => by
 rcases List.mem_append.1 hy with e | e
 ·exact h.bu.lt y e
 ·exact h.rb.lt y e
/-- Room and order of a bus behind k steps. -/
def Bs.fit (s : Bs) (k : Nat) : Prop := s.room k ∧ s.tidy
theorem fit_rd (h : s.fit k) (a kd : Int) : (s.rdS1 d a kd).fit (k + 1) := by
 unfold Bs.rdS1
 split
 ·exact ⟨room_mono (s := { s with over := true }) h.1 (by omega), h.2⟩
 ·refine ⟨rdS_room h.1, ?_⟩
  have e := anS_eq (s.beg d a) d a
  intro q
  have q1 : ((s.beg d a).anS d a).asked = false := q
  show ((s.beg d a).anS d a).next = false
  rw [e.2.2.2.1] at q1
  rw [e.2.2.2.2.1]
  exact h.2 q1
theorem fit_wr (h : s.fit k) (a v kd : Int) : (s.wrS1 d a v kd).fit (k + 1) := by
 unfold Bs.wrS1
 split
 ·exact ⟨room_mono (s := { s with over := true }) h.1 (by omega), h.2⟩
 ·refine ⟨wrS_room h.1, ?_⟩
  have e := chS_eq (s.beg d a) a v
  intro q
  have q1 : ((s.beg d a).chS a v).asked = false := q
  show ((s.beg d a).chS a v).next = false
  rw [e.2.2.2.1] at q1
  rw [e.2.2.2.2.1]
  exact h.2 q1
theorem fit_tn (h : s.fit k) : s.tn.fit (k + 1) := by
 unfold Bs.tn
 split
 ·exact ⟨room_mono (s := { s with fast := s.next, asked := false, next := false }) h.1 (by omega), fun _ => rfl⟩
 ·exact ⟨room_mono h.1 (by omega), h.2⟩
theorem en_lim {x : Hp} {q : Int} (h : x.lim k) : (x.en q).lim k := by
 unfold Hp.en
 repeat' split
 all_goals exact h
theorem fit_ent (h : s.fit k) (q : Int) : (s.ent q).fit (k + 1) := by
 obtain ⟨⟨r1, r2, r3, r4⟩, t⟩ := h
 unfold Bs.ent
 split
 ·exact ⟨⟨show s.now ≤ _ by omega, show s.cyc ≤ _ by omega, Hp.lim_mono (en_lim r3) (by omega), by show s.tl.length ≤ _; omega⟩, fun q => by cases q⟩
 ·exact ⟨⟨show s.now ≤ _ by omega, show s.cyc ≤ _ by omega, Hp.lim_mono (en_lim r3) (by omega), by show s.tl.length ≤ _; omega⟩, t⟩
end
end Go.Proofs.YtndhkdcdhpfajaaGreat
namespace Go.Proofs.YtndhkdcdhpfajaaGreat
open Go.RowKit
set_option linter.unusedVariables false
set_option linter.unusedSimpArgs false
set_option maxRecDepth 100000
/-- The first pieces laid over a row. -/
def flt (f : Nat → Int) (ps : Nat → Pc) : Nat → Nat → Int
 | 0 => f
 | q + 1 => laidTo (flt f ps q) (ps q) (ps q).n
theorem laidTo_fw (f : Nat → Int) (p : Pc) (j : Nat) (a0 : 0 ≤ p.at_) (a1 : p.at_ + j < 8192) : fw (laidTo f p j) (p.at_ + j) (p.z j) = laidTo f p (j + 1) := by
 funext i
 have e : ((p.at_ + (j : Int)) % 8192).toNat = (p.at_ + j).toNat := by omega
 unfold fw laidTo
 rw [e]
 by_cases h : i = (p.at_ + (j : Int)).toNat
 ·rw [if_pos h, if_pos (by omega)]
  congr 1
  omega
 ·rw [if_neg h]
  by_cases h2 : p.at_ ≤ (i : Int) ∧ (i : Int) < p.at_ + j
  ·rw [if_pos h2, if_pos (by omega)]
  ·rw [if_neg h2, if_neg (by omega)]
section
variable {W w w1 w2 : World} {g : Nat} {d : Hd} {P P1 : Bp} {s s' : Bs}
/-- A bus as it is behind calls, whatever they answered. -/
def BuK (g : Nat) (d : Hd) (P : Bp) (s : Bs) (w w' : World) : Prop := BuR (.tuple #[]) g d P s w (.returned (.tuple #[])) w'
theorem BuK.refl (h : BU w g d P s) : BuK g d P s w w := ⟨P, rfl, h, Kp.refl _ _, fun y hy => .inl hy, rfl, rfl, rfl⟩
theorem BuK.on (h : BuK g d P s w w1) (k : Kp [] w1 w2) : BuK g d P s w w2 := by
 obtain ⟨Q, e, x1, x2, x3, x4, x5, x6⟩ := h
 exact ⟨Q, e, x1.kp0 k, x2.trans k (by simp), x3, x4, x5, x6⟩
theorem BuK.write {a b : Int} (h : BuK g d P s w w1) (b0 : 0 ≤ b) (b1 : b ≤ 255) {Q : Bp} (hq : BU w1 g d Q s) (k : Kp (bL g P) w w1) (fr : ∀ y ∈ bL g Q, y ∈ bL g P ∨ w.heap.size ≤ y) (q1 : Q.p = P.p) (q2 : Q.b = P.b) (q3 : Q.m = P.m) {e : Ending} (hw : WriteR Q.m Q.mb (fw s.f a b) w1 e w2) :
  BuK g d P { s with f := fw s.f a b } w w2 := by
 obtain ⟨_, mb', r, kk, hm⟩ := hw
 have hb := hq.mem kk r (fw_bd hq.ok.2.2.2.2 b0 b1)
 refine ⟨{ Q with mb := mb' }, rfl, hb, k.trans (kk.mono (fun z hz => ?_)) fr, fun y hy => ?_, q1, q2, q3⟩
 ·exact mem_bL.2 (by
   simp only [List.mem_cons, Option.mem_toList, Option.mem_def] at hz
   rcases hz with hz | hz
   ·exact .inr (.inl hz)
   ·exact .inr (.inr (.inl hz)))
 ·rcases mem_bL.1 hy with e | e | e | e | e | e | e | e
  ·exact fr y (mem_bL.2 (.inl e))
  ·exact fr y (mem_bL.2 (.inr (.inl e)))
  ·have e : mb' = some y := e
   rcases hm with hm | ⟨b', hm, hl⟩
   ·rw [hm] at e; exact fr y (mem_bL.2 (.inr (.inr (.inl e))))
   ·rw [hm] at e; cases e; exact .inr (Nat.le_trans k.size hl)
  ·exact fr y (mem_bL.2 (.inr (.inr (.inr (.inl e)))))
  ·exact fr y (mem_bL.2 (.inr (.inr (.inr (.inr (.inl e))))))
  ·exact fr y (mem_bL.2 (.inr (.inr (.inr (.inr (.inr (.inl e)))))))
  ·exact fr y (mem_bL.2 (.inr (.inr (.inr (.inr (.inr (.inr (.inl e))))))))
  ·exact fr y (mem_bL.2 (.inr (.inr (.inr (.inr (.inr (.inr (.inr e))))))))
theorem BuK.off (h : BuK g d P s w w1) {y : Nat} (h1 : y ∉ bL g P) (h2 : y < w.heap.size) : ∃ Q, BU w1 g d Q s ∧ Kp (bL g P) w w1 ∧ (∀ z ∈ bL g Q, z ∈ bL g P ∨ w.heap.size ≤ z) ∧ Q.p = P.p ∧ Q.b = P.b ∧ Q.m = P.m ∧ y ∉ bL g Q := by
 obtain ⟨Q, _, x1, x2, x3, x4, x5, x6⟩ := h
 refine ⟨Q, x1, x2, x3, x4, x5, x6, fun hy => ?_⟩
 rcases x3 y hy with e | e
 ·exact h1 e
 ·omega
theorem BuK.old (h : BuK g d P s w w1) (bw : Below W.heap.size W w) (lo : ∀ y ∈ bL g P, W.heap.size ≤ y) : Below W.heap.size W w1 := by
 obtain ⟨Q, _, x1, x2, _⟩ := h
 exact x2.onto bw bw.size lo
theorem mem_mb {Q : Bp} {z : Nat} (h : z ∈ Q.m :: Q.mb.toList) : z ∈ bL g Q := mem_bL.2 (by
 simp only [List.mem_cons, Option.mem_toList, Option.mem_def] at h
 rcases h with h | h
 ·exact .inr (.inl h)
 ·exact .inr (.inr (.inl h)))
theorem BuK.fin {w0 : World} {f0 : Nat} {v : Value} (k0 : Kp [] w w0) (h : BuK g d P s w0 w1) (k1 : Kp [f0] w1 w2) (hN : NB w1 f0) (hf : f0 ∉ bL g P) (hl : f0 < w0.heap.size) (hw : w.heap.size ≤ f0) : BuR v g d P s w (.returned v) w2 := by
 obtain ⟨Q, _, x1, x2, x3, x4, x5, x6⟩ := h
 have hq : f0 ∉ bL g Q := fun hy => by
  rcases x3 f0 hy with e | e
  ·exact hf e
  ·omega
 refine ⟨Q, rfl, x1.kp k1 (fun y hy => by rw [List.mem_singleton.1 hy]; exact hN) (fun y hy hy2 => hq (by rw [← List.mem_singleton.1 hy2]; exact hy)), ?_, fun y hy => (x3 y hy).imp id (fun e => Nat.le_trans k0.size e), x4, x5, x6⟩
 exact ((k0.mono (M := bL g P) (by simp)).trans x2 (fun z hz => .inl hz)).trans k1 (fun z hz => .inr (by rw [List.mem_singleton.1 hz]; exact hw))
end
set_option maxHeartbeats 8000000 in
theorem bfill_bad {W w : World} {g : Nat} {d : Hd} {P : Bp} {s : Bs} {A : Option Addr} {m c j : Nat} {ps : Nat → Pc} (h : BU w g d P s) (bw : Below W.heap.size W w) (lo : ∀ y ∈ bL g P, W.heap.size ≤ y) (R : PRow W A m ps) (hm : m ≤ 1000)
  (hj : j < m) (hg : ∀ i, i < j → good 8192 (ps i)) (hb : ¬ good 8192 (ps j)) :
  Calls Tryz.prog 11 #[.pointer (some ⟨g, 0, none⟩), .slice A m c] w (BuR (.agg #[.int .i64 1, .int .i64 j]) g d P s w) := by
 have R1 := Lib.hid R
 have BW := Lib.hid bw
 have HLO := Lib.hid lo
 have H0 := Lib.hid (BU.kp0 h ((Kp.refl [] w).alloc (.cells #[.int .i64 0, .int .i64 0] 37)))
 have HF0 := Lib.hid (Blk.new w 37 #[.int .i64 0, .int .i64 0])
 have HK0 := Lib.hid ((Kp.refl [] w).alloc (.cells #[.int .i64 0, .int .i64 0] 37))
 have hfl : w.heap.size ∉ bL g P := fun hy => Nat.lt_irrefl _ (h.lt _ hy)
 clear h R bw lo
 go_enter Tryz.func11, Tryz.ntmps11
 go_wp2_with fail
 generalize w.alloc _ = w0 at *
 obtain ⟨f0, hf0⟩ : ∃ f, w.heap.size = f := ⟨_, rfl⟩
 rw [hf0] at HF0 hfl ⊢
 have HSZ := Lib.hid hf0
 clear hf0
 refine (bworks_any H0.out).mono ?_
 rintro e w' ⟨rfl, rfl⟩
 go_wp2_with fail
 have BW0 : Hid (Below W.heap.size W w0) := Lib.hid (HK0.out.onto BW.out BW.out.size (by simp))
 refine (ramof_any A m c ps _ (by unfold maxLen; omega) (PRow.keep R1.out BW0.out)).mono ?_
 rintro e w1 ⟨bO, hO⟩
 have HB1 : Hid (BuK g d P s w0 w1) := Lib.hid ⟨P, rfl, H0.out.keep bO, Kp.of_below (L := bL g P) bO, fun y hy => .inl hy, rfl, rfl, rfl⟩
 have hfl2 : f0 < w0.heap.size := HF0.out.lt
 have HF1 := Lib.hid (HF0.out.below bO HF0.out.lt)
 rcases hO with ⟨j', hj', hn, hi, rfl⟩ | ⟨hi, _⟩
 ·have ej : j' = j := by
   rcases Nat.lt_trichotomy j' j with q | q | q
   ·exact absurd (hg j' q) hn
   ·exact q
   ·exact absurd (hi j q) hb
  subst ej
  clear bO hn hi hg hb
  have hx := Blk.new w1 37 #[.int .i64 1, .int .i64 j']
  have HB2 := Lib.hid (HB1.out.on ((Kp.refl [] w1).alloc (.cells #[.int .i64 1, .int .i64 j'] 37)))
  have HF2 := Lib.hid (HF1.out.alloc (.cells #[.int .i64 1, .int .i64 j'] 37))
  have HX2 := Lib.hid hx
  have c0 : (w1.alloc (.cells #[.int .i64 1, .int .i64 j'] 37)).cell? ⟨f0, 0, none⟩ = some (.int .i64 0) := HF2.out.cell 0
  have c1 : (w1.alloc (.cells #[.int .i64 1, .int .i64 j'] 37)).cell? ⟨f0, 1, none⟩ = some (.int .i64 0) := HF2.out.cell 1
  have r0 : (w1.alloc (.cells #[.int .i64 1, .int .i64 j'] 37)).frozen? ⟨f0, 0, none⟩ = false := HF2.out.frozen 0
  have r1 : (w1.alloc (.cells #[.int .i64 1, .int .i64 j'] 37)).frozen? ⟨f0, 1, none⟩ = false := HF2.out.frozen 1
  clear hx
  go_wp2_with fail
  refine bodyPost_ret (v := .agg #[.int .i64 1, .int .i64 j']) (results_cell (a := ⟨f0, 0, none⟩) Tryz.results11 (by rfl) (((HF2.out.set_ 0 (.int .i64 1)).set_ 1 (.int .i64 j')).run_load (P := Tryz.prog) Tryz.underlying37 rfl (by kernel_rfl))) rfl ?_
  exact BuK.fin HK0.out HB2.out (((Kp.refl [f0] _).setCell (p := ⟨f0, 0, none⟩) (.inl (List.mem_singleton.2 rfl)) _).setCell (p := ⟨f0, 1, none⟩) (.inl (List.mem_singleton.2 rfl)) _) (NB.of HF2.out (by decide) (by decide)) hfl hfl2 (by rw [HSZ.out]; exact Nat.le_refl _)
 ·exact absurd (hi j hj) hb
set_option maxHeartbeats 16000000 in
theorem bfill_good {W w : World} {g : Nat} {d : Hd} {P : Bp} {s : Bs} {A : Option Addr} {m c : Nat} {ps : Nat → Pc} (h : BU w g d P s) (bw : Below W.heap.size W w) (lo : ∀ y ∈ bL g P, W.heap.size ≤ y) (R : PRow W A m ps) (hm : m ≤ 1000)
  (hg : ∀ i, i < m → good 8192 (ps i)) :
  Calls Tryz.prog 11 #[.pointer (some ⟨g, 0, none⟩), .slice A m c] w (BuR (.agg #[.int .i64 0, .int .i64 0]) g d P { s with f := flt s.f ps m } w) := by
 have R1 := Lib.hid R
 have BW := Lib.hid bw
 have HLO := Lib.hid lo
 have H0 := Lib.hid (BU.kp0 h ((Kp.refl [] w).alloc (.cells #[.int .i64 0, .int .i64 0] 37)))
 have HF0 := Lib.hid (Blk.new w 37 #[.int .i64 0, .int .i64 0])
 have HK0 := Lib.hid ((Kp.refl [] w).alloc (.cells #[.int .i64 0, .int .i64 0] 37))
 have hfl : w.heap.size ∉ bL g P := fun hy => Nat.lt_irrefl _ (h.lt _ hy)
 clear h R bw lo
 go_enter Tryz.func11, Tryz.ntmps11
 go_wp2_with fail
 generalize w.alloc _ = w0 at *
 obtain ⟨f0, hf0⟩ : ∃ f, w.heap.size = f := ⟨_, rfl⟩
 rw [hf0] at HF0 hfl ⊢
 have HSZ := Lib.hid hf0
 clear hf0
 refine (bworks_any H0.out).mono ?_
 rintro e w' ⟨rfl, rfl⟩
 go_wp2_with fail
 have BW0 : Hid (Below W.heap.size W w0) := Lib.hid (HK0.out.onto BW.out BW.out.size (by simp))
 refine (ramof_any A m c ps _ (by unfold maxLen; omega) (PRow.keep R1.out BW0.out)).mono ?_
 rintro e w1 ⟨bO, hO⟩
 have HB1 : Hid (BuK g d P s w0 w1) := Lib.hid ⟨P, rfl, H0.out.keep bO, Kp.of_below (L := bL g P) bO, fun y hy => .inl hy, rfl, rfl, rfl⟩
 have hfl2 : f0 < w0.heap.size := HF0.out.lt
 have HF1 := Lib.hid (HF0.out.below bO HF0.out.lt)
 rcases hO with ⟨j', hj', hn, _, _⟩ | ⟨_, gO, mO, rfl, _, _, _⟩
 ·exact absurd (hg j' hj') hn
 ·have HG := Lib.hid hg
  clear bO hg
  have HB2 := Lib.hid (HB1.out.on ((Kp.refl [] w1).alloc (.cells #[.int .i64 0, .int .i64 0] 37)))
  have HF2 := Lib.hid (HF1.out.alloc (.cells #[.int .i64 0, .int .i64 0] 37))
  clear HB1 HF1
  go_wp2_with fail
  generalize World.alloc w1 _ = w2 at *
  generalize w1.heap.size = sx at *
  go_loopw [26] (fun i wr => ∃ k : Nat, k ≤ m ∧ i = .int .i64 k ∧ BuK g d P { s with f := flt s.f ps k } w0 wr ∧ Blk wr f0 37 #[.int .i64 0, .int .i64 0]) (fun i _ => m - (intOf i).toNat)
  case atStart => exact ⟨0, Nat.zero_le _, rfl, HB2.out, HF2.out⟩
  case round =>
   obtain ⟨k, hk, rfl, hb, hf⟩ := hrel
   have HB := Lib.hid hb
   have HF := Lib.hid hf
   clear hb hf HB2 HF2
   by_cases hlt : k < m
   ·have BWr := HB.out.old BW0.out HLO.out
    obtain ⟨ad, rfl, hl, h0, h1, hp0, hp1, hp2, hp3⟩ := PRow.keep R1.out BWr k hlt
    obtain ⟨g0, g1⟩ := HG.out k hlt
    have hnx := cell_next h1
    obtain ⟨t, ht⟩ : ∃ t, (ps k).at_ = t := ⟨_, rfl⟩
    obtain ⟨pn, hpn⟩ : ∃ n, (ps k).n = n := ⟨_, rfl⟩
    obtain ⟨pA, hpA⟩ : ∃ a, (ps k).A = a := ⟨_, rfl⟩
    obtain ⟨pc, hpc⟩ : ∃ c, (ps k).c = c := ⟨_, rfl⟩
    rw [ht] at h0 g0 g1
    rw [hpn] at hnx g1
    rw [hpA, hpc] at hnx
    have HT := Lib.hid ht
    have HPN := Lib.hid hpn
    have HPA := Lib.hid hpA
    obtain ⟨Q1, q1, q2, q3, q4, q5, q6, q7⟩ := HB.out.off hfl hfl2
    have hb8 := q1.kp0 ((Kp.refl [] wr).alloc (.cells #[.int .i64 t, .slice pA pn pc] 141))
    have hq9 : wr.heap.size ∉ bL g Q1 := fun hy => Nat.lt_irrefl _ (q1.lt _ hy)
    have H8 := Lib.hid hb8
    have HP8 := Lib.hid (Blk.new wr 141 #[.int .i64 t, .slice pA pn pc])
    have HF8 := Lib.hid (HF.out.alloc (.cells #[.int .i64 t, .slice pA pn pc] 141))
    have BW8 := Lib.hid (BWr.alloc BWr.size (.cells #[.int .i64 t, .slice pA pn pc] 141))
    have HTH := Lib.hid (show Kp (bL g P) w0 (wr.alloc (.cells #[.int .i64 t, .slice pA pn pc] 141)) from q2.alloc _)
    have HQ3 := Lib.hid q3
    have HQ4 := Lib.hid (And.intro q4 (And.intro q5 q6))
    have LO8 : Hid (∀ y ∈ bL g Q1, W.heap.size ≤ y) := Lib.hid (fun y hy => (q3 y hy).elim (HLO.out y) (fun e => Nat.le_trans BW0.out.size e))
    have hpl : wr.heap.size < (wr.alloc (.cells #[.int .i64 t, .slice pA pn pc] 141)).heap.size := HP8.out.lt
    have hfl8 : f0 < (wr.alloc (.cells #[.int .i64 t, .slice pA pn pc] 141)).heap.size := HF8.out.lt
    clear h1 hp0 hp1 hp2 hp3 ht hpn hpA hpc q1 q2 q3 q4 q5 q6 hb8 HB HF BWr
    go_wp2_with fail
    generalize World.alloc wr _ = w8 at *
    obtain ⟨p0, hp0⟩ : ∃ p, wr.heap.size = p := ⟨_, rfl⟩
    rw [hp0] at HP8 hq9 hpl ⊢
    clear h0 hnx hp0 hl
    go_loopw [33] (fun i wq => ∃ j : Nat, j ≤ pn ∧ i = .int .i64 j ∧ BuK g d Q1 { s with f := laidTo (flt s.f ps k) (ps k) j } w8 wq ∧ Blk wq f0 37 #[.int .i64 0, .int .i64 0] ∧ Blk wq p0 141 #[.int .i64 t, .slice pA pn pc]) (fun i _ => pn - (intOf i).toNat)
    case atStart => exact ⟨0, Nat.zero_le _, rfl, by rw [laidTo_zero]; exact BuK.refl H8.out, HF8.out, HP8.out⟩
    case round =>
     obtain ⟨j, hj, rfl, hb, hf, hp⟩ := hrel
     have HB := Lib.hid hb
     have HF := Lib.hid hf
     have HP := Lib.hid hp
     clear hb hf hp H8 HF8 HP8
     by_cases hjl : j < pn
     ·have BWq := HB.out.old BW8.out LO8.out
      have HB2 := HB.out
      obtain ⟨_, _, _, hrow⟩ := (PRow.keep R1.out BWq k hlt).choose_spec.2.2.2.2
      rw [HPA.out, HPN.out] at hrow
      obtain ⟨bd, rfl, hbl, hcb, hwf⟩ := hrow j hjl
      obtain ⟨z0, z1⟩ := bounds_u8 hwf
      obtain ⟨z, hz⟩ : ∃ z, (ps k).z j = z := ⟨_, rfl⟩
      rw [hz] at hcb z0 z1
      have HZ := Lib.hid hz
      obtain ⟨Q2, y1, y2, y3, y4, y5, y6, y7⟩ := HB.out.off q7 hfl8
      have hp7 : p0 ∉ bL g Q2 := fun hy => by
       rcases y3 p0 hy with e | e
       ·exact hq9 e
       ·omega
      have Y1 := Lib.hid y1
      have Y2 := Lib.hid y2
      have Y3 := Lib.hid y3
      have Y4 := Lib.hid (And.intro y4 (And.intro y5 y6))
      have c6 : wr.cell? ⟨g, 6, none⟩ = some (.pointer (some ⟨Q2.m, 0, none⟩)) := y1.cells.2.1
      have c0 : wr.cell? ⟨p0, 0, none⟩ = some (.int .i64 t) := HP.out.cell 0
      have j0 : (0 : Int) ≤ (j : Int) := by omega
      have j1 : (j : Int) < pn := by omega
      have tj : t + (j : Int) < 8192 := by omega
      have hwi : IntKind.i64.wrap (t + (j : Int)) = t + j := IntWalk.i64_in _ (by omega)
      have hwr : IntKind.u16.wrap (t + (j : Int)) = t + j := IntWalk.u16_in _ (by omega)
      clear hz hwf y1 y2 y3 y4 y5 y6 HB2 hrow BWq
      go_wp2_with fail
      refine rg_begin (S := fun w' => w'.cell? ⟨g, 6, none⟩ = some (.pointer (some ⟨Q2.m, 0, none⟩)) ∧ w'.cell? ⟨p0, 0, none⟩ = some (.int .i64 t)) 11 #[false, false, false, false, false, false, false, false, false, false, false] (by kernel_rfl) (by kernel_rfl) (by kernel_rfl) ?_ (fun hHeld => ?_)
      ·exact ⟨c6, c0⟩
      refine rgu 0 (some 38) rfl ?_
      refine rgu 1 (some 39) rfl ?_
      refine rgu 2 (some 40) rfl ?_
      refine rgu 3 (some 41) rfl ?_
      refine rgu 4 (some 42) rfl ?_
      refine rgu 5 (some 43) rfl ?_
      refine rgu 6 (some 44) rfl ?_
      refine rgu 7 (some 45) rfl ?_
      try simp only [Act.put, List.setIfInBounds_toArray, List.set_cons_zero, List.set_cons_succ]
      try rw [hwi]
      refine rgu 8 (some 46) rfl ?_
      try simp only [Act.put, List.setIfInBounds_toArray, List.set_cons_zero, List.set_cons_succ]
      try rw [hwr]
      refine rgu 9 (some 47) rfl ?_
      try simp only [Act.put, List.setIfInBounds_toArray, List.set_cons_zero, List.set_cons_succ]
      refine rg_next (i := 10) (l := #[true, true, true, true, true, true, true, true, true, true, true]) (fuel := 0) (by kernel_rfl) rfl (by kernel_rfl) (by kernel_rfl) (fun K hK => ?_)
      go_simp
      (go_at_call 49)
      refine (rwrite_any (w := wr.drew) (by exact Y1.out.ram) (t + j) z (by omega) (by omega)).mono ?_
      intro e w3 hW
      have HWr := Lib.hid hW
      obtain ⟨rfl, mb', x1, x2, x3⟩ := hW
      have HF3 : Hid (Blk w3 f0 37 #[.int .i64 0, .int .i64 0]) := Lib.hid (HF.out.drew_.kp x2 (fun hy => y7 (mem_mb hy)))
      have HP3 : Hid (Blk w3 p0 141 #[.int .i64 t, .slice (some bd) pn pc]) := Lib.hid (HP.out.drew_.kp x2 (fun hy => hp7 (mem_mb hy)))
      have HBn := Lib.hid (BuK.write (HB.out.on (Kp.refl [] wr).drew) z0 z1 (Y1.out.kp0 (Kp.refl [] wr).drew) (Y2.out.drew) Y3.out Y4.out.1 Y4.out.2.1 Y4.out.2.2 HWr.out)
      clear x1 x2 x3 c6 c0
      have c0 : w3.cell? ⟨p0, 0, none⟩ = some (.int .i64 t) := HP3.out.cell 0
      have c6 : w3.cell? ⟨g, 6, none⟩ = some (.pointer (some ⟨Q2.m, 0, none⟩)) := by obtain ⟨Q9, _, u1, _, _, _, _, u6⟩ := HBn.out; have := u1.cells.2.1; rw [this, u6, Y4.out.2.2]
      first | (refine hK.out _ _ ?_ (fun hHeld => ?_)) | (go_wp2_with fail; refine hK.out _ _ ?_ (fun hHeld => ?_))
      ·(try dsimp only); exact ⟨c6, c0⟩
      clear hK K
      try simp only [Act.put, List.setIfInBounds_toArray, List.set_cons_zero, List.set_cons_succ]
      refine wpAnyH_done (by kernel_rfl) ?_ _
      clear hHeld
      go_wp2_with fail
      go_roundw
      case rel => exact ⟨j + 1, by omega, by go_num, by have := HBn.out; rw [← HT.out, ← HZ.out] at this; rw [← laidTo_fw _ _ _ (by rw [HT.out]; exact g0) (by rw [HT.out]; exact tj)]; exact this, HF3.out, HP3.out⟩
      case measure => simp [intOf]; omega
     ·obtain rfl : j = pn := by omega
      have HBn : Hid (BuK g d P { s with f := flt s.f ps (k + 1) } w0 wr) := Lib.hid (by
       have := BuR.then_ HTH.out HQ3.out HQ4.out HB.out
       rw [← HPN.out] at this
       exact this)
      go_wp2_with fail
      exact ⟨⟨k + 1, by omega, by go_num, HBn.out, HF.out⟩, by simp [intOf]; omega⟩
   ·obtain rfl : k = m := by omega
    have c0 : wr.cell? ⟨f0, 0, none⟩ = some (.int .i64 0) := HF.out.cell 0
    have c1 : wr.cell? ⟨f0, 1, none⟩ = some (.int .i64 0) := HF.out.cell 1
    have r0 : wr.frozen? ⟨f0, 0, none⟩ = false := HF.out.frozen 0
    have r1 : wr.frozen? ⟨f0, 1, none⟩ = false := HF.out.frozen 1
    go_wp2_with fail
    refine bodyPost_ret (v := .agg #[.int .i64 0, .int .i64 0]) (results_cell (a := ⟨f0, 0, none⟩) Tryz.results11 (by rfl) (((HF.out.set_ 0 (.int .i64 0)).set_ 1 (.int .i64 0)).run_load (P := Tryz.prog) Tryz.underlying37 rfl (by kernel_rfl))) rfl ?_
    exact BuK.fin HK0.out HB.out (((Kp.refl [f0] _).setCell (p := ⟨f0, 0, none⟩) (.inl (List.mem_singleton.2 rfl)) _).setCell (p := ⟨f0, 1, none⟩) (.inl (List.mem_singleton.2 rfl)) _) (NB.of HF.out (by decide) (by decide)) hfl hfl2 (by rw [HSZ.out]; exact Nat.le_refl _)
end Go.Proofs.YtndhkdcdhpfajaaGreat
namespace Go.Proofs.YtndhkdcdhpfajaaGreat
open Go.RowKit
set_option linter.unusedVariables false
set_option linter.unusedSimpArgs false
set_option maxRecDepth 100000
theorem own_base {w : World} {B B' e size n : Nat} {v : Value} {xs : List Value} (h : w.ownsRow B e size v n xs) (hB : B' ≤ B) : w.ownsRow B' e size v n xs := by
 obtain ⟨h1, h2⟩ := h
 refine ⟨h1, ?_⟩
 rcases h2 with h2 | ⟨g, cap, cur, rfl, hg, r⟩
 ·exact .inl h2
 ·exact .inr ⟨g, cap, cur, rfl, Nat.le_trans hB hg, r⟩
section
variable {w : World} {g : Nat} {d : Hd} {P : Bp} {s : Bs}
end
end Go.Proofs.YtndhkdcdhpfajaaGreat
namespace Go.Proofs.YtndhkdcdhpfajaaGreat
open Go.RowKit
set_option linter.unusedVariables false
set_option linter.unusedSimpArgs false
set_option maxRecDepth 100000
theorem RBU.fin {W w w0 w1 w2 : World} {g : Nat} {d : Hd} {Q : Rbp} {s : Bs} {nx : Bool} {f0 : Nat} {v : Value} (k0 : Kp [] w w0) (k : Kp (rbL g Q) w0 w1) (h : RBU W w1 g d Q s nx) (k1 : Kp [f0] w1 w2) (hf : f0 ∉ rbL g Q) (hw : w.heap.size ≤ f0) (hW : W.heap.size ≤ f0) : RbR v W g d Q s nx w (.returned v) w2 :=
 RbR.mk0 (h.kp k1 (fun y hy hy2 => hf (by rw [← List.mem_singleton.1 hy2]; exact hy)) (fun y hy => by rw [List.mem_singleton.1 hy]; exact hW)) (((k0.mono (M := rbL g Q) (by simp)).trans k (fun z hz => .inl hz)).trans k1 (fun z hz => .inr (by rw [List.mem_singleton.1 hz]; exact hw)))
set_option maxHeartbeats 8000000 in
theorem rbfill_bad {W w : World} {g : Nat} {d : Hd} {Q : Rbp} {s : Bs} {nx : Bool} {A : Option Addr} {m c j : Nat} {ps : Nat → Pc} (h : RBU W w g d Q s nx) (R : PRow W A m ps) (hm : m ≤ 1000)
  (hj : j < m) (hg : ∀ i, i < j → good 8192 (ps i)) (hb : ¬ good 8192 (ps j)) :
  Calls Tryz.prog 12 #[.pointer (some ⟨g, 0, none⟩), .slice A m c] w (RbR (.agg #[.int .i64 1, .int .i64 j]) W g d Q s nx w) := by
 have HBAD := Lib.hid hb
 clear hb
 have R1 := Lib.hid R
 have H0 := Lib.hid (RBU.kp0 h ((Kp.refl [] w).alloc (.cells #[.int .i64 0, .int .i64 0] 37)))
 have HF0 := Lib.hid (Blk.new w 37 #[.int .i64 0, .int .i64 0])
 have HK0 := Lib.hid ((Kp.refl [] w).alloc (.cells #[.int .i64 0, .int .i64 0] 37))
 have hfl : w.heap.size ∉ rbL g Q := fun hy => Nat.lt_irrefl _ (h.lt _ hy)
 have hWs := h.old.size
 have HG := Lib.hid hg
 clear h R hg
 go_enter Tryz.func12, Tryz.ntmps12
 go_wp2_with fail
 generalize w.alloc _ = w0 at *
 obtain ⟨f0, hf0⟩ : ∃ f, w.heap.size = f := ⟨_, rfl⟩
 rw [hf0] at HF0 hfl hWs ⊢
 have HSZ := Lib.hid hf0
 clear hf0
 go_loopw [5] (fun i wr => ∃ k : Nat, k ≤ j ∧ i = .int .i64 k ∧ RBU W wr g d Q s nx ∧ Blk wr f0 37 #[.int .i64 0, .int .i64 0] ∧ Kp [] w0 wr) (fun i _ => j - (intOf i).toNat)
 case atStart => exact ⟨0, Nat.zero_le _, rfl, H0.out, HF0.out, Kp.refl _ _⟩
 case round =>
  obtain ⟨k, hk, rfl, hb, hf, hkk⟩ := hrel
  have HB := Lib.hid hb
  have HF := Lib.hid hf
  have HK := Lib.hid hkk
  clear hb hf hkk H0 HF0
  by_cases hlt : k < j
  ·obtain ⟨ad, rfl, hl, h0, h1, hp0, hp1, hp2, hp3⟩ := PRow.keep R1.out HB.out.old k (by omega)
   have hnx := cell_next h1
   obtain ⟨t, ht⟩ : ∃ t, (ps k).at_ = t := ⟨_, rfl⟩
   obtain ⟨pn, hpn⟩ : ∃ n, (ps k).n = n := ⟨_, rfl⟩
   obtain ⟨pA, hpA⟩ : ∃ a, (ps k).A = a := ⟨_, rfl⟩
   obtain ⟨pc, hpc⟩ : ∃ c, (ps k).c = c := ⟨_, rfl⟩
   rw [ht] at h0 hp0
   rw [hpn, hpA, hpc] at hnx
   rw [hpn, hpc] at hp1
   rw [hpc] at hp2
   unfold maxLen at hp2
   obtain ⟨tb0, tb1⟩ := bounds_i64 hp0
   obtain ⟨g0, g1⟩ := HG.out k hlt
   rw [ht] at g0 g1
   rw [hpn] at g1
   have HT := Lib.hid ht
   have HPN := Lib.hid hpn
   have d1 : decide (t < 0) = false := decide_eq_false (by omega)
   have d2 : decide (8192 < t) = false := decide_eq_false (by omega)
   have d3 : decide (8192 - t < (pn : Int)) = false := decide_eq_false (by omega)
   clear h1 hp0 hp3 ht hpn hpA hpc
   go_wp2_with fail
   go_quiet (fail)
   go_wp2_with fail
   go_roundw
   case rel => exact ⟨k + 1, by omega, by go_num, HB.out.kp0 ((Kp.refl [] _).drewN _), HF.out.drewN _, HK.out.drewN _⟩
   case measure => simp [intOf]; omega
  ·obtain rfl : k = j := by omega
   obtain ⟨ad, rfl, hl, h0, h1, hp0, hp1, hp2, hp3⟩ := PRow.keep R1.out HB.out.old k hj
   have hnx := cell_next h1
   obtain ⟨t, ht⟩ : ∃ t, (ps k).at_ = t := ⟨_, rfl⟩
   obtain ⟨pn, hpn⟩ : ∃ n, (ps k).n = n := ⟨_, rfl⟩
   obtain ⟨pA, hpA⟩ : ∃ a, (ps k).A = a := ⟨_, rfl⟩
   obtain ⟨pc, hpc⟩ : ∃ c, (ps k).c = c := ⟨_, rfl⟩
   rw [ht] at h0 hp0
   rw [hpn, hpA, hpc] at hnx
   rw [hpn, hpc] at hp1
   rw [hpc] at hp2
   unfold maxLen at hp2
   obtain ⟨tb0, tb1⟩ := bounds_i64 hp0
   have hbad := HBAD.out
   unfold good at hbad
   rw [ht, hpn] at hbad
   have c0 : wr.cell? ⟨f0, 0, none⟩ = some (.int .i64 0) := HF.out.cell 0
   have c1 : wr.cell? ⟨f0, 1, none⟩ = some (.int .i64 0) := HF.out.cell 1
   have r0 : wr.frozen? ⟨f0, 0, none⟩ = false := HF.out.frozen 0
   have r1 : wr.frozen? ⟨f0, 1, none⟩ = false := HF.out.frozen 1
   clear h1 hp0 hp3 ht hpn hpA hpc
   have h3 : t < 0 ∨ (0 ≤ t ∧ 8192 < t) ∨ (0 ≤ t ∧ t ≤ 8192 ∧ 8192 - t < (pn : Int)) := by omega
   clear hbad
   obtain ⟨b1, hb1⟩ : ∃ b, decide (t < 0) = b := ⟨_, rfl⟩
   obtain ⟨b2, hb2⟩ : ∃ b, decide (8192 < t) = b := ⟨_, rfl⟩
   obtain ⟨b3, hb3⟩ : ∃ b, decide (8192 - t < (pn : Int)) = b := ⟨_, rfl⟩
   have hbb : (b1 = true) ∨ (b1 = false ∧ b2 = true) ∨ (b1 = false ∧ b2 = false ∧ b3 = true) := by
    rw [← hb1, ← hb2, ← hb3]
    simp only [decide_eq_true_eq, decide_eq_false_iff_not]
    omega
   rcases hbb with rfl | ⟨rfl, rfl⟩ | ⟨rfl, rfl, rfl⟩
   all_goals
    try have t0 : 0 ≤ t := by have := of_decide_eq_false hb1; omega
    try have t1 : t ≤ 8192 := by have := of_decide_eq_false hb2; omega
    go_wp2_with fail
    go_quiet (fail)
    go_wp2_with fail
    refine bodyPost_ret (v := .agg #[.int .i64 1, .int .i64 k]) (results_cell (a := ⟨f0, 0, none⟩) Tryz.results12 (by rfl) ((((HF.out.drewN _).set_ 0 (.int .i64 1)).set_ 1 (.int .i64 k)).run_load (P := Tryz.prog) Tryz.underlying37 rfl (by kernel_rfl))) rfl ?_
    exact RBU.fin HK0.out ((HK.out.mono (M := rbL g Q) (by simp)).drewN _) (HB.out.kp0 ((Kp.refl [] _).drewN _)) (((Kp.refl [f0] _).setCell (p := ⟨f0, 0, none⟩) (.inl (List.mem_singleton.2 rfl)) _).setCell (p := ⟨f0, 1, none⟩) (.inl (List.mem_singleton.2 rfl)) _) hfl (by rw [HSZ.out]; exact Nat.le_refl _) hWs
set_option maxHeartbeats 16000000 in
theorem rbfill_good {W w : World} {g : Nat} {d : Hd} {Q : Rbp} {s : Bs} {nx : Bool} {A : Option Addr} {m c : Nat} {ps : Nat → Pc} (h : RBU W w g d Q s nx) (R : PRow W A m ps) (hm : m ≤ 1000)
  (hg : ∀ i, i < m → good 8192 (ps i)) :
  Calls Tryz.prog 12 #[.pointer (some ⟨g, 0, none⟩), .slice A m c] w (RbR (.agg #[.int .i64 0, .int .i64 0]) W g d Q { s with f := flt s.f ps m } nx w) := by
 have R1 := Lib.hid R
 have H0 := Lib.hid (RBU.kp0 h ((Kp.refl [] w).alloc (.cells #[.int .i64 0, .int .i64 0] 37)))
 have HF0 := Lib.hid (Blk.new w 37 #[.int .i64 0, .int .i64 0])
 have HK0 := Lib.hid ((Kp.refl [] w).alloc (.cells #[.int .i64 0, .int .i64 0] 37))
 have hfl : w.heap.size ∉ rbL g Q := fun hy => Nat.lt_irrefl _ (h.lt _ hy)
 have hWs := h.old.size
 have HG := Lib.hid hg
 clear h R hg
 go_enter Tryz.func12, Tryz.ntmps12
 go_wp2_with fail
 generalize w.alloc _ = w0 at *
 obtain ⟨f0, hf0⟩ : ∃ f, w.heap.size = f := ⟨_, rfl⟩
 rw [hf0] at HF0 hfl hWs ⊢
 have HSZ := Lib.hid hf0
 clear hf0
 go_loopw [5] (fun i wr => ∃ k : Nat, k ≤ m ∧ i = .int .i64 k ∧ RBU W wr g d Q s nx ∧ Blk wr f0 37 #[.int .i64 0, .int .i64 0] ∧ Kp [] w0 wr) (fun i _ => m - (intOf i).toNat)
 case atStart => exact ⟨0, Nat.zero_le _, rfl, H0.out, HF0.out, Kp.refl _ _⟩
 case round =>
  obtain ⟨k, hk, rfl, hb, hf, hkk⟩ := hrel
  have HB := Lib.hid hb
  have HF := Lib.hid hf
  have HK := Lib.hid hkk
  clear hb hf hkk H0 HF0
  by_cases hlt : k < m
  ·obtain ⟨ad, rfl, hl, h0, h1, hp0, hp1, hp2, hp3⟩ := PRow.keep R1.out HB.out.old k hlt
   have hnx := cell_next h1
   obtain ⟨t, ht⟩ : ∃ t, (ps k).at_ = t := ⟨_, rfl⟩
   obtain ⟨pn, hpn⟩ : ∃ n, (ps k).n = n := ⟨_, rfl⟩
   obtain ⟨pA, hpA⟩ : ∃ a, (ps k).A = a := ⟨_, rfl⟩
   obtain ⟨pc, hpc⟩ : ∃ c, (ps k).c = c := ⟨_, rfl⟩
   rw [ht] at h0 hp0
   rw [hpn, hpA, hpc] at hnx
   rw [hpn, hpc] at hp1
   rw [hpc] at hp2
   unfold maxLen at hp2
   obtain ⟨tb0, tb1⟩ := bounds_i64 hp0
   obtain ⟨g0, g1⟩ := HG.out k hlt
   rw [ht] at g0 g1
   rw [hpn] at g1
   have HT := Lib.hid ht
   have HPN := Lib.hid hpn
   have d1 : decide (t < 0) = false := decide_eq_false (by omega)
   have d2 : decide (8192 < t) = false := decide_eq_false (by omega)
   have d3 : decide (8192 - t < (pn : Int)) = false := decide_eq_false (by omega)
   clear h1 hp0 hp3 ht hpn hpA hpc
   go_wp2_with fail
   go_quiet (fail)
   go_wp2_with fail
   go_roundw
   case rel => exact ⟨k + 1, by omega, by go_num, HB.out.kp0 ((Kp.refl [] _).drewN _), HF.out.drewN _, HK.out.drewN _⟩
   case measure => simp [intOf]; omega
  ·obtain rfl : k = m := by omega
   clear hlt hk
   have HKm := Lib.hid (HK.out.mono (M := [Q.m]) (by simp))
   go_wp2_with fail
   clear HK
   generalize wr = wa at *
   go_loopw [6] (fun i wr => ∃ q : Nat, q ≤ k ∧ i = .int .i64 q ∧ RBU W wr g d Q { s with f := flt s.f ps q } nx ∧ Blk wr f0 37 #[.int .i64 0, .int .i64 0] ∧ Kp [Q.m] w0 wr) (fun i _ => k - (intOf i).toNat)
   case atStart => exact ⟨0, Nat.zero_le _, rfl, HB.out, HF.out, HKm.out⟩
   case round =>
    obtain ⟨q, hq, rfl, hb, hf, hkk⟩ := hrel
    clear HB HF HKm
    have HB := Lib.hid hb
    have HF := Lib.hid hf
    have HK := Lib.hid hkk
    clear hb hf hkk
    by_cases hlt : q < k
    ·have hql := hlt
     obtain ⟨ad, rfl, hl, h0, h1, hp0, hp1, hp2, hp3⟩ := PRow.keep R1.out HB.out.old q hlt
     have hnx := cell_next h1
     obtain ⟨g0, g1⟩ := HG.out q hlt
     obtain ⟨t, ht⟩ : ∃ t, (ps q).at_ = t := ⟨_, rfl⟩
     obtain ⟨pn, hpn⟩ : ∃ n, (ps q).n = n := ⟨_, rfl⟩
     obtain ⟨pA, hpA⟩ : ∃ a, (ps q).A = a := ⟨_, rfl⟩
     obtain ⟨pc, hpc⟩ : ∃ c, (ps q).c = c := ⟨_, rfl⟩
     rw [ht] at h0 g0 g1
     rw [hpn, hpA, hpc] at hnx
     rw [hpn] at g1
     obtain ⟨T, rfl⟩ := Int.eq_ofNat_of_zero_le g0
     have HT := Lib.hid ht
     have HPN := Lib.hid hpn
     have HPA := Lib.hid hpA
     have HPC := Lib.hid hpc
     clear h0 h1 hnx hp0 hp1 hp2 hp3 ht hpn hpA hpc hl
     go_wp2_with fail
     generalize wr = wb at *
     go_loopw [7] (fun i wr => ∃ j : Nat, j ≤ pn ∧ i = .int .i64 j ∧ RBU W wr g d Q { s with f := laidTo (flt s.f ps q) (ps q) j } nx ∧ Blk wr f0 37 #[.int .i64 0, .int .i64 0] ∧ Kp [Q.m] w0 wr) (fun i _ => pn - (intOf i).toNat)
     case atStart => exact ⟨0, Nat.zero_le _, rfl, by rw [laidTo_zero]; exact HB.out, HF.out, HK.out⟩
     case round =>
      obtain ⟨j, hj, rfl, hb, hf, hkk⟩ := hrel
      clear HB HF HK
      have HB := Lib.hid hb
      have HF := Lib.hid hf
      have HK := Lib.hid hkk
      clear hb hf hkk
      obtain ⟨ad2, ha2, hl, h0, h1, hp0, hp1, hp2, hp3⟩ := PRow.keep R1.out HB.out.old q hql
      cases ha2
      have hnx := cell_next h1
      rw [HT.out] at h0
      rw [HPN.out, HPA.out, HPC.out] at hnx
      rw [HPA.out, HPN.out] at hp3
      have c1 : wr.cell? ⟨g, 1, none⟩ = some (.slice (some ⟨Q.m, 0, none⟩) 8192 Q.mc) := HB.out.cells.2.1
      by_cases hjl : j < pn
      ·obtain ⟨bd, rfl, hbl, hcb, hwf⟩ := hp3 j hjl
       obtain ⟨z0, z1⟩ := bounds_u8 hwf
       obtain ⟨z, hz⟩ : ∃ z, (ps q).z j = z := ⟨_, rfl⟩
       rw [hz] at hcb z0 z1
       have HZ := Lib.hid hz
       obtain ⟨C, hC, hA⟩ := HB.out.ram
       have hTj : T + j < 8192 := by omega
       have hcm : wr.cell? ⟨Q.m, T + j, none⟩ = some (.int .u8 (laidTo (flt s.f ps q) (ps q) j (T + j))) := by rw [hC.cell]; simpa using hA (T + j) hTj
       have hfm : wr.frozen? ⟨Q.m, T + j, none⟩ = false := hC.frozen _
       have e1 : IntKind.i64.wrap ((T : Int) + (j : Int)) = ((T + j : Nat) : Int) := by rw [IntWalk.i64_in _ (by omega)]; omega
       have e2 : (T : Int) + (j : Int) = ((T + j : Nat) : Int) := by omega
       obtain ⟨E, hE⟩ : ∃ E, T + j = E := ⟨_, rfl⟩
       rw [hE] at hTj hcm hfm e1 e2
       have j0 : (j : Int) < pn := by omega
       have E0 : (E : Int) < 8192 := by omega
       have hM := Lib.hid hC
       have hMA := Lib.hid hA
       have HE := Lib.hid hE
       clear h1 hp0 hp1 hp2 hp3 hz hwf hC hA hE
       go_wp2_with fail
       go_region
       all_goals
        go_wp2_with fail
        have kS : Kp [Q.m] wr (wr.setCell ⟨Q.m, E, none⟩ (.int .u8 z)).drew := ((Kp.refl [Q.m] wr).setCell (p := ⟨Q.m, E, none⟩) (.inl (List.mem_singleton.2 rfl)) _).drew
        have hset : Blk (wr.setCell ⟨Q.m, E, none⟩ (.int .u8 z)).drew Q.m 5 (C.set E (.int .u8 z)).toArray := by
         have := (hM.out.set_ E (.int .u8 z)).drew_
         rwa [List.setIfInBounds_toArray] at this
        have hnew : BAt (C.set E (.int .u8 z)) (laidTo (flt s.f ps q) (ps q) (j + 1)) := fun i hi => by
         rw [← laidTo_fw _ _ _ (by rw [HT.out]; omega) (by rw [HT.out]; omega), HT.out, HZ.out]
         unfold fw
         have e3 : (((T : Int) + (j : Int)) % 8192).toNat = E := by omega
         rw [e3]
         have hCi := hMA.out i hi
         by_cases hiE : i = E
         ·subst hiE
          rw [if_pos rfl, List.getElem?_set_self (List.getElem?_eq_some_iff.1 hCi).1]
         ·rw [if_neg hiE, List.getElem?_set_ne (fun h => hiE h.symm)]
          exact hCi
        exact ⟨⟨j + 1, by omega, by go_num, HB.out.mem kS hset hnew, HF.out.kp kS (fun hy => hfl (mem_rbL.2 (.inr (.inl (List.mem_singleton.1 hy))))), HK.out.trans kS (fun z hz => .inl hz)⟩, by simp [intOf]; omega⟩
      ·obtain rfl : j = pn := by omega
       clear h1 hp0 hp3
       go_wp2_with fail
       have HBn : Hid (RBU W wr g d Q { s with f := flt s.f ps (q + 1) } nx) := Lib.hid (by
        have := HB.out
        rw [← HPN.out] at this
        exact this)
       exact ⟨⟨q + 1, by omega, by go_num, HBn.out, HF.out, HK.out⟩, by simp [intOf]; omega⟩
    ·obtain rfl : q = k := by omega
     have c0 : wr.cell? ⟨f0, 0, none⟩ = some (.int .i64 0) := HF.out.cell 0
     have c1 : wr.cell? ⟨f0, 1, none⟩ = some (.int .i64 0) := HF.out.cell 1
     have r0 : wr.frozen? ⟨f0, 0, none⟩ = false := HF.out.frozen 0
     have r1 : wr.frozen? ⟨f0, 1, none⟩ = false := HF.out.frozen 1
     go_wp2_with fail
     refine bodyPost_ret (v := .agg #[.int .i64 0, .int .i64 0]) (results_cell (a := ⟨f0, 0, none⟩) Tryz.results12 (by rfl) (((HF.out.set_ 0 (.int .i64 0)).set_ 1 (.int .i64 0)).run_load (P := Tryz.prog) Tryz.underlying37 rfl (by kernel_rfl))) rfl ?_
     exact RBU.fin HK0.out (HK.out.mono (M := rbL g Q) (fun z hz => mem_rbL.2 (.inr (.inl (List.mem_singleton.1 hz))))) HB.out (((Kp.refl [f0] _).setCell (p := ⟨f0, 0, none⟩) (.inl (List.mem_singleton.2 rfl)) _).setCell (p := ⟨f0, 1, none⟩) (.inl (List.mem_singleton.2 rfl)) _) hfl (by rw [HSZ.out]; exact Nat.le_refl _) hWs
end Go.Proofs.YtndhkdcdhpfajaaGreat
