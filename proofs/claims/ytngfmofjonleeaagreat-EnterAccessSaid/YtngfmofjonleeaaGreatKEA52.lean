/-
  Texts of these proofs, one behind the other: Rb15, Rb16, Rb11, Rb17.
-/
import Derived.Test.YtngfmofjonleeaaGreatKEA39
import Derived.Test.YtngfmofjonleeaaGreatKEA51
import Derived.Test.YtngfmofjonleeaaGreatKEA04
import Derived.Deep.Cut
import Derived.Deep.CutRange
import Derived.Deep.CutBlock
import Derived.Deep.RegionHeld3
import Derived.Test.YtngfmofjonleeaaGreatKEA12
import Derived.Test.YtngfmofjonleeaaGreatKEA13
import Derived.Test.YtngfmofjonleeaaGreatKEA38
import Derived.Test.YtngfmofjonleeaaGreatKEA34
namespace Go.Proofs.YtngfmofjonleeaaGreat
open Go.RowKit
set_option linter.unusedVariables false
set_option linter.unusedSimpArgs false
set_option maxRecDepth 100000
/-- What is behind an empty row of the call's own: a row that is there, nil or not. -/
theorem app_empty {P : Program} {t e ty : TypeId} {z : Value} {m bytes : Nat} {u : World} {a : Nat} {A : Option Addr} {n c B : Nat} {f : Nat → Nat → Value} (ht : P.underlying t = some (.slice e)) (hinfo : (P.info? e).map (fun i => (i.zero, i.size, i.bytes)) = some (some z, m, bytes)) (hz : z.cells.size = m) (hm : 0 < m)
    (h1 : ∀ i j, i < n → j < m → (f i j).oneCell' = true) (hb : n * bytes ≤ 140737488355328) (hn : n ≤ maxLen) (hA : Blk u a e #[]) (hB : B ≤ a) (R : FRow u m A n f) (hnil : A = none → n = 0 ∧ c = 0) :
    ∃ v u', (Builtin.append_ #[t, t] ty #[.slice (some ⟨a, 0, none⟩) 0 0, .slice A n c]).run P u = .ok v u' ∧ u'.ownsRow B e m v n (cellsOf_ m f n) ∧ Kp [a] u u' := by
  obtain ⟨i, hi, hzz⟩ := Option.map_eq_some_iff.1 hinfo
  simp only [Prod.mk.injEq] at hzz
  obtain ⟨hz', hs, hby⟩ := hzz
  have hown0 : u.ownsRow B e m (.slice (some ⟨a, 0, none⟩) 0 0) 0 [] :=
    ⟨by simp, Or.inr ⟨a, 0, #[], rfl, hB, hA, Nat.le_refl _, by unfold maxLen; omega, by simp, by simp⟩⟩
  cases A with
  | none =>
    obtain ⟨rfl, rfl⟩ := hnil rfl
    refine ⟨.slice (some ⟨a, 0, none⟩) 0 0, u, ?_, by simpa [cellsOf_] using hown0, Kp.refl _ _⟩
    simp [Builtin.append_, run_underlying ht, sizeOf, typeInfo, hi, Builtin.lenOf, Builtin.firstCells, storeCells]
  | some ad =>
    obtain ⟨v', w', q1, q2, q3, _, _⟩ := run_append_own_at (P := P) u B t ty e i z m bytes ht hi hz' hs hby hz hm _ 0 [] hown0 ad n c (cellsOf_ m f n) (cellsOf_len m f n)
      (fun q x hu => by
        have hq : q < n * m := by have := (List.getElem?_eq_some_iff.1 hu).1; rwa [cellsOf_len] at this
        rw [cellsOf_at m f n q hq] at hu
        injection hu with hu
        subst hu
        have hin : q / m < n := by rw [Nat.div_lt_iff_lt_mul hm]; exact hq
        obtain ⟨ae, ea, _, hc⟩ := R (q / m) hin
        injection ea with ea
        subst ea
        have := hc (q % m) (Nat.mod_lt _ hm)
        rwa [show q / m * m + q % m = q from Nat.div_add_mod' q m] at this)
      (cellsOf_one h1) (by omega) (by rw [Nat.zero_add]; exact hb) (Nat.le_trans hB (Nat.le_of_lt hA.lt))
    rw [Nat.zero_add, List.nil_append] at q2
    exact ⟨v', w', q1, q2, Kp.of_gb q3⟩
def bF (f : Nat → Int) (i : Nat) (_ : Nat) : Value := .int .u8 (f i)
theorem bF_cells {C : List Value} {f : Nat → Int} (w : World) (m : Nat) (hb : Blk w m 5 C.toArray) (h : BAt C f) : FRow w 1 (some ⟨m, 0, none⟩) 8192 (bF f) := fun i hi =>
  ⟨_, rfl, hb.lt, fun j hj => by
    obtain rfl : j = 0 := by omega
    rw [Nat.mul_one, Nat.add_zero, add_zero_block, hb.cell]
    simpa [bF] using h i hi⟩
/-- A row of bytes of its own, as the reference's work memory. -/
theorem own_bat {w : World} {B : Nat} {v : Value} {f : Nat → Int} (h : w.ownsRow B 5 1 v 8192 (cellsOf_ 1 (bF f) 8192)) : ∃ m mc, v = .slice (some ⟨m, 0, none⟩) 8192 mc ∧ B ≤ m ∧ 8192 ≤ mc ∧ mc ≤ maxLen ∧ ∃ C : List Value, Blk w m 5 C.toArray ∧ BAt C f := by
  rcases h.2 with ⟨_, h0⟩ | ⟨g, cap, cur, rfl, hg, hh, hnc, hcm, hcs, hcur⟩
  · omega
  · refine ⟨g, cap, rfl, hg, hnc, hcm, cur.toList, hh, fun i hi => ?_⟩
    have h2 : (cur.toList.take (8192 * 1))[i]? = some (.int .u8 (f i)) := by
      rw [hcur, cellsOf_at 1 (bF f) 8192 i (by omega)]
      simp [bF]
    rw [List.getElem?_take] at h2
    rw [if_pos (by omega)] at h2
    exact h2
def RbCopyR (W : World) (g : Nat) (d : Hd) (Q : Rbp) (s : Bs) (nx : Bool) (w : World) (e : Ending) (w' : World) : Prop :=
  ∃ g2 Q2, e = .returned (.pointer (some ⟨g2, 0, none⟩)) ∧ RBU W w' g2 d Q2 s nx ∧ RBU W w' g d Q s nx ∧ Below w.heap.size w w' ∧ (∀ y ∈ rbL g2 Q2, w.heap.size ≤ y) ∧ Q2.Z = Q.Z ∧ Q2.A = Q.A
/-- What stands between the operations of the region: the bus as it was; what has been made yet. -/
structure CX (W w : World) (g : Nat) (d : Hd) (Q : Rbp) (s : Bs) (nx : Bool) (o7 o31 om : Option Nat) (op : Option (Nat × Rr)) (oc : Option Nat) (u : World) : Prop where
  hr : RBU W u g d Q s nx
  bb : Below w.heap.size w u
  lt : ∀ y ∈ rbL g Q, y < w.heap.size
  wl : W.heap.size ≤ w.heap.size ∧ ∀ ad, Q.A = some ad → ad.block < w.heap.size
  m7 : ∀ a, o7 = some a → Blk u a 5 #[] ∧ w.heap.size ≤ a
  m31 : ∀ a, o31 = some a → Blk u a 129 #[] ∧ w.heap.size ≤ a
  mm : ∀ a, om = some a → (∃ C : List Value, Blk u a 5 C.toArray ∧ BAt C s.f) ∧ w.heap.size ≤ a
  mp : ∀ x, op = some x → RHp u x.1 d x.2 Q.Z s.x ∧ ∀ y ∈ x.2.all x.1, w.heap.size ≤ y
  mc : ∀ a, oc = some a → Blk u a 161 (rk s.now s.cyc s.fast s.asked nx) ∧ w.heap.size ≤ a
section
variable {W w u u' : World} {g : Nat} {d : Hd} {Q : Rbp} {s : Bs} {nx : Bool} {o7 o31 om oc : Option Nat} {op : Option (Nat × Rr)}
theorem CX.kp0 (h : CX W w g d Q s nx o7 o31 om op oc u) (k : Kp [] u u') : CX W w g d Q s nx o7 o31 om op oc u' :=
  ⟨h.hr.kp0 k, k.onto h.bb h.bb.size (by simp), h.lt, h.wl, fun a e => ⟨(h.m7 a e).1.kp k (by simp), (h.m7 a e).2⟩, fun a e => ⟨(h.m31 a e).1.kp k (by simp), (h.m31 a e).2⟩,
    fun a e => ⟨by obtain ⟨C, hC, hb⟩ := (h.mm a e).1; exact ⟨C, hC.kp k (by simp), hb⟩, (h.mm a e).2⟩, fun x e => ⟨(h.mp x e).1.kp0 k, (h.mp x e).2⟩, fun a e => ⟨(h.mc a e).1.kp k (by simp), (h.mc a e).2⟩⟩
theorem CX.below (h : CX W w g d Q s nx o7 o31 om op oc u) (b : Below u.heap.size u u') : CX W w g d Q s nx o7 o31 om op oc u' := h.kp0 (Kp.of_below b)
theorem CX.s4 (h : CX W w g d Q s nx none o31 om op oc u) : CX W w g d Q s nx (some u.heap.size) o31 om op oc (u.alloc (.cells #[] 5)) := by
  have k := h.kp0 ((Kp.refl _ _).alloc (.cells #[] 5))
  exact ⟨k.hr, k.bb, k.lt, k.wl, fun a e => by injection e with e; subst e; exact ⟨Blk.new u _ _, h.bb.size⟩, k.m31, k.mm, k.mp, k.mc⟩
theorem CX.off {a : Nat} (h : CX W w g d Q s nx o7 o31 om op oc u) (ha : w.heap.size ≤ a) : ∀ y ∈ rbL g Q, y ∉ [a] := fun y hy e => by
  have := h.lt y hy
  simp only [List.mem_singleton] at e
  omega
theorem CX.offA {a : Nat} (h : CX W w g d Q s nx o7 o31 om op oc u) (ha : w.heap.size ≤ a) : ∀ ad, Q.A = some ad → ad.block ∉ [a] := fun ad e hy => by
  have := h.wl.2 ad e
  simp only [List.mem_singleton] at hy
  omega
theorem CX.s9 {a7 : Nat} (h : CX W w g d Q s nx (some a7) o31 none none none u) (hf : ∀ i, i < 8192 → 0 ≤ s.f i ∧ s.f i ≤ 255) {ty : TypeId} {mc0 : Nat} :
    ∃ m mc u', (Builtin.append_ #[34, 34] ty #[.slice (some ⟨a7, 0, none⟩) 0 0, .slice (some ⟨Q.m, 0, none⟩) 8192 mc0]).run Tryz.prog u = .ok (.slice (some ⟨m, 0, none⟩) 8192 mc) u' ∧ 8192 ≤ mc ∧ mc ≤ maxLen ∧ CX W w g d Q s nx none o31 (some m) none none u' := by
  obtain ⟨C, hC, hb⟩ := h.hr.ram
  obtain ⟨h7, ha⟩ := h.m7 a7 rfl
  obtain ⟨v, u', q1, q2, k⟩ := app_empty (P := Tryz.prog) (t := 34) (ty := ty) (c := mc0) (B := w.heap.size) Tryz.underlying34 (show (Tryz.prog.info? 5).map (fun i => (i.zero, i.size, i.bytes)) = some (some (.int .u8 0), 1, 1) by kernel_rfl) rfl (by omega) (fun i j _ _ => rfl) (by omega) (by unfold maxLen; omega) h7 ha (bF_cells u Q.m hC hb) (by simp)
  obtain ⟨m, mc, rfl, hm, c1, c2, C2, hC2, hb2⟩ := own_bat q2
  refine ⟨m, mc, u', q1, c1, c2, ⟨h.hr.kp k (h.off ha) (fun y hy => ?_) (h.offA ha), k.onto h.bb h.bb.size (fun y hy => ?_), h.lt, h.wl, by simp, fun a e => ⟨(h.m31 a e).1.kp k ?_, (h.m31 a e).2⟩, fun a e => ?_, by simp, by simp⟩⟩
  · obtain rfl : y = a7 := by simpa using hy
    exact Nat.le_trans h.wl.1 ha
  · obtain rfl : y = a7 := by simpa using hy
    exact ha
  · simp only [List.mem_singleton]
    exact (h.m31 a e).1.ne_ h7 (by decide)
  · injection e with e
    subst e
    exact ⟨⟨C2, hC2, hb2⟩, hm⟩
theorem CX.done {m mc c2 r2 : Nat} {J2 : Rr} {v : Value} (h : CX W w g d Q s nx none none (some m) (some (r2, J2)) (some c2) u) (hv : u.ownsRow w.heap.size 129 5 v s.tl.length (accL s.tl)) (c1 : 8192 ≤ mc) (c3 : mc ≤ maxLen) :
    RbCopyR W g d Q s nx w (.returned (.pointer (some ⟨u.heap.size, 0, none⟩))) (u.alloc (.cells #[.slice Q.A s.rn Q.ca, .slice (some ⟨m, 0, none⟩) 8192 mc, .pointer (some ⟨r2, 0, none⟩), .pointer (some ⟨c2, 0, none⟩), .int .i64 s.left, .bool s.over, v] 56)) := by
  obtain ⟨⟨C, hC, hb⟩, hm⟩ := h.mm m rfl
  obtain ⟨hp, hpn⟩ := h.mp (r2, J2) rfl
  obtain ⟨hc, hcn⟩ := h.mc c2 rfl
  have ka := fun o => (Kp.refl [] u).alloc o
  have hWw : W.heap.size ≤ w.heap.size := h.wl.1
  have NEW : ∀ y ∈ rbL u.heap.size ({ Q with m := m, mc := mc, p := r2, J := J2, c := c2, tr := v } : Rbp), w.heap.size ≤ y := by
    intro y hy
    rcases mem_rbL.1 hy with e | e | e | e | e
    · rw [e]; exact h.bb.size
    · rw [e]; exact hm
    · rw [e]; exact hcn
    · exact hpn y e
    · rcases hv.2 with ⟨rfl, _⟩ | ⟨b, cap, cur, rfl, hg, _⟩
      · cases e
      · cases e; exact hg
  refine ⟨u.heap.size, { Q with m := m, mc := mc, p := r2, J := J2, c := c2, tr := v }, rfl, ⟨Blk.new_ rfl, ⟨C, hC.alloc _, hb⟩, hc.alloc _, hp.kp0 (ka _), own_base (own_kpL hv (ka _) (by simp)) (Nat.zero_le _), (h.kp0 (ka _)).hr.old, fun y hy => Nat.le_trans hWw (NEW y hy), h.hr.rom.kp (ka _) (by simp), fun ad e => ⟨((h.kp0 (ka _)).hr.rof ad e).1, fun hy => by (have h1 := NEW _ hy; have h2 := h.wl.2 ad e; omega)⟩, h.hr.nx, ⟨c1, c3, h.hr.cap.2.2⟩⟩, (h.kp0 (ka _)).hr, (h.kp0 (ka _)).bb, NEW, rfl, rfl⟩
end
end Go.Proofs.YtngfmofjonleeaaGreat
namespace Go.Proofs.YtngfmofjonleeaaGreat
open Go.RowKit
set_option linter.unusedVariables false
set_option linter.unusedSimpArgs false
set_option maxRecDepth 100000
end Go.Proofs.YtngfmofjonleeaaGreat
namespace Go.Proofs.YtngfmofjonleeaaGreat
open Go.RowKit
set_option linter.unusedVariables false
set_option linter.unusedSimpArgs false
set_option maxRecDepth 100000
section
variable {W w : World} {g : Nat} {d : Hd} {P : Bp} {r : Nat} {Q : Rbp} {s : Bs} {nx : Bool}
end
end Go.Proofs.YtngfmofjonleeaaGreat
namespace Go.Proofs.YtngfmofjonleeaaGreat
open Go.RowKit
set_option linter.unusedVariables false
set_option linter.unusedSimpArgs false
set_option maxRecDepth 100000
section
variable {W w w1 w2 w5 w6 w7 w' : World} {g r p q : Nat} {d : Hd} {P : Bp} {Q : Rbp} {s : Bs} {nx : Bool} {b : Hb} {x : Hp} {J : Rr} {Z : Rz} {L : List Nat}
theorem bx_new {rv : Value} {rn : Nat} {rz : Nat → Int} {bu : Int} {m : Nat} (hp : HP w5 p d b x) (hr : RHp w5 q d J Z x) (hlo : ∀ y ∈ [p, b.v, b.c, b.p], W.heap.size ≤ y) (ap : ∀ y ∈ [p, b.v, b.c, b.p], y ∉ J.all q)
    {A : Option Addr} {ca : Nat} (hA : ∀ ad, A = some ad → ad.block ∉ bL g ⟨m, none, p, b, .slice none 0 0⟩)
    (hW : W.heap.size ≤ w5.heap.size) (hg : w5.heap.size ≤ g) (hm : w5.heap.size ≤ m) (hb : BU w6 g d ⟨m, none, p, b, .slice none 0 0⟩ (Bs.new rv rn rz x bu))
    (R : RbNewR W d (fun q' => q'.p = q ∧ q'.J = J ∧ q'.Z = Z ∧ q'.A = A ∧ q'.ca = ca) (Bs.new rv rn rz x bu) w6 r w7) :
    ∃ Q, BX W w7 g d ⟨m, none, p, b, .slice none 0 0⟩ r Q (Bs.new rv rn rz x bu) false ∧ Q.Z = Z ∧ Below w6.heap.size w6 w7 := by
  obtain ⟨Q, ⟨e1, e2, e3, e4, e5⟩, hrb, hB, hr6, hm6, hc6, ht⟩ := R
  have hlt := hb.lt
  have hg6 : g < w6.heap.size := hlt g (mem_bL.2 (.inl rfl))
  have l5 : ∀ y ∈ [p, b.v, b.c, b.p], y < w5.heap.size := fun y hy => by
    obtain ⟨a1, a2, a3, a4⟩ := hp.lt
    simp only [List.mem_cons, List.not_mem_nil, or_false] at hy
    rcases hy with rfl | rfl | rfl | rfl <;> assumption
  have j5 : ∀ y ∈ J.all q, y < w5.heap.size := by
    intro y hy
    simp only [Rr.all, List.mem_cons, List.not_mem_nil, or_false] at hy
    rcases hy with rfl | rfl | rfl | rfl | rfl | rfl | rfl
    · exact hr.pg.lt
    · exact hr.tm.1.lt
    · exact hr.q.1.lt
    · exact hr.pt.1.lt
    · exact hr.v.lt
    · exact hr.c.lt
    · exact hr.l.lt
  have cl : ∀ y ∈ bL g ⟨m, none, p, b, .slice none 0 0⟩, (w5.heap.size ≤ y) ∨ y ∈ [p, b.v, b.c, b.p] := fun y hy => by
    rcases mem_bL.1 hy with rfl | rfl | e | rfl | rfl | rfl | rfl | e
    · exact .inl hg
    · exact .inl hm
    · cases e
    · exact .inr (by simp)
    · exact .inr (by simp)
    · exact .inr (by simp)
    · exact .inr (by simp)
    · cases e
  refine ⟨Q, ⟨hb.keep hB, hrb, fun y hy hy2 => ?_, fun u hu => ?_, fun y hy => ?_, fun ad e hy => ?_⟩, e3, hB⟩
  · have hy6 := hlt y hy
    rcases mem_rbL.1 hy2 with e | e | e | e | e
    · omega
    · omega
    · omega
    · rw [e1, e2] at e
      rcases cl y hy with h | h
      · have := j5 y e; omega
      · exact ap y h e
    · rw [ht] at e; cases e
  · have hu6 : u < w6.heap.size := hlt u (by
      simp only [List.mem_cons, List.not_mem_nil, or_false] at hu
      rcases hu with rfl | rfl | rfl | rfl <;> exact mem_bL.2 (by simp))
    omega
  · rcases cl y hy with h | h
    · omega
    · exact hlo y h
  · rw [e4] at e
    exact hA ad e hy
end
end Go.Proofs.YtngfmofjonleeaaGreat
