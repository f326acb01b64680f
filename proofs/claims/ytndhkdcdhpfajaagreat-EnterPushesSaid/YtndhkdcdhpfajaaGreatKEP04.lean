/-
  Texts of these proofs, one behind the other: G6, G12.
-/
import Derived.Test.YtndhkdcdhpfajaaGreatKEP02
import Derived.Test.YtndhkdcdhpfajaaGreatKEP03
namespace Go.Proofs.YtndhkdcdhpfajaaGreat
open Go.RowKit
theorem below_like {B : Nat} {a w w2 : World} (h : Below B a w) (e1 : w2.heap = w.heap) (e2 : w2.os = w.os) (e3 : w2.tape = w.tape) (e4 : w2.output = w.output) : Below B a w2 :=
  ⟨e2.trans h.os, e3.trans h.tape, e4.trans h.output, by rw [e1]; exact h.size, fun k hk => by rw [e1]; exact h.block k hk⟩
theorem gb_cell {w0 w w' : World} {row : Option Nat} (q : w.grownBy w' row) (e : w.heap = w0.heap) {a : Addr} {v : Value} (h : w0.cell? a = some v) (hne : some a.block ≠ row) : w'.cell? a = some v := by
  have hl := cell_lt h
  have hb : w'.heap[a.block]? = w0.heap[a.block]? := by rw [← e]; exact q.block a.block (by rw [e]; exact hl) hne
  exact (World.cell?_of_block hb).trans h
theorem gb_from {B : Nat} {a w0 w w' : World} {g : Nat} (h : Below B a w0) (q : w.grownBy w' (some g)) (e1 : w.heap = w0.heap) (e2 : w.os = w0.os) (e3 : w.tape = w0.tape) (e4 : w.output = w0.output) (hB : B ≤ w0.heap.size) (hr : B ≤ g) : Below B a w' :=
  (below_like h e1 e2 e3 e4).grown q (by rw [e1]; exact hB) (fun k e => by cases e; exact hr)
end Go.Proofs.YtndhkdcdhpfajaaGreat
namespace Go.Proofs.YtndhkdcdhpfajaaGreat
open Go.RowKit
set_option linter.unusedVariables false
/-- Of the blocks that were there those of L alone may have changed. -/
structure Kp (L : List Nat) (w w' : World) : Prop where
  os : w'.os = w.os
  tape : w'.tape = w.tape
  output : w'.output = w.output
  size : w.heap.size ≤ w'.heap.size
  block : ∀ k, k < w.heap.size → k ∉ L → w'.heap[k]? = w.heap[k]?
section
variable {L M : List Nat} {a b c w w' : World} {g : Nat} {t : TypeId} {cs : Array Value}
theorem Kp.refl (L : List Nat) (w : World) : Kp L w w := ⟨rfl, rfl, rfl, Nat.le_refl _, fun _ _ _ => rfl⟩
theorem Kp.mono (h : Kp L a b) (hs : ∀ x ∈ L, x ∈ M) : Kp M a b := ⟨h.os, h.tape, h.output, h.size, fun k hk hn => h.block k hk fun e => hn (hs k e)⟩
/-- What is changed afterwards may be of the blocks made since. -/
theorem Kp.trans (h : Kp L a b) (k : Kp M b c) (hs : ∀ x ∈ M, x ∈ L ∨ a.heap.size ≤ x) : Kp L a c :=
  ⟨k.os.trans h.os, k.tape.trans h.tape, k.output.trans h.output, Nat.le_trans h.size k.size, fun i hi hn =>
    (k.block i (Nat.lt_of_lt_of_le hi h.size) fun e => (hs i e).elim hn (by omega)).trans (h.block i hi hn)⟩
theorem Kp.drew (h : Kp L a w) : Kp L a w.drew := ⟨h.os, h.tape, h.output, h.size, h.block⟩
theorem Kp.drewN (h : Kp L a w) (n : Nat) : Kp L a (w.drewN n) := ⟨h.os, h.tape, h.output, h.size, h.block⟩
theorem Kp.alloc (h : Kp L a w) (o : Obj) : Kp L a (w.alloc o) :=
  ⟨h.os, h.tape, h.output, by have := h.size; simp; omega, fun k hk hn => (Below.heap_alloc _ _ _ (Nat.lt_of_lt_of_le hk h.size)).trans (h.block k hk hn)⟩
theorem Kp.setCell (h : Kp L a w) {p : Addr} (hp : p.block ∈ L ∨ a.heap.size ≤ p.block) (u : Value) : Kp L a (w.setCell p u) :=
  ⟨h.os, h.tape, h.output, by have := h.size; simp [World.setCell]; omega, fun k hk hn =>
    (Below.heap_setCell _ _ _ _ fun e => by subst e; exact hp.elim hn (by omega)).trans (h.block k hk hn)⟩
theorem Kp.of_below (h : Below w.heap.size w w') : Kp L w w' := ⟨h.os, h.tape, h.output, h.size, fun k hk _ => h.block k hk⟩
theorem Kp.of_grown {row : Option Nat} (h : w.grownBy w' row) (hr : ∀ k, row = some k → k ∈ L) : Kp L w w' :=
  ⟨h.os, h.tape, h.output, h.size, fun k hk hn => h.block k hk fun e => hn (hr k e.symm)⟩
theorem Kp.below {B : Nat} (h : Kp L w w') (hB : B ≤ w.heap.size) (hL : ∀ x ∈ L, B ≤ x) : Below B w w' :=
  ⟨h.os, h.tape, h.output, h.size, fun k hk => h.block k (Nat.lt_of_lt_of_le hk hB) fun e => by have := hL k e; omega⟩
theorem Kp.onto {B : Nat} (h : Below B a w) (k : Kp L w w') (hB : B ≤ w.heap.size) (hL : ∀ x ∈ L, B ≤ x) : Below B a w' := h.trans (k.below hB hL)
theorem Kp.like {w1 : World} (h : Kp L a w1) (e1 : w.heap = w1.heap) (e2 : w.os = w1.os) (e3 : w.tape = w1.tape) (e4 : w.output = w1.output) : Kp L a w :=
  ⟨e2.trans h.os, e3.trans h.tape, e4.trans h.output, by rw [e1]; exact h.size, by rw [e1]; exact h.block⟩
theorem Blk.new_ {w : World} {t : TypeId} {cs : Array Value} {g : Nat} (h : g = w.heap.size) : Blk (w.alloc (.cells cs t)) g t cs := h ▸ Blk.new w t cs
theorem Blk.drew_ (h : Blk w g t cs) : Blk w.drew g t cs := h
theorem Blk.kp (h : Blk w g t cs) (k : Kp L w w') (hg : g ∉ L) : Blk w' g t cs := by
  show w'.heap[g]? = _
  rw [k.block g h.lt hg]; exact h
theorem Kp.cell (k : Kp L w w') {p : Addr} (hl : p.block < w.heap.size) (hp : p.block ∉ L) : w'.cell? p = w.cell? p := World.cell?_of_block (k.block _ hl hp)
theorem IRow.kp {kd : IntKind} {A : Option Addr} {n : Nat} {zs : Nat → Int} (h : IRow w kd A n zs) (k : Kp L w w') (hA : ∀ ad, A = some ad → ad.block ∉ L) : IRow w' kd A n zs := fun i hi => by
  obtain ⟨ad, e, hl, hc, hw⟩ := h i hi
  exact ⟨ad, e, Nat.lt_of_lt_of_le hl k.size, (k.cell (by rw [block_of_add]; exact hl) (by rw [block_of_add]; exact hA ad e)).trans hc, hw⟩
/-- Where a slice's bytes lie is a block of such. -/
def Typed (w : World) (A : Option Addr) (e : TypeId) : Prop := ∀ ad, A = some ad → ∃ C, Blk w ad.block e C
theorem Typed.kp {A : Option Addr} {e : TypeId} (h : Typed w A e) (k : Kp L w w') (hA : ∀ ad, A = some ad → ad.block ∉ L) : Typed w' A e := fun ad x => by
  obtain ⟨C, hC⟩ := h ad x
  exact ⟨C, hC.kp k (hA ad x)⟩
theorem Typed.off {A : Option Addr} {e : TypeId} (h : Typed w A e) (hL : ∀ x ∈ L, ∃ t cs, Blk w x t cs ∧ e ≠ t) : ∀ ad, A = some ad → ad.block ∉ L := fun ad x hx => by
  obtain ⟨C, hC⟩ := h ad x
  obtain ⟨t, cs, hb, hne⟩ := hL _ hx
  exact hC.ne_ hb hne rfl
theorem Typed.none {e : TypeId} : Typed w none e := fun _ x => by cases x
theorem Typed.from_ {A : Option Addr} {e : TypeId} (h : Typed w A e) (j c : Nat) : Typed w (if c = j then A else A.map (·.add j)) e := fun ad x => by
  split at x
  · exact h ad x
  · cases A with
    | none => cases x
    | some a => cases x; rw [block_of_add]; exact h a rfl
theorem IRow.from_ {k : IntKind} {A : Option Addr} {n j c : Nat} {z : Nat → Int} (h : IRow w k A n z) (he : j ≤ n) (hc : n ≤ c) : IRow w k (if c = j then A else A.map (·.add j)) (n - j) (fun i => z (j + i)) := fun i hi => by
  have hne : ¬ c = j := by omega
  obtain ⟨ad, e, hl, hx, hw⟩ := h (j + i) (by omega)
  subst e
  rw [if_neg hne]
  refine ⟨ad.add j, rfl, by rw [block_of_add]; exact hl, ?_, hw⟩
  have ha : (ad.add j).add i = ad.add (j + i) := by
    unfold Addr.add
    simp only [Nat.add_eq_zero_iff]
    by_cases h1 : j = 0 <;> by_cases h2 : i = 0 <;> simp_all [Nat.add_assoc]
  rw [ha]; exact hx
end
end Go.Proofs.YtndhkdcdhpfajaaGreat
