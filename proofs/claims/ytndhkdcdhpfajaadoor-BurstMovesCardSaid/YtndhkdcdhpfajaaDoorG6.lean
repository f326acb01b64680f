/-
  What is kept where a world has new blocks, and writes to one block alone; the draws of an order aside. Over any program.
-/
import Derived.Test.YtndhkdcdhpfajaaDoorG4
import Derived.Test.YtndhkdcdhpfajaaDoorG5
namespace Go.Proofs.YtndhkdcdhpfajaaDoor
open Go.RowKit
theorem below_like {B : Nat} {a w w2 : World} (h : Below B a w) (e1 : w2.heap = w.heap) (e2 : w2.os = w.os) (e3 : w2.tape = w.tape) (e4 : w2.output = w.output) : Below B a w2 :=
  ⟨e2.trans h.os, e3.trans h.tape, e4.trans h.output, by rw [e1]; exact h.size, fun k hk => by rw [e1]; exact h.block k hk⟩
theorem gb_cell {w0 w w' : World} {row : Option Nat} (q : w.grownBy w' row) (e : w.heap = w0.heap) {a : Addr} {v : Value} (h : w0.cell? a = some v) (hne : some a.block ≠ row) : w'.cell? a = some v := by
  have hl := cell_lt h
  have hb : w'.heap[a.block]? = w0.heap[a.block]? := by rw [← e]; exact q.block a.block (by rw [e]; exact hl) hne
  exact (World.cell?_of_block hb).trans h
theorem gb_from {B : Nat} {a w0 w w' : World} {g : Nat} (h : Below B a w0) (q : w.grownBy w' (some g)) (e1 : w.heap = w0.heap) (e2 : w.os = w0.os) (e3 : w.tape = w0.tape) (e4 : w.output = w0.output) (hB : B ≤ w0.heap.size) (hr : B ≤ g) : Below B a w' :=
  (below_like h e1 e2 e3 e4).grown q (by rw [e1]; exact hB) (fun k e => by cases e; exact hr)
end Go.Proofs.YtndhkdcdhpfajaaDoor
