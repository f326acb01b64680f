/-
  Texts of these proofs, one behind the other: G6, G12, G7, G9.
-/
import Derived.Test.YtngfmofjonleeaaGreatKEA03
import Derived.Test.YtngfmofjonleeaaGreatKEA01
import Derived.Maps.AppendAt
import Derived.OwnWalk
namespace Go.Proofs.YtngfmofjonleeaaGreat
open Go.RowKit
end Go.Proofs.YtngfmofjonleeaaGreat
namespace Go.Proofs.YtngfmofjonleeaaGreat
open Go.RowKit
set_option linter.unusedVariables false
/-- Of the blocks that were there those of L alone may have changed. -/
structure Kp (L : List Nat) (w w' : World) : Prop where
  os : w'.os = w.os
  tape : w'.tape = w.tape
  output : w'.output = w.output
  size : w.heap.size ≤ w'.heap.size
  block : ∀ k, k < w.heap.size → k ∉ L → w'.heap[k]? = w.heap[k]?
section
variable {L M : List Nat} {a b c w w' : World} {g : Nat} {t : TypeId} {cs : Array Value}
theorem Kp.refl (L : List Nat) (w : World) : Kp L w w := ⟨rfl, rfl, rfl, Nat.le_refl _, fun _ _ _ => rfl⟩
theorem Kp.mono (h : Kp L a b) (hs : ∀ x ∈ L, x ∈ M) : Kp M a b := ⟨h.os, h.tape, h.output, h.size, fun k hk hn => h.block k hk fun e => hn (hs k e)⟩
/-- What is changed afterwards may be of the blocks made since. -/
theorem Kp.trans (h : Kp L a b) (k : Kp M b c) (hs : ∀ x ∈ M, x ∈ L ∨ a.heap.size ≤ x) : Kp L a c :=
  ⟨k.os.trans h.os, k.tape.trans h.tape, k.output.trans h.output, Nat.le_trans h.size k.size, fun i hi hn =>
    (k.block i (Nat.lt_of_lt_of_le hi h.size) fun e => (hs i e).elim hn (by omega)).trans (h.block i hi hn)⟩
theorem Kp.drew (h : Kp L a w) : Kp L a w.drew := ⟨h.os, h.tape, h.output, h.size, h.block⟩
theorem Kp.drewN (h : Kp L a w) (n : Nat) : Kp L a (w.drewN n) := ⟨h.os, h.tape, h.output, h.size, h.block⟩
theorem Kp.alloc (h : Kp L a w) (o : Obj) : Kp L a (w.alloc o) :=
  ⟨h.os, h.tape, h.output, by have := h.size; simp; omega, fun k hk hn => (Below.heap_alloc _ _ _ (Nat.lt_of_lt_of_le hk h.size)).trans (h.block k hk hn)⟩
theorem Kp.setCell (h : Kp L a w) {p : Addr} (hp : p.block ∈ L ∨ a.heap.size ≤ p.block) (u : Value) : Kp L a (w.setCell p u) :=
  ⟨h.os, h.tape, h.output, by have := h.size; simp [World.setCell]; omega, fun k hk hn =>
    (Below.heap_setCell _ _ _ _ fun e => by subst e; exact hp.elim hn (by omega)).trans (h.block k hk hn)⟩
theorem Kp.of_below (h : Below w.heap.size w w') : Kp L w w' := ⟨h.os, h.tape, h.output, h.size, fun k hk _ => h.block k hk⟩
theorem Kp.of_grown {row : Option Nat} (h : w.grownBy w' row) (hr : ∀ k, row = some k → k ∈ L) : Kp L w w' :=
  ⟨h.os, h.tape, h.output, h.size, fun k hk hn => h.block k hk fun e => hn (hr k e.symm)⟩
theorem Kp.below {B : Nat} (h : Kp L w w') (hB : B ≤ w.heap.size) (hL : ∀ x ∈ L, B ≤ x) : Below B w w' :=
  ⟨h.os, h.tape, h.output, h.size, fun k hk => h.block k (Nat.lt_of_lt_of_le hk hB) fun e => by have := hL k e; omega⟩
theorem Kp.onto {B : Nat} (h : Below B a w) (k : Kp L w w') (hB : B ≤ w.heap.size) (hL : ∀ x ∈ L, B ≤ x) : Below B a w' := h.trans (k.below hB hL)
theorem Blk.new_ {w : World} {t : TypeId} {cs : Array Value} {g : Nat} (h : g = w.heap.size) : Blk (w.alloc (.cells cs t)) g t cs := h ▸ Blk.new w t cs
theorem Blk.drew_ (h : Blk w g t cs) : Blk w.drew g t cs := h
theorem Blk.kp (h : Blk w g t cs) (k : Kp L w w') (hg : g ∉ L) : Blk w' g t cs := by
  show w'.heap[g]? = _
  rw [k.block g h.lt hg]; exact h
theorem Kp.cell (k : Kp L w w') {p : Addr} (hl : p.block < w.heap.size) (hp : p.block ∉ L) : w'.cell? p = w.cell? p := World.cell?_of_block (k.block _ hl hp)
theorem IRow.kp {kd : IntKind} {A : Option Addr} {n : Nat} {zs : Nat → Int} (h : IRow w kd A n zs) (k : Kp L w w') (hA : ∀ ad, A = some ad → ad.block ∉ L) : IRow w' kd A n zs := fun i hi => by
  obtain ⟨ad, e, hl, hc, hw⟩ := h i hi
  exact ⟨ad, e, Nat.lt_of_lt_of_le hl k.size, (k.cell (by rw [block_of_add]; exact hl) (by rw [block_of_add]; exact hA ad e)).trans hc, hw⟩
/-- Where a slice's bytes lie is a block of such. -/
def Typed (w : World) (A : Option Addr) (e : TypeId) : Prop := ∀ ad, A = some ad → ∃ C, Blk w ad.block e C
theorem Typed.kp {A : Option Addr} {e : TypeId} (h : Typed w A e) (k : Kp L w w') (hA : ∀ ad, A = some ad → ad.block ∉ L) : Typed w' A e := fun ad x => by
  obtain ⟨C, hC⟩ := h ad x
  exact ⟨C, hC.kp k (hA ad x)⟩
theorem Typed.off {A : Option Addr} {e : TypeId} (h : Typed w A e) (hL : ∀ x ∈ L, ∃ t cs, Blk w x t cs ∧ e ≠ t) : ∀ ad, A = some ad → ad.block ∉ L := fun ad x hx => by
  obtain ⟨C, hC⟩ := h ad x
  obtain ⟨t, cs, hb, hne⟩ := hL _ hx
  exact hC.ne_ hb hne rfl
theorem Typed.none {e : TypeId} : Typed w none e := fun _ x => by cases x
theorem Typed.from_ {A : Option Addr} {e : TypeId} (h : Typed w A e) (j c : Nat) : Typed w (if c = j then A else A.map (·.add j)) e := fun ad x => by
  split at x
  · exact h ad x
  · cases A with
    | none => cases x
    | some a => cases x; rw [block_of_add]; exact h a rfl
theorem IRow.from_ {k : IntKind} {A : Option Addr} {n j c : Nat} {z : Nat → Int} (h : IRow w k A n z) (he : j ≤ n) (hc : n ≤ c) : IRow w k (if c = j then A else A.map (·.add j)) (n - j) (fun i => z (j + i)) := fun i hi => by
  have hne : ¬ c = j := by omega
  obtain ⟨ad, e, hl, hx, hw⟩ := h (j + i) (by omega)
  subst e
  rw [if_neg hne]
  refine ⟨ad.add j, rfl, by rw [block_of_add]; exact hl, ?_, hw⟩
  have ha : (ad.add j).add i = ad.add (j + i) := by
    unfold Addr.add
    simp only [Nat.add_eq_zero_iff]
    by_cases h1 : j = 0 <;> by_cases h2 : i = 0 <;> simp_all [Nat.add_assoc]
  rw [ha]; exact hx
end
end Go.Proofs.YtngfmofjonleeaaGreat
namespace Go.Proofs.YtngfmofjonleeaaGreat
open Go.RowKit
def boolsOf (z : Nat → Bool) (n : Nat) : List Value := (List.range n).map fun i => .bool (z i)
theorem boolsOf_at (z : Nat → Bool) (n i : Nat) (h : i < n) : (boolsOf z n)[i]? = some (.bool (z i)) := by simp [boolsOf, h]
section
variable {P : Program} {t e ty : TypeId}
end
/-- A built-in append whose run is known. -/
theorem wpList_append_run {P : Program} {w w' : World} {ops : Array Oper} {rest : List Oper} {o : Oper} {a : Act} {Q : Exit → Act → World → Prop} (hg : o.guard = none) (s x : Operand) (t : TypeId)
    (ho : o.op = .call { callee := .builtin .append, args := #[s, x], argTypes := #[t, t] }) {v u v' : Value} (hs : a.eval s = v) (hx : a.eval x = u)
    (hrun : (Builtin.append_ #[t, t] o.type #[v, u]).run P w = .ok v' w') (h : wpList P ops Q rest (a.put o.dst v') w') : wpList P ops Q (o :: rest) a w :=
  wpList_plain hg fun K hK => by
    unfold Oper.wp execOp
    simp only [ho, resolve, invoke, builtin, Sem.run_bind, Sem.run_pure, Result.andThen_ok, List.map_toArray, List.map_cons, List.map_nil, hs, hx, hrun]
    exact hK _ _ h
end Go.Proofs.YtngfmofjonleeaaGreat
namespace Go.Proofs.YtngfmofjonleeaaGreat
open Go.RowKit
set_option linter.unusedVariables false
theorem more_new {P : Program} {t e ty : TypeId} {size bytes : Nat} {z : Value} {w : World} {base n m c g : Nat} {v : Value} {xs : List Value} (ht : P.underlying t = some (.slice e))
    (hinfo : (P.info? e).map (fun i => (i.zero, i.size, i.bytes)) = some (some z, size, bytes)) (hzs : z.cells.size = size) (hsz : 0 < size)
    (hown : w.ownsRow base e size v n xs) (cells : Array Value) (hlen : cells.size = m * size) (h1 : ∀ u ∈ cells.toList, u.oneCell' = true) (hg : g = w.heap.size)
    (hm : n + m ≤ 1099511627776) (hby : (n + m) * bytes ≤ 140737488355328) (hbase : base ≤ w.heap.size) :
    ∃ v' w', (Builtin.append_ #[t, t] ty #[v, .slice (some ⟨g, 0, none⟩) m c]).run P (w.alloc (.cells cells e)) = .ok v' w' ∧ w'.ownsRow base e size v' (n + m) (xs ++ cells.toList) ∧ (w.alloc (.cells cells e)).grownBy w' v.ownBlock := by
  subst hg
  obtain ⟨i, hi, hzz⟩ := Option.map_eq_some_iff.1 hinfo
  simp only [Prod.mk.injEq] at hzz
  obtain ⟨hz, hs, hb⟩ := hzz
  obtain ⟨v', w', h1', h2, h3, _, _⟩ := run_append_own_at (P := P) (w.alloc (.cells cells e)) base t ty e i z size bytes ht hi hz hs hb hzs hsz v n xs (hown.alloc _) ⟨w.heap.size, 0, none⟩ m c cells.toList (by simpa using hlen)
    (fun j u hu => by
      rw [add_zero_block, cell_of_row _ _ j _ e (0, 0) (heap_alloc_new w _)]
      simpa using hu)
    h1 (by unfold maxLen; omega) hby (by simp; omega)
  exact ⟨v', w', h1', h2, h3⟩
end Go.Proofs.YtngfmofjonleeaaGreat
