/-
  Texts of these proofs, one behind the other: G6, G12, G7, G9.
-/
import Derived.Test.YtnhnphifhkkboaaDoorKSW11
import Derived.Test.YtnhnphifhkkboaaDoorKSW01
import Derived.Maps.AppendAt
import Derived.OwnWalk
namespace Go.Proofs.YtnhnphifhkkboaaDoor
open Go.RowKit
theorem below_like {B : Nat} {a w w2 : World} (h : Below B a w) (e1 : w2.heap = w.heap) (e2 : w2.os = w.os) (e3 : w2.tape = w.tape) (e4 : w2.output = w.output) : Below B a w2 :=
  ⟨e2.trans h.os, e3.trans h.tape, e4.trans h.output, by rw [e1]; exact h.size, fun k hk => by rw [e1]; exact h.block k hk⟩
theorem gb_cell {w0 w w' : World} {row : Option Nat} (q : w.grownBy w' row) (e : w.heap = w0.heap) {a : Addr} {v : Value} (h : w0.cell? a = some v) (hne : some a.block ≠ row) : w'.cell? a = some v := by
  have hl := cell_lt h
  have hb : w'.heap[a.block]? = w0.heap[a.block]? := by rw [← e]; exact q.block a.block (by rw [e]; exact hl) hne
  exact (World.cell?_of_block hb).trans h
theorem gb_from {B : Nat} {a w0 w w' : World} {g : Nat} (h : Below B a w0) (q : w.grownBy w' (some g)) (e1 : w.heap = w0.heap) (e2 : w.os = w0.os) (e3 : w.tape = w0.tape) (e4 : w.output = w0.output) (hB : B ≤ w0.heap.size) (hr : B ≤ g) : Below B a w' :=
  (below_like h e1 e2 e3 e4).grown q (by rw [e1]; exact hB) (fun k e => by cases e; exact hr)
end Go.Proofs.YtnhnphifhkkboaaDoor
namespace Go.Proofs.YtnhnphifhkkboaaDoor
open Go.RowKit
set_option linter.unusedVariables false
/-- Of the blocks that were there those of L alone may have changed. -/
structure Kp (L : List Nat) (w w' : World) : Prop where
  os : w'.os = w.os
  tape : w'.tape = w.tape
  output : w'.output = w.output
  size : w.heap.size ≤ w'.heap.size
  block : ∀ k, k < w.heap.size → k ∉ L → w'.heap[k]? = w.heap[k]?
section
variable {L M : List Nat} {a b c w w' : World} {g : Nat} {t : TypeId} {cs : Array Value}
theorem Kp.refl (L : List Nat) (w : World) : Kp L w w := ⟨rfl, rfl, rfl, Nat.le_refl _, fun _ _ _ => rfl⟩
theorem Kp.mono (h : Kp L a b) (hs : ∀ x ∈ L, x ∈ M) : Kp M a b := ⟨h.os, h.tape, h.output, h.size, fun k hk hn => h.block k hk fun e => hn (hs k e)⟩
/-- What is changed afterwards may be of the blocks made since. -/
theorem Kp.trans (h : Kp L a b) (k : Kp M b c) (hs : ∀ x ∈ M, x ∈ L ∨ a.heap.size ≤ x) : Kp L a c :=
  ⟨k.os.trans h.os, k.tape.trans h.tape, k.output.trans h.output, Nat.le_trans h.size k.size, fun i hi hn =>
    (k.block i (Nat.lt_of_lt_of_le hi h.size) fun e => (hs i e).elim hn (by omega)).trans (h.block i hi hn)⟩
theorem Kp.drew (h : Kp L a w) : Kp L a w.drew := ⟨h.os, h.tape, h.output, h.size, h.block⟩
theorem Kp.drewN (h : Kp L a w) (n : Nat) : Kp L a (w.drewN n) := ⟨h.os, h.tape, h.output, h.size, h.block⟩
theorem Kp.alloc (h : Kp L a w) (o : Obj) : Kp L a (w.alloc o) :=
  ⟨h.os, h.tape, h.output, by have := h.size; simp; omega, fun k hk hn => (Below.heap_alloc _ _ _ (Nat.lt_of_lt_of_le hk h.size)).trans (h.block k hk hn)⟩
theorem Kp.setCell (h : Kp L a w) {p : Addr} (hp : p.block ∈ L ∨ a.heap.size ≤ p.block) (u : Value) : Kp L a (w.setCell p u) :=
  ⟨h.os, h.tape, h.output, by have := h.size; simp [World.setCell]; omega, fun k hk hn =>
    (Below.heap_setCell _ _ _ _ fun e => by subst e; exact hp.elim hn (by omega)).trans (h.block k hk hn)⟩
theorem Kp.of_below (h : Below w.heap.size w w') : Kp L w w' := ⟨h.os, h.tape, h.output, h.size, fun k hk _ => h.block k hk⟩
theorem Kp.of_grown {row : Option Nat} (h : w.grownBy w' row) (hr : ∀ k, row = some k → k ∈ L) : Kp L w w' :=
  ⟨h.os, h.tape, h.output, h.size, fun k hk hn => h.block k hk fun e => hn (hr k e.symm)⟩
theorem Kp.below {B : Nat} (h : Kp L w w') (hB : B ≤ w.heap.size) (hL : ∀ x ∈ L, B ≤ x) : Below B w w' :=
  ⟨h.os, h.tape, h.output, h.size, fun k hk => h.block k (Nat.lt_of_lt_of_le hk hB) fun e => by have := hL k e; omega⟩
theorem Kp.onto {B : Nat} (h : Below B a w) (k : Kp L w w') (hB : B ≤ w.heap.size) (hL : ∀ x ∈ L, B ≤ x) : Below B a w' := h.trans (k.below hB hL)
theorem Kp.like {w1 : World} (h : Kp L a w1) (e1 : w.heap = w1.heap) (e2 : w.os = w1.os) (e3 : w.tape = w1.tape) (e4 : w.output = w1.output) : Kp L a w :=
  ⟨e2.trans h.os, e3.trans h.tape, e4.trans h.output, by rw [e1]; exact h.size, by rw [e1]; exact h.block⟩
theorem Blk.new_ {w : World} {t : TypeId} {cs : Array Value} {g : Nat} (h : g = w.heap.size) : Blk (w.alloc (.cells cs t)) g t cs := h ▸ Blk.new w t cs
theorem Blk.drew_ (h : Blk w g t cs) : Blk w.drew g t cs := h
theorem Blk.kp (h : Blk w g t cs) (k : Kp L w w') (hg : g ∉ L) : Blk w' g t cs := by
  show w'.heap[g]? = _
  rw [k.block g h.lt hg]; exact h
theorem Kp.cell (k : Kp L w w') {p : Addr} (hl : p.block < w.heap.size) (hp : p.block ∉ L) : w'.cell? p = w.cell? p := World.cell?_of_block (k.block _ hl hp)
theorem IRow.kp {kd : IntKind} {A : Option Addr} {n : Nat} {zs : Nat → Int} (h : IRow w kd A n zs) (k : Kp L w w') (hA : ∀ ad, A = some ad → ad.block ∉ L) : IRow w' kd A n zs := fun i hi => by
  obtain ⟨ad, e, hl, hc, hw⟩ := h i hi
  exact ⟨ad, e, Nat.lt_of_lt_of_le hl k.size, (k.cell (by rw [block_of_add]; exact hl) (by rw [block_of_add]; exact hA ad e)).trans hc, hw⟩
/-- Where a slice's bytes lie is a block of such. -/
def Typed (w : World) (A : Option Addr) (e : TypeId) : Prop := ∀ ad, A = some ad → ∃ C, Blk w ad.block e C
theorem Typed.kp {A : Option Addr} {e : TypeId} (h : Typed w A e) (k : Kp L w w') (hA : ∀ ad, A = some ad → ad.block ∉ L) : Typed w' A e := fun ad x => by
  obtain ⟨C, hC⟩ := h ad x
  exact ⟨C, hC.kp k (hA ad x)⟩
theorem Typed.off {A : Option Addr} {e : TypeId} (h : Typed w A e) (hL : ∀ x ∈ L, ∃ t cs, Blk w x t cs ∧ e ≠ t) : ∀ ad, A = some ad → ad.block ∉ L := fun ad x hx => by
  obtain ⟨C, hC⟩ := h ad x
  obtain ⟨t, cs, hb, hne⟩ := hL _ hx
  exact hC.ne_ hb hne rfl
theorem Typed.none {e : TypeId} : Typed w none e := fun _ x => by cases x
theorem Typed.from_ {A : Option Addr} {e : TypeId} (h : Typed w A e) (j c : Nat) : Typed w (if c = j then A else A.map (·.add j)) e := fun ad x => by
  split at x
  · exact h ad x
  · cases A with
    | none => cases x
    | some a => cases x; rw [block_of_add]; exact h a rfl
theorem IRow.from_ {k : IntKind} {A : Option Addr} {n j c : Nat} {z : Nat → Int} (h : IRow w k A n z) (he : j ≤ n) (hc : n ≤ c) : IRow w k (if c = j then A else A.map (·.add j)) (n - j) (fun i => z (j + i)) := fun i hi => by
  have hne : ¬ c = j := by omega
  obtain ⟨ad, e, hl, hx, hw⟩ := h (j + i) (by omega)
  subst e
  rw [if_neg hne]
  refine ⟨ad.add j, rfl, by rw [block_of_add]; exact hl, ?_, hw⟩
  have ha : (ad.add j).add i = ad.add (j + i) := by
    unfold Addr.add
    simp only [Nat.add_eq_zero_iff]
    by_cases h1 : j = 0 <;> by_cases h2 : i = 0 <;> simp_all [Nat.add_assoc]
  rw [ha]; exact hx
end
end Go.Proofs.YtnhnphifhkkboaaDoor
namespace Go.Proofs.YtnhnphifhkkboaaDoor
open Go.RowKit
def boolsOf (z : Nat → Bool) (n : Nat) : List Value := (List.range n).map fun i => .bool (z i)
theorem boolsOf_len (z : Nat → Bool) (n : Nat) : (boolsOf z n).length = n := by simp [boolsOf]
theorem boolsOf_at (z : Nat → Bool) (n i : Nat) (h : i < n) : (boolsOf z n)[i]? = some (.bool (z i)) := by simp [boolsOf, h]
section
variable {P : Program} {t e ty : TypeId}
/-- Behind a row of the call's own the bools of a slice that came in, nil or not. -/
theorem more_bools {w : World} {base n : Nat} {v : Value} {xs : List Value} (ht : P.underlying t = some (.slice e)) (hinfo : (P.info? e).map (fun i => (i.zero, i.size, i.bytes)) = some (some (.bool false), 1, 1))
    (hown : w.ownsRow base e 1 v n xs) {A : Option Addr} {m c : Nat} {z : Nat → Bool} (R : BRow w A m z) (hm : n + m ≤ 4096) (hbase : base ≤ w.heap.size) :
    ∃ v' w', (Builtin.append_ #[t, t] ty #[v, .slice A m c]).run P w = .ok v' w' ∧ w'.ownsRow base e 1 v' (n + m) (xs ++ boolsOf z m) ∧ w.grownBy w' v.ownBlock := by
  obtain ⟨i, hi, hzz⟩ := Option.map_eq_some_iff.1 hinfo
  simp only [Prod.mk.injEq] at hzz
  obtain ⟨hz, hs, hb⟩ := hzz
  cases A with
  | none =>
    have h0 : m = 0 := by
      rcases Nat.eq_zero_or_pos m with h | h
      · exact h
      · obtain ⟨_, e, _⟩ := R 0 h; cases e
    subst h0
    refine ⟨v, w, ?_, by simpa [boolsOf] using hown, World.grownBy.refl w _⟩
    rcases hown.2 with ⟨rfl, rfl⟩ | ⟨g, cap, cur, rfl, _, _, hnc, _⟩
    · simp [Builtin.append_, run_underlying ht, sizeOf, typeInfo, hi, Builtin.lenOf, Builtin.firstCells]
    · simp [Builtin.append_, run_underlying ht, sizeOf, typeInfo, hi, Builtin.lenOf, Builtin.firstCells, hnc, storeCells]
  | some ad =>
    obtain ⟨v', w', h1, h2, h3, _, _⟩ := run_append_own_at (P := P) w base t ty e i (.bool false) 1 1 ht hi hz hs hb rfl (by omega) v n xs hown ad m c (boolsOf z m) (by rw [boolsOf_len]; omega)
      (fun j u hu => by
        have hj : j < m := by have := (List.getElem?_eq_some_iff.1 hu).1; rwa [boolsOf_len] at this
        rw [boolsOf_at z m j hj] at hu
        injection hu with hu
        subst hu
        obtain ⟨ae, h, _, hc⟩ := R j hj
        injection h with h
        subst h
        exact hc)
      (fun u hu => by
        simp only [boolsOf, List.mem_map] at hu
        obtain ⟨j, _, rfl⟩ := hu
        rfl)
      (by unfold maxLen; omega) (by omega) hbase
    exact ⟨v', w', h1, h2, h3⟩
theorem cat_bools (w : World) (ht : P.underlying t = some (.slice e)) (hinfo : (P.info? e).map (fun i => (i.zero, i.size, i.bytes)) = some (some (.bool false), 1, 1))
    {A A2 : Option Addr} {n c n2 c2 : Nat} {z z2 : Nat → Bool} (R : BRow w A n z) (R2 : BRow w A2 n2 z2) (hn : n + n2 ≤ 4096) :
    ∃ v1 w1 A3 c3 w2, (Builtin.append_ #[t, t] ty #[.slice (some ⟨w.heap.size, 0, none⟩) 0 0, .slice A n c]).run P (w.alloc (.cells #[] e)) = .ok v1 w1 ∧
      (Builtin.append_ #[t, t] ty #[v1, .slice A2 n2 c2]).run P w1 = .ok (.slice A3 (n + n2) c3) w2 ∧ BRow w2 A3 (n + n2) (fun i => if i < n then z i else z2 (i - n)) ∧ Below w.heap.size w w2 := by
  have hB0 : Below w.heap.size w (w.alloc (.cells #[] e)) := (Below.refl _ _).alloc (Nat.le_refl _) _
  have hown0 : (w.alloc (.cells #[] e)).ownsRow w.heap.size e 1 (.slice (some ⟨w.heap.size, 0, none⟩) 0 0) 0 [] :=
    ⟨rfl, Or.inr ⟨w.heap.size, 0, #[], rfl, Nat.le_refl _, heap_alloc_new w _, Nat.le_refl _, by unfold maxLen; omega, rfl, rfl⟩⟩
  obtain ⟨v1, w1, r1, o1, g1⟩ := more_bools (P := P) (ty := ty) (c := c) ht hinfo hown0 (R.keep hB0) (by omega) hB0.size
  have hB1 : Below w.heap.size w w1 := hB0.grown g1 hB0.size (fun k h => by simp [Value.ownBlock] at h; omega)
  obtain ⟨v2, w2, r2, o2, g2⟩ := more_bools (P := P) (ty := ty) (c := c2) ht hinfo o1 (R2.keep hB1) (by omega) hB1.size
  have hB2 : Below w.heap.size w w2 := hB1.grown g2 hB1.size (fun k h => (o1.lt k h).1)
  have len : ([] ++ boolsOf z n ++ boolsOf z2 n2).length = n + n2 := by simp [boolsOf_len]
  have at_ : ∀ i, i < n + n2 → ([] ++ boolsOf z n ++ boolsOf z2 n2)[i]? = some (.bool (if i < n then z i else z2 (i - n))) := fun i hi => by
    rw [List.nil_append]
    by_cases h : i < n
    · rw [List.getElem?_append_left (by rw [boolsOf_len]; exact h), boolsOf_at z n i h, if_pos h]
    · rw [List.getElem?_append_right (by rw [boolsOf_len]; omega), boolsOf_len, boolsOf_at z2 n2 _ (by omega), if_neg h]
  rcases o2.2 with ⟨rfl, h0⟩ | ⟨g, cap, cur, rfl, hg, hh, hnc, hcm, hcs, hcur⟩
  · have e1 : n + n2 = 0 := by omega
    exact ⟨v1, w1, none, 0, w2, r1, by rw [e1]; exact r2, fun i hi => absurd hi (by omega), hB2⟩
  · have e1 : 0 + n + n2 = n + n2 := by omega
    rw [e1] at r2 o2
    refine ⟨v1, w1, some ⟨g, 0, none⟩, cap, w2, r1, r2, fun i hi => ⟨_, rfl, ?_, ?_⟩, hB2⟩
    · rcases Nat.lt_or_ge g w2.heap.size with h | h
      · exact h
      · rw [Array.getElem?_eq_none h] at hh; cases hh
    · exact o2.cells rfl i _ (at_ i hi)
end
/-- A built-in append whose run is known. -/
theorem wpList_append_run {P : Program} {w w' : World} {ops : Array Oper} {rest : List Oper} {o : Oper} {a : Act} {Q : Exit → Act → World → Prop} (hg : o.guard = none) (s x : Operand) (t : TypeId)
    (ho : o.op = .call { callee := .builtin .append, args := #[s, x], argTypes := #[t, t] }) {v u v' : Value} (hs : a.eval s = v) (hx : a.eval x = u)
    (hrun : (Builtin.append_ #[t, t] o.type #[v, u]).run P w = .ok v' w') (h : wpList P ops Q rest (a.put o.dst v') w') : wpList P ops Q (o :: rest) a w :=
  wpList_plain hg fun K hK => by
    unfold Oper.wp execOp
    simp only [ho, resolve, invoke, builtin, Sem.run_bind, Sem.run_pure, Result.andThen_ok, List.map_toArray, List.map_cons, List.map_nil, hs, hx, hrun]
    exact hK _ _ h
end Go.Proofs.YtnhnphifhkkboaaDoor
namespace Go.Proofs.YtnhnphifhkkboaaDoor
open Go.RowKit
set_option linter.unusedVariables false
theorem more_new {P : Program} {t e ty : TypeId} {size bytes : Nat} {z : Value} {w : World} {base n m c g : Nat} {v : Value} {xs : List Value} (ht : P.underlying t = some (.slice e))
    (hinfo : (P.info? e).map (fun i => (i.zero, i.size, i.bytes)) = some (some z, size, bytes)) (hzs : z.cells.size = size) (hsz : 0 < size)
    (hown : w.ownsRow base e size v n xs) (cells : Array Value) (hlen : cells.size = m * size) (h1 : ∀ u ∈ cells.toList, u.oneCell' = true) (hg : g = w.heap.size)
    (hm : n + m ≤ 1099511627776) (hby : (n + m) * bytes ≤ 140737488355328) (hbase : base ≤ w.heap.size) :
    ∃ v' w', (Builtin.append_ #[t, t] ty #[v, .slice (some ⟨g, 0, none⟩) m c]).run P (w.alloc (.cells cells e)) = .ok v' w' ∧ w'.ownsRow base e size v' (n + m) (xs ++ cells.toList) ∧ (w.alloc (.cells cells e)).grownBy w' v.ownBlock := by
  subst hg
  obtain ⟨i, hi, hzz⟩ := Option.map_eq_some_iff.1 hinfo
  simp only [Prod.mk.injEq] at hzz
  obtain ⟨hz, hs, hb⟩ := hzz
  obtain ⟨v', w', h1', h2, h3, _, _⟩ := run_append_own_at (P := P) (w.alloc (.cells cells e)) base t ty e i z size bytes ht hi hz hs hb hzs hsz v n xs (hown.alloc _) ⟨w.heap.size, 0, none⟩ m c cells.toList (by simpa using hlen)
    (fun j u hu => by
      rw [add_zero_block, cell_of_row _ _ j _ e (0, 0) (heap_alloc_new w _)]
      simpa using hu)
    h1 (by unfold maxLen; omega) hby (by simp; omega)
  exact ⟨v', w', h1', h2, h3⟩
end Go.Proofs.YtnhnphifhkkboaaDoor
