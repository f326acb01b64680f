/-
  A row of pieces that came in, laid behind a row of the call's own; and one piece more: at a step of a region that draws its order.
-/
import Derived.Test.YtfhndajhlpakoaaCart16
namespace Go.Proofs.Ytfhndajhlpakoaa
open Go.RowKit
set_option linter.unusedVariables false
theorem prow_cells {w : World} {ad : Addr} {m : Nat} {ps : Nat → Pc} (R : PRow w (some ad) m ps) (j : Nat) (u : Value) (h : (cellsP ps m)[j]? = some u) : w.cell? (ad.add j) = some u := by
  have hj : j < m * 2 := by have := (List.getElem?_eq_some_iff.1 h).1; rwa [cellsP_len] at this
  obtain ⟨ae, e, _, c0, c1, _⟩ := R (j / 2) (by omega)
  injection e with e
  subst e
  have ca := cellsP_at ps m (j / 2) (by omega)
  rcases Nat.mod_two_eq_zero_or_one j with k | k
  · have e0 : j / 2 * 2 = j := by omega
    rw [e0] at c0 ca
    rw [c0, ← ca.1]; exact h
  · have e1 : j / 2 * 2 + 1 = j := by omega
    rw [e1] at c1 ca
    rw [c1, ← ca.2]; exact h
theorem cellsP_one (ps : Nat → Pc) (m : Nat) : ∀ u ∈ cellsP ps m, u.oneCell' = true := by
  induction m with
  | zero => intro u hu; simp [cellsP] at hu
  | succ m ih =>
    intro u hu
    rw [cellsP_succ, List.mem_append] at hu
    rcases hu with hu | hu
    · exact ih u hu
    · simp only [List.mem_cons, List.not_mem_nil, or_false] at hu
      rcases hu with rfl | rfl <;> rfl
/-- Behind a row of the call's own the pieces of a slice that came in, nil or not. -/
theorem more_pieces {ty : TypeId} {w : World} {base n : Nat} {v : Value} {xs : List Value} (hown : w.ownsRow base 25 2 v n xs) {A : Option Addr} {m c : Nat} {ps : Nat → Pc} (R : PRow w A m ps) (hm : n + m ≤ 1048576) (hbase : base ≤ w.heap.size) :
    ∃ v' w', (Builtin.append_ #[22, 22] ty #[v, .slice A m c]).run Try.prog w = .ok v' w' ∧ w'.ownsRow base 25 2 v' (n + m) (xs ++ cellsP ps m) ∧ w.grownBy w' v.ownBlock := by
  obtain ⟨i, hi, hzz⟩ := Option.map_eq_some_iff.1 piece_info
  simp only [Prod.mk.injEq] at hzz
  obtain ⟨hz, hs, hb⟩ := hzz
  have ht : Try.prog.underlying 22 = some (.slice 25) := Try.underlying22
  cases A with
  | none =>
    have h0 : m = 0 := by
      rcases Nat.eq_zero_or_pos m with h | h
      · exact h
      · obtain ⟨_, e, _⟩ := R 0 h; cases e
    subst h0
    refine ⟨v, w, ?_, by simpa [cellsP] using hown, World.grownBy.refl w _⟩
    rcases hown.2 with ⟨rfl, rfl⟩ | ⟨g, cap, cur, rfl, _, _, hnc, _⟩
    · simp [Builtin.append_, run_underlying ht, sizeOf, typeInfo, hi, Builtin.lenOf, Builtin.firstCells]
    · simp [Builtin.append_, run_underlying ht, sizeOf, typeInfo, hi, Builtin.lenOf, Builtin.firstCells, hnc, storeCells]
  | some ad =>
    obtain ⟨v', w', h1, h2, h3, _, _⟩ := run_append_own_at (P := Try.prog) w base 22 ty 25 i _ 2 32 ht hi hz hs hb rfl (by omega) v n xs hown ad m c (cellsP ps m) (by rw [cellsP_len])
      (prow_cells R) (cellsP_one ps m) (by unfold maxLen; omega) (by omega) hbase
    exact ⟨v', w', h1, h2, h3⟩
/-- One piece more, which lies in a block of its own. -/
theorem one_piece {ty : TypeId} {w : World} {base n c g : Nat} {v : Value} {xs : List Value} {cs : Array Value} (hown : w.ownsRow base 25 2 v n xs) (hg : Blk w g 25 cs) (hcs : cs.size = 2) (h1 : ∀ u ∈ cs.toList, u.oneCell' = true) (hm : n ≤ 1048576) (hbase : base ≤ w.heap.size) :
    ∃ v' w', (Builtin.append_ #[22, 22] ty #[v, .slice (some ⟨g, 0, none⟩) 1 c]).run Try.prog w = .ok v' w' ∧ w'.ownsRow base 25 2 v' (n + 1) (xs ++ cs.toList) ∧ w.grownBy w' v.ownBlock := by
  obtain ⟨i, hi, hzz⟩ := Option.map_eq_some_iff.1 piece_info
  simp only [Prod.mk.injEq] at hzz
  obtain ⟨hz, hs, hb⟩ := hzz
  obtain ⟨v', w', r1, r2, r3, _, _⟩ := run_append_own_at (P := Try.prog) w base 22 ty 25 i _ 2 32 Try.underlying22 hi hz hs hb rfl (by omega) v n xs hown ⟨g, 0, none⟩ 1 c cs.toList (by simpa using hcs)
    (fun j u hu => by
      rw [add_zero_block, hg.cell]
      simpa using hu)
    h1 (by unfold maxLen; omega) (by omega) hbase
  exact ⟨v', w', r1, r2, r3⟩
/-- The first append of a region that draws: behind a row of none the pieces that came in. -/
theorem step_over1 {w : World} {ops : Array Oper} {o : Oper} {a : Act} {K : Act → World → Prop} {Q : Exit → Act → World → Prop} {E : Prop} (hgd : o.guard = none) (s x : Operand)
    (ho : o.op = .call { callee := .builtin .append, args := #[s, x], argTypes := #[22, 22] }) {base g m c : Nat} {A : Option Addr} {ps : Nat → Pc} (hs : a.eval s = .slice (some ⟨g, 0, none⟩) 0 0) (hx : a.eval x = .slice A m c)
    (hg : Blk w g 25 #[]) (hb : base ≤ g) (R : PRow w A m ps) (hm : m ≤ 1048576)
    (h : ∀ v' w', w'.ownsRow base 25 2 v' m (cellsP ps m) → w.grownBy w' (some g) → K (a.put o.dst v') w') :
    if Region.wanted o (yielded ops a.tmps) = true then Oper.wp Try.prog o a w K Q else E := by
  have own : w.ownsRow base 25 2 (.slice (some ⟨g, 0, none⟩) 0 0) 0 [] := ⟨rfl, Or.inr ⟨g, 0, #[], rfl, hb, hg, Nat.le_refl _, by unfold maxLen; omega, rfl, rfl⟩⟩
  obtain ⟨v', w', r1, r2, r3⟩ := more_pieces (ty := o.type) (c := c) own R (by omega) (by have := hg.lt; omega)
  rw [Nat.zero_add, List.nil_append] at r2
  exact step_append_run hgd s x _ ho hs hx r1 (h v' w' r2 r3)
/-- The second one: one piece more. -/
theorem step_over2 {w : World} {ops : Array Oper} {o : Oper} {a : Act} {K : Act → World → Prop} {Q : Exit → Act → World → Prop} {E : Prop} (hgd : o.guard = none) (s x : Operand)
    (ho : o.op = .call { callee := .builtin .append, args := #[s, x], argTypes := #[22, 22] }) {base g m c : Nat} {v : Value} {ps : Nat → Pc} {p : Pc} (hs : a.eval s = v) (hx : a.eval x = .slice (some ⟨g, 0, none⟩) 1 c)
    (own : w.ownsRow base 25 2 v m (cellsP ps m)) (hg : Blk w g 25 #[.int .i64 p.at_, .slice p.A p.n p.c]) (hb : base ≤ w.heap.size) (hm : m ≤ 1048576)
    (h : ∀ v' w', w'.ownsRow base 25 2 v' (m + 1) (cellsP (fun i => if i < m then ps i else p) (m + 1)) → w.grownBy w' v.ownBlock → K (a.put o.dst v') w') :
    if Region.wanted o (yielded ops a.tmps) = true then Oper.wp Try.prog o a w K Q else E := by
  obtain ⟨v', w', r1, r2, r3⟩ := one_piece (ty := o.type) (c := c) own hg rfl (by simp [Value.oneCell']) hm hb
  refine step_append_run hgd s x _ ho hs hx r1 (h v' w' ?_ r3)
  rw [cellsP_succ, cellsP_congr _ ps _ (fun i hi => if_pos hi), if_neg (Nat.lt_irrefl _)]
  exact r2
/-- The pieces of a row of the call's own, one by one. -/
theorem prow_of {w : World} {B m : Nat} {ps : Nat → Pc} {v : Value} (h : w.ownsRow B 25 2 v m (cellsP ps m)) (hP : ∀ i, i < m → PcOk w (ps i)) : ∃ Ap cap, v = .slice Ap m cap ∧ PRow w Ap m ps := by
  rcases Nat.eq_zero_or_pos m with h0 | h0
  · subst h0
    rcases h.2 with ⟨e, _⟩ | ⟨g', cap, cur, he, _⟩
    · exact ⟨_, _, e, fun i hi => by omega⟩
    · exact ⟨_, _, he, fun i hi => by omega⟩
  · obtain ⟨g, cap, rfl, _, _, _, lt, _⟩ := own_slice h h0
    exact ⟨_, _, rfl, fun i hi => ⟨_, rfl, lt, h.cells (g := g) rfl _ _ (cellsP_at ps m i hi).1, h.cells (g := g) rfl _ _ (cellsP_at ps m i hi).2, hP i hi⟩⟩
theorem blk_new {w : World} {t : TypeId} {cs : Array Value} {g : Nat} (h : g = w.heap.size) : Blk (w.alloc (.cells cs t)) g t cs := h ▸ Blk.new w t cs
end Go.Proofs.Ytfhndajhlpakoaa
