/-
  Texts of these proofs, one behind the other: G7, G9.
-/
import Derived.Test.YtndhkdcdhpfajaaGreatKEP03
import Derived.Maps.AppendAt
import Derived.OwnWalk
namespace Go.Proofs.YtndhkdcdhpfajaaGreat
open Go.RowKit
def boolsOf (z : Nat → Bool) (n : Nat) : List Value := (List.range n).map fun i => .bool (z i)
theorem boolsOf_len (z : Nat → Bool) (n : Nat) : (boolsOf z n).length = n := by simp [boolsOf]
theorem boolsOf_at (z : Nat → Bool) (n i : Nat) (h : i < n) : (boolsOf z n)[i]? = some (.bool (z i)) := by simp [boolsOf, h]
section
variable {P : Program} {t e ty : TypeId}
/-- Behind a row of the call's own the bools of a slice that came in, nil or not. -/
theorem more_bools {w : World} {base n : Nat} {v : Value} {xs : List Value} (ht : P.underlying t = some (.slice e)) (hinfo : (P.info? e).map (fun i => (i.zero, i.size, i.bytes)) = some (some (.bool false), 1, 1))
    (hown : w.ownsRow base e 1 v n xs) {A : Option Addr} {m c : Nat} {z : Nat → Bool} (R : BRow w A m z) (hm : n + m ≤ 4096) (hbase : base ≤ w.heap.size) :
    ∃ v' w', (Builtin.append_ #[t, t] ty #[v, .slice A m c]).run P w = .ok v' w' ∧ w'.ownsRow base e 1 v' (n + m) (xs ++ boolsOf z m) ∧ w.grownBy w' v.ownBlock := by
  obtain ⟨i, hi, hzz⟩ := Option.map_eq_some_iff.1 hinfo
  simp only [Prod.mk.injEq] at hzz
  obtain ⟨hz, hs, hb⟩ := hzz
  cases A with
  | none =>
    have h0 : m = 0 := by
      rcases Nat.eq_zero_or_pos m with h | h
      · exact h
      · obtain ⟨_, e, _⟩ := R 0 h; cases e
    subst h0
    refine ⟨v, w, ?_, by simpa [boolsOf] using hown, World.grownBy.refl w _⟩
    rcases hown.2 with ⟨rfl, rfl⟩ | ⟨g, cap, cur, rfl, _, _, hnc, _⟩
    · simp [Builtin.append_, run_underlying ht, sizeOf, typeInfo, hi, Builtin.lenOf, Builtin.firstCells]
    · simp [Builtin.append_, run_underlying ht, sizeOf, typeInfo, hi, Builtin.lenOf, Builtin.firstCells, hnc, storeCells]
  | some ad =>
    obtain ⟨v', w', h1, h2, h3, _, _⟩ := run_append_own_at (P := P) w base t ty e i (.bool false) 1 1 ht hi hz hs hb rfl (by omega) v n xs hown ad m c (boolsOf z m) (by rw [boolsOf_len]; omega)
      (fun j u hu => by
        have hj : j < m := by have := (List.getElem?_eq_some_iff.1 hu).1; rwa [boolsOf_len] at this
        rw [boolsOf_at z m j hj] at hu
        injection hu with hu
        subst hu
        obtain ⟨ae, h, _, hc⟩ := R j hj
        injection h with h
        subst h
        exact hc)
      (fun u hu => by
        simp only [boolsOf, List.mem_map] at hu
        obtain ⟨j, _, rfl⟩ := hu
        rfl)
      (by unfold maxLen; omega) (by omega) hbase
    exact ⟨v', w', h1, h2, h3⟩
theorem cat_bools (w : World) (ht : P.underlying t = some (.slice e)) (hinfo : (P.info? e).map (fun i => (i.zero, i.size, i.bytes)) = some (some (.bool false), 1, 1))
    {A A2 : Option Addr} {n c n2 c2 : Nat} {z z2 : Nat → Bool} (R : BRow w A n z) (R2 : BRow w A2 n2 z2) (hn : n + n2 ≤ 4096) :
    ∃ v1 w1 A3 c3 w2, (Builtin.append_ #[t, t] ty #[.slice (some ⟨w.heap.size, 0, none⟩) 0 0, .slice A n c]).run P (w.alloc (.cells #[] e)) = .ok v1 w1 ∧
      (Builtin.append_ #[t, t] ty #[v1, .slice A2 n2 c2]).run P w1 = .ok (.slice A3 (n + n2) c3) w2 ∧ BRow w2 A3 (n + n2) (fun i => if i < n then z i else z2 (i - n)) ∧ Below w.heap.size w w2 := by
  have hB0 : Below w.heap.size w (w.alloc (.cells #[] e)) := (Below.refl _ _).alloc (Nat.le_refl _) _
  have hown0 : (w.alloc (.cells #[] e)).ownsRow w.heap.size e 1 (.slice (some ⟨w.heap.size, 0, none⟩) 0 0) 0 [] :=
    ⟨rfl, Or.inr ⟨w.heap.size, 0, #[], rfl, Nat.le_refl _, heap_alloc_new w _, Nat.le_refl _, by unfold maxLen; omega, rfl, rfl⟩⟩
  obtain ⟨v1, w1, r1, o1, g1⟩ := more_bools (P := P) (ty := ty) (c := c) ht hinfo hown0 (R.keep hB0) (by omega) hB0.size
  have hB1 : Below w.heap.size w w1 := hB0.grown g1 hB0.size (fun k h => by simp [Value.ownBlock] at h; omega)
  obtain ⟨v2, w2, r2, o2, g2⟩ := more_bools (P := P) (ty := ty) (c := c2) ht hinfo o1 (R2.keep hB1) (by omega) hB1.size
  have hB2 : Below w.heap.size w w2 := hB1.grown g2 hB1.size (fun k h => (o1.lt k h).1)
  have len : ([] ++ boolsOf z n ++ boolsOf z2 n2).length = n + n2 := by simp [boolsOf_len]
  have at_ : ∀ i, i < n + n2 → ([] ++ boolsOf z n ++ boolsOf z2 n2)[i]? = some (.bool (if i < n then z i else z2 (i - n))) := fun i hi => by
    rw [List.nil_append]
    by_cases h : i < n
    · rw [List.getElem?_append_left (by rw [boolsOf_len]; exact h), boolsOf_at z n i h, if_pos h]
    · rw [List.getElem?_append_right (by rw [boolsOf_len]; omega), boolsOf_len, boolsOf_at z2 n2 _ (by omega), if_neg h]
  rcases o2.2 with ⟨rfl, h0⟩ | ⟨g, cap, cur, rfl, hg, hh, hnc, hcm, hcs, hcur⟩
  · have e1 : n + n2 = 0 := by omega
    exact ⟨v1, w1, none, 0, w2, r1, by rw [e1]; exact r2, fun i hi => absurd hi (by omega), hB2⟩
  · have e1 : 0 + n + n2 = n + n2 := by omega
    rw [e1] at r2 o2
    refine ⟨v1, w1, some ⟨g, 0, none⟩, cap, w2, r1, r2, fun i hi => ⟨_, rfl, ?_, ?_⟩, hB2⟩
    · rcases Nat.lt_or_ge g w2.heap.size with h | h
      · exact h
      · rw [Array.getElem?_eq_none h] at hh; cases hh
    · exact o2.cells rfl i _ (at_ i hi)
end
/-- A built-in append whose run is known. -/
theorem wpList_append_run {P : Program} {w w' : World} {ops : Array Oper} {rest : List Oper} {o : Oper} {a : Act} {Q : Exit → Act → World → Prop} (hg : o.guard = none) (s x : Operand) (t : TypeId)
    (ho : o.op = .call { callee := .builtin .append, args := #[s, x], argTypes := #[t, t] }) {v u v' : Value} (hs : a.eval s = v) (hx : a.eval x = u)
    (hrun : (Builtin.append_ #[t, t] o.type #[v, u]).run P w = .ok v' w') (h : wpList P ops Q rest (a.put o.dst v') w') : wpList P ops Q (o :: rest) a w :=
  wpList_plain hg fun K hK => by
    unfold Oper.wp execOp
    simp only [ho, resolve, invoke, builtin, Sem.run_bind, Sem.run_pure, Result.andThen_ok, List.map_toArray, List.map_cons, List.map_nil, hs, hx, hrun]
    exact hK _ _ h
end Go.Proofs.YtndhkdcdhpfajaaGreat
namespace Go.Proofs.YtndhkdcdhpfajaaGreat
open Go.RowKit
set_option linter.unusedVariables false
theorem more_new {P : Program} {t e ty : TypeId} {size bytes : Nat} {z : Value} {w : World} {base n m c g : Nat} {v : Value} {xs : List Value} (ht : P.underlying t = some (.slice e))
    (hinfo : (P.info? e).map (fun i => (i.zero, i.size, i.bytes)) = some (some z, size, bytes)) (hzs : z.cells.size = size) (hsz : 0 < size)
    (hown : w.ownsRow base e size v n xs) (cells : Array Value) (hlen : cells.size = m * size) (h1 : ∀ u ∈ cells.toList, u.oneCell' = true) (hg : g = w.heap.size)
    (hm : n + m ≤ 1099511627776) (hby : (n + m) * bytes ≤ 140737488355328) (hbase : base ≤ w.heap.size) :
    ∃ v' w', (Builtin.append_ #[t, t] ty #[v, .slice (some ⟨g, 0, none⟩) m c]).run P (w.alloc (.cells cells e)) = .ok v' w' ∧ w'.ownsRow base e size v' (n + m) (xs ++ cells.toList) ∧ (w.alloc (.cells cells e)).grownBy w' v.ownBlock := by
  subst hg
  obtain ⟨i, hi, hzz⟩ := Option.map_eq_some_iff.1 hinfo
  simp only [Prod.mk.injEq] at hzz
  obtain ⟨hz, hs, hb⟩ := hzz
  obtain ⟨v', w', h1', h2, h3, _, _⟩ := run_append_own_at (P := P) (w.alloc (.cells cells e)) base t ty e i z size bytes ht hi hz hs hb hzs hsz v n xs (hown.alloc _) ⟨w.heap.size, 0, none⟩ m c cells.toList (by simpa using hlen)
    (fun j u hu => by
      rw [add_zero_block, cell_of_row _ _ j _ e (0, 0) (heap_alloc_new w _)]
      simpa using hu)
    h1 (by unfold maxLen; omega) hby (by simp; omega)
  exact ⟨v', w', h1', h2, h3⟩
end Go.Proofs.YtndhkdcdhpfajaaGreat
