/-
  Texts of these proofs, one behind the other: G13.
-/
import Derived.Test.YtndhkdcdhpfajaaGreatKEP04
import Derived.Test.YtndhkdcdhpfajaaGreatKEP05
namespace Go.Proofs.YtndhkdcdhpfajaaGreat
open Go.RowKit
set_option linter.unusedVariables false
def intsOf (k : IntKind) (z : Nat → Int) (n : Nat) : List Value := (List.range n).map fun i => .int k (z i)
theorem intsOf_len (k : IntKind) (z : Nat → Int) (n : Nat) : (intsOf k z n).length = n := by simp [intsOf]
theorem intsOf_at (k : IntKind) (z : Nat → Int) (n i : Nat) (h : i < n) : (intsOf k z n)[i]? = some (.int k (z i)) := by simp [intsOf, h]
theorem intsOf_one (k : IntKind) (z : Nat → Int) (n : Nat) : ∀ v ∈ intsOf k z n, v.oneCell' = true := by
  intro v hv
  simp only [intsOf, List.mem_map] at hv
  obtain ⟨j, _, rfl⟩ := hv
  rfl
theorem IRow.none_ {w : World} {k : IntKind} {A : Option Addr} {m : Nat} {z : Nat → Int} (R : IRow w k A m z) (h : A = none) : m = 0 := by
  rcases Nat.eq_zero_or_pos m with h0 | h0
  · exact h0
  · obtain ⟨_, e, _⟩ := R 0 h0; rw [h] at e; cases e
section
variable {P : Program} {t e ty : TypeId} {k : IntKind} {bytes : Nat}
/-- Behind a row of the call's own the integers of a slice that came in, nil or not. -/
theorem more_ints {w : World} {base n : Nat} {v : Value} {xs : List Value} (ht : P.underlying t = some (.slice e)) (hinfo : (P.info? e).map (fun i => (i.zero, i.size, i.bytes)) = some (some (.int k 0), 1, bytes)) (hby : bytes ≤ 8)
    (hown : w.ownsRow base e 1 v n xs) {A : Option Addr} {m c : Nat} {z : Nat → Int} (R : IRow w k A m z) (hm : n + m ≤ 1099511627776) (hbase : base ≤ w.heap.size) :
    ∃ v' w', (Builtin.append_ #[t, t] ty #[v, .slice A m c]).run P w = .ok v' w' ∧ w'.ownsRow base e 1 v' (n + m) (xs ++ intsOf k z m) ∧ w.grownBy w' v.ownBlock := by
  obtain ⟨i, hi, hzz⟩ := Option.map_eq_some_iff.1 hinfo
  simp only [Prod.mk.injEq] at hzz
  obtain ⟨hz, hs, hb⟩ := hzz
  cases A with
  | none =>
    obtain rfl := R.none_ rfl
    refine ⟨v, w, ?_, by simpa [intsOf] using hown, World.grownBy.refl w _⟩
    rcases hown.2 with ⟨rfl, rfl⟩ | ⟨g, cap, cur, rfl, _, _, hnc, _⟩
    · simp [Builtin.append_, run_underlying ht, sizeOf, typeInfo, hi, Builtin.lenOf, Builtin.firstCells]
    · simp [Builtin.append_, run_underlying ht, sizeOf, typeInfo, hi, Builtin.lenOf, Builtin.firstCells, hnc, storeCells]
  | some ad =>
    have hmul : (n + m) * bytes ≤ 140737488355328 := Nat.le_trans (Nat.mul_le_mul_left _ hby) (by omega)
    obtain ⟨v', w', h1, h2, h3, _, _⟩ := run_append_own_at (P := P) w base t ty e i (.int k 0) 1 bytes ht hi hz hs hb rfl (by omega) v n xs hown ad m c (intsOf k z m) (by rw [intsOf_len]; omega)
      (fun j u hu => by
        have hj : j < m := by have := (List.getElem?_eq_some_iff.1 hu).1; rwa [intsOf_len] at this
        rw [intsOf_at k z m j hj] at hu
        injection hu with hu
        subst hu
        obtain ⟨ae, h, _, hc, _⟩ := R j hj
        injection h with h
        subst h
        exact hc)
      (intsOf_one k z m) (by unfold maxLen; omega) hmul hbase
    exact ⟨v', w', h1, h2, h3⟩
/-- A row of the call's own, read as a slice. -/
theorem own_row {w : World} {base n : Nat} {v : Value} {z : Nat → Int} (h : w.ownsRow base e 1 v n (intsOf k z n)) (hw : ∀ i, i < n → (Lit.int k (z i)).wf = true) :
    ∃ A cap, v = .slice A n cap ∧ n ≤ cap ∧ cap ≤ maxLen ∧ IRow w k A n z ∧ Typed w A e ∧ (A = none → n = 0 ∧ cap = 0) ∧ (∀ ad, A = some ad → base ≤ ad.block) := by
  rcases h.2 with ⟨rfl, h0⟩ | ⟨g, cap, cur, rfl, hg, hh, hnc, hcm, hcs, hcur⟩
  · subst h0
    exact ⟨none, 0, rfl, Nat.le_refl _, by unfold maxLen; omega, fun i hi => absurd hi (by omega), Typed.none, fun _ => ⟨rfl, rfl⟩, fun ad x => by cases x⟩
  · refine ⟨some ⟨g, 0, none⟩, cap, rfl, hnc, hcm, fun i hi => ⟨_, rfl, ?_, ?_, hw i hi⟩, fun ad x => by cases x; exact ⟨cur, hh⟩, fun x => (by cases x), fun ad x => by cases x; exact hg⟩
    · rcases Nat.lt_or_ge g w.heap.size with h | h
      · exact h
      · rw [Array.getElem?_eq_none h] at hh; cases hh
    · exact h.cells rfl i _ (intsOf_at k z n i hi)
theorem intsOf_cat (z z2 : Nat → Int) (n n2 : Nat) : intsOf k z n ++ intsOf k z2 n2 = intsOf k (fun i => if i < n then z i else z2 (i - n)) (n + n2) := by
  apply List.ext_getElem?
  intro i
  by_cases h : i < n
  · rw [List.getElem?_append_left (by rw [intsOf_len]; exact h), intsOf_at k z n i h, intsOf_at k _ _ i (by omega)]
    rw [if_pos h]
  · rw [List.getElem?_append_right (by rw [intsOf_len]; omega), intsOf_len]
    by_cases h2 : i < n + n2
    · rw [intsOf_at k z2 n2 _ (by omega), intsOf_at k _ _ i h2, if_neg h]
    · rw [List.getElem?_eq_none (by rw [intsOf_len]; omega), List.getElem?_eq_none (by rw [intsOf_len]; omega)]
theorem IRow.wf_ {w : World} {A : Option Addr} {n : Nat} {z : Nat → Int} (R : IRow w k A n z) (i : Nat) (hi : i < n) : (Lit.int k (z i)).wf = true := by
  obtain ⟨_, _, _, _, h⟩ := R i hi
  exact h
theorem cat_ints (w : World) (ht : P.underlying t = some (.slice e)) (hinfo : (P.info? e).map (fun i => (i.zero, i.size, i.bytes)) = some (some (.int k 0), 1, bytes)) (hby : bytes ≤ 8)
    {A A2 : Option Addr} {n c n2 c2 : Nat} {z z2 : Nat → Int} (R : IRow w k A n z) (R2 : IRow w k A2 n2 z2) (hn : n + n2 ≤ 1099511627776) :
    ∃ v1 w1 A3 c3 w2, (Builtin.append_ #[t, t] ty #[.slice (some ⟨w.heap.size, 0, none⟩) 0 0, .slice A n c]).run P (w.alloc (.cells #[] e)) = .ok v1 w1 ∧
      (Builtin.append_ #[t, t] ty #[v1, .slice A2 n2 c2]).run P w1 = .ok (.slice A3 (n + n2) c3) w2 ∧ n + n2 ≤ c3 ∧ c3 ≤ maxLen ∧ IRow w2 k A3 (n + n2) (fun i => if i < n then z i else z2 (i - n)) ∧ Typed w2 A3 e ∧
      (A3 = none → n + n2 = 0 ∧ c3 = 0) ∧ Below w.heap.size w w2 := by
  have hB0 : Below w.heap.size w (w.alloc (.cells #[] e)) := (Below.refl _ _).alloc (Nat.le_refl _) _
  have hown0 : (w.alloc (.cells #[] e)).ownsRow w.heap.size e 1 (.slice (some ⟨w.heap.size, 0, none⟩) 0 0) 0 [] :=
    ⟨rfl, Or.inr ⟨w.heap.size, 0, #[], rfl, Nat.le_refl _, heap_alloc_new w _, Nat.le_refl _, by unfold maxLen; omega, rfl, rfl⟩⟩
  obtain ⟨v1, w1, r1, o1, g1⟩ := more_ints (P := P) (ty := ty) (c := c) ht hinfo hby hown0 (R.keep hB0) (by omega) hB0.size
  have hB1 : Below w.heap.size w w1 := hB0.grown g1 hB0.size (fun k h => by simp [Value.ownBlock] at h; omega)
  obtain ⟨v2, w2, r2, o2, g2⟩ := more_ints (P := P) (ty := ty) (c := c2) ht hinfo hby o1 (R2.keep hB1) (by omega) hB1.size
  have hB2 : Below w.heap.size w w2 := hB1.grown g2 hB1.size (fun k h => (o1.lt k h).1)
  have e1 : 0 + n + n2 = n + n2 := by omega
  rw [List.nil_append, intsOf_cat, e1] at o2
  obtain ⟨A3, c3, rfl, p1, p2, p3, p4, p5, _⟩ := own_row o2 (fun i hi => by
    show (Lit.int k (if i < n then z i else z2 (i - n))).wf = true
    split
    · exact R.wf_ i ‹_›
    · exact R2.wf_ _ (by omega))
  exact ⟨v1, w1, A3, c3, w2, r1, r2, p1, p2, p3, p4, p5, hB2⟩
end
section
variable {H : Type} {enc : TypeId × Value → H} {P : Program} {w : World} {base : Nat} {r : Reach} {b0 : Nat} {t e : TypeId} {v : Value} {d : DataW H} {ps : List MemPlace}
open Go.ChangeShapes Go.WideShapes Go.ChangeAt in
/-- A slice of integers that came in; nil has no room. -/
theorem slice_ints2 {k : IntKind} (ht : P.underlying t = some (.slice e)) (he : P.underlying e = some (.int k)) (hc : P.cellsOf e = 1) (hval : Value.okWide P w r b0 t v) (hd : DataW.Trod enc P w base (fun _ => true) true t v d ps) :
    ∃ A n cap zs, v = .slice A n cap ∧ n ≤ cap ∧ cap ≤ maxLen ∧ IRow w k A n zs ∧ (A = none → n = 0 ∧ cap = 0) := by
  obtain ⟨a0, len, cap, rfl⟩ := okWide_slice ht hval
  obtain ⟨fuel, hf⟩ := hd
  rcases open_ints ht he hc hf with ⟨hcs, _⟩ | ⟨a, len', cap', zs, hcs, _, hl, hm, hz, _, hcell, hwz⟩
  · simp only [Value.cells, List.cons.injEq, Value.slice.injEq, and_true] at hcs
    obtain ⟨rfl, rfl, rfl⟩ := hcs
    exact ⟨none, 0, 0, fun _ => 0, rfl, Nat.le_refl _, by unfold maxLen; omega, fun i hi => absurd hi (by omega), fun _ => ⟨rfl, rfl⟩⟩
  · simp only [Value.cells, List.cons.injEq, Value.slice.injEq, and_true] at hcs
    obtain ⟨rfl, rfl, rfl⟩ := hcs
    simp only [if_true] at hz
    refine ⟨some a, len, cap, fun i => zs.getD i 0, rfl, hl, hm, fun i hi => ⟨a, rfl, ?_, hcell i (by omega), ?_⟩, fun x => by cases x⟩
    · have := cell_lt (hcell i (by omega)); rwa [block_of_add] at this
    · have hi' : i < zs.length := by omega
      exact hwz _ (by simp [List.getD, List.getElem?_eq_getElem hi'])
end
end Go.Proofs.YtndhkdcdhpfajaaGreat
