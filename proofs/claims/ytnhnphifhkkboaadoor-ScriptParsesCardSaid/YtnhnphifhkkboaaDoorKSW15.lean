/-
  Texts of these proofs, one behind the other: G13, G18, G24.
-/
import Derived.Test.YtnhnphifhkkboaaDoorKSW13
import Derived.Test.YtnhnphifhkkboaaDoorKSW14
import Derived.Laws.Tables
import Derived.Deep.WholeRow
import Derived.Laws.Rows
namespace Go.Proofs.YtnhnphifhkkboaaDoor
open Go.RowKit
set_option linter.unusedVariables false
def intsOf (k : IntKind) (z : Nat → Int) (n : Nat) : List Value := (List.range n).map fun i => .int k (z i)
theorem intsOf_len (k : IntKind) (z : Nat → Int) (n : Nat) : (intsOf k z n).length = n := by simp [intsOf]
theorem intsOf_at (k : IntKind) (z : Nat → Int) (n i : Nat) (h : i < n) : (intsOf k z n)[i]? = some (.int k (z i)) := by simp [intsOf, h]
theorem intsOf_one (k : IntKind) (z : Nat → Int) (n : Nat) : ∀ v ∈ intsOf k z n, v.oneCell' = true := by
  intro v hv
  simp only [intsOf, List.mem_map] at hv
  obtain ⟨j, _, rfl⟩ := hv
  rfl
theorem IRow.none_ {w : World} {k : IntKind} {A : Option Addr} {m : Nat} {z : Nat → Int} (R : IRow w k A m z) (h : A = none) : m = 0 := by
  rcases Nat.eq_zero_or_pos m with h0 | h0
  · exact h0
  · obtain ⟨_, e, _⟩ := R 0 h0; rw [h] at e; cases e
section
variable {P : Program} {t e ty : TypeId} {k : IntKind} {bytes : Nat}
/-- Behind a row of the call's own the integers of a slice that came in, nil or not. -/
theorem more_ints {w : World} {base n : Nat} {v : Value} {xs : List Value} (ht : P.underlying t = some (.slice e)) (hinfo : (P.info? e).map (fun i => (i.zero, i.size, i.bytes)) = some (some (.int k 0), 1, bytes)) (hby : bytes ≤ 8)
    (hown : w.ownsRow base e 1 v n xs) {A : Option Addr} {m c : Nat} {z : Nat → Int} (R : IRow w k A m z) (hm : n + m ≤ 1099511627776) (hbase : base ≤ w.heap.size) :
    ∃ v' w', (Builtin.append_ #[t, t] ty #[v, .slice A m c]).run P w = .ok v' w' ∧ w'.ownsRow base e 1 v' (n + m) (xs ++ intsOf k z m) ∧ w.grownBy w' v.ownBlock := by
  obtain ⟨i, hi, hzz⟩ := Option.map_eq_some_iff.1 hinfo
  simp only [Prod.mk.injEq] at hzz
  obtain ⟨hz, hs, hb⟩ := hzz
  cases A with
  | none =>
    obtain rfl := R.none_ rfl
    refine ⟨v, w, ?_, by simpa [intsOf] using hown, World.grownBy.refl w _⟩
    rcases hown.2 with ⟨rfl, rfl⟩ | ⟨g, cap, cur, rfl, _, _, hnc, _⟩
    · simp [Builtin.append_, run_underlying ht, sizeOf, typeInfo, hi, Builtin.lenOf, Builtin.firstCells]
    · simp [Builtin.append_, run_underlying ht, sizeOf, typeInfo, hi, Builtin.lenOf, Builtin.firstCells, hnc, storeCells]
  | some ad =>
    have hmul : (n + m) * bytes ≤ 140737488355328 := Nat.le_trans (Nat.mul_le_mul_left _ hby) (by omega)
    obtain ⟨v', w', h1, h2, h3, _, _⟩ := run_append_own_at (P := P) w base t ty e i (.int k 0) 1 bytes ht hi hz hs hb rfl (by omega) v n xs hown ad m c (intsOf k z m) (by rw [intsOf_len]; omega)
      (fun j u hu => by
        have hj : j < m := by have := (List.getElem?_eq_some_iff.1 hu).1; rwa [intsOf_len] at this
        rw [intsOf_at k z m j hj] at hu
        injection hu with hu
        subst hu
        obtain ⟨ae, h, _, hc, _⟩ := R j hj
        injection h with h
        subst h
        exact hc)
      (intsOf_one k z m) (by unfold maxLen; omega) hmul hbase
    exact ⟨v', w', h1, h2, h3⟩
/-- A row of the call's own, read as a slice. -/
theorem own_row {w : World} {base n : Nat} {v : Value} {z : Nat → Int} (h : w.ownsRow base e 1 v n (intsOf k z n)) (hw : ∀ i, i < n → (Lit.int k (z i)).wf = true) :
    ∃ A cap, v = .slice A n cap ∧ n ≤ cap ∧ cap ≤ maxLen ∧ IRow w k A n z ∧ Typed w A e ∧ (A = none → n = 0 ∧ cap = 0) ∧ (∀ ad, A = some ad → base ≤ ad.block) := by
  rcases h.2 with ⟨rfl, h0⟩ | ⟨g, cap, cur, rfl, hg, hh, hnc, hcm, hcs, hcur⟩
  · subst h0
    exact ⟨none, 0, rfl, Nat.le_refl _, by unfold maxLen; omega, fun i hi => absurd hi (by omega), Typed.none, fun _ => ⟨rfl, rfl⟩, fun ad x => by cases x⟩
  · refine ⟨some ⟨g, 0, none⟩, cap, rfl, hnc, hcm, fun i hi => ⟨_, rfl, ?_, ?_, hw i hi⟩, fun ad x => by cases x; exact ⟨cur, hh⟩, fun x => (by cases x), fun ad x => by cases x; exact hg⟩
    · rcases Nat.lt_or_ge g w.heap.size with h | h
      · exact h
      · rw [Array.getElem?_eq_none h] at hh; cases hh
    · exact h.cells rfl i _ (intsOf_at k z n i hi)
theorem intsOf_cat (z z2 : Nat → Int) (n n2 : Nat) : intsOf k z n ++ intsOf k z2 n2 = intsOf k (fun i => if i < n then z i else z2 (i - n)) (n + n2) := by
  apply List.ext_getElem?
  intro i
  by_cases h : i < n
  · rw [List.getElem?_append_left (by rw [intsOf_len]; exact h), intsOf_at k z n i h, intsOf_at k _ _ i (by omega)]
    rw [if_pos h]
  · rw [List.getElem?_append_right (by rw [intsOf_len]; omega), intsOf_len]
    by_cases h2 : i < n + n2
    · rw [intsOf_at k z2 n2 _ (by omega), intsOf_at k _ _ i h2, if_neg h]
    · rw [List.getElem?_eq_none (by rw [intsOf_len]; omega), List.getElem?_eq_none (by rw [intsOf_len]; omega)]
theorem IRow.wf_ {w : World} {A : Option Addr} {n : Nat} {z : Nat → Int} (R : IRow w k A n z) (i : Nat) (hi : i < n) : (Lit.int k (z i)).wf = true := by
  obtain ⟨_, _, _, _, h⟩ := R i hi
  exact h
theorem cat_ints (w : World) (ht : P.underlying t = some (.slice e)) (hinfo : (P.info? e).map (fun i => (i.zero, i.size, i.bytes)) = some (some (.int k 0), 1, bytes)) (hby : bytes ≤ 8)
    {A A2 : Option Addr} {n c n2 c2 : Nat} {z z2 : Nat → Int} (R : IRow w k A n z) (R2 : IRow w k A2 n2 z2) (hn : n + n2 ≤ 1099511627776) :
    ∃ v1 w1 A3 c3 w2, (Builtin.append_ #[t, t] ty #[.slice (some ⟨w.heap.size, 0, none⟩) 0 0, .slice A n c]).run P (w.alloc (.cells #[] e)) = .ok v1 w1 ∧
      (Builtin.append_ #[t, t] ty #[v1, .slice A2 n2 c2]).run P w1 = .ok (.slice A3 (n + n2) c3) w2 ∧ n + n2 ≤ c3 ∧ c3 ≤ maxLen ∧ IRow w2 k A3 (n + n2) (fun i => if i < n then z i else z2 (i - n)) ∧ Typed w2 A3 e ∧
      (A3 = none → n + n2 = 0 ∧ c3 = 0) ∧ Below w.heap.size w w2 := by
  have hB0 : Below w.heap.size w (w.alloc (.cells #[] e)) := (Below.refl _ _).alloc (Nat.le_refl _) _
  have hown0 : (w.alloc (.cells #[] e)).ownsRow w.heap.size e 1 (.slice (some ⟨w.heap.size, 0, none⟩) 0 0) 0 [] :=
    ⟨rfl, Or.inr ⟨w.heap.size, 0, #[], rfl, Nat.le_refl _, heap_alloc_new w _, Nat.le_refl _, by unfold maxLen; omega, rfl, rfl⟩⟩
  obtain ⟨v1, w1, r1, o1, g1⟩ := more_ints (P := P) (ty := ty) (c := c) ht hinfo hby hown0 (R.keep hB0) (by omega) hB0.size
  have hB1 : Below w.heap.size w w1 := hB0.grown g1 hB0.size (fun k h => by simp [Value.ownBlock] at h; omega)
  obtain ⟨v2, w2, r2, o2, g2⟩ := more_ints (P := P) (ty := ty) (c := c2) ht hinfo hby o1 (R2.keep hB1) (by omega) hB1.size
  have hB2 : Below w.heap.size w w2 := hB1.grown g2 hB1.size (fun k h => (o1.lt k h).1)
  have e1 : 0 + n + n2 = n + n2 := by omega
  rw [List.nil_append, intsOf_cat, e1] at o2
  obtain ⟨A3, c3, rfl, p1, p2, p3, p4, p5, _⟩ := own_row o2 (fun i hi => by
    show (Lit.int k (if i < n then z i else z2 (i - n))).wf = true
    split
    · exact R.wf_ i ‹_›
    · exact R2.wf_ _ (by omega))
  exact ⟨v1, w1, A3, c3, w2, r1, r2, p1, p2, p3, p4, p5, hB2⟩
end
section
variable {H : Type} {enc : TypeId × Value → H} {P : Program} {w : World} {base : Nat} {r : Reach} {b0 : Nat} {t e : TypeId} {v : Value} {d : DataW H} {ps : List MemPlace}
open Go.ChangeShapes Go.WideShapes Go.ChangeAt in
/-- A slice of integers that came in; nil has no room. -/
theorem slice_ints2 {k : IntKind} (ht : P.underlying t = some (.slice e)) (he : P.underlying e = some (.int k)) (hc : P.cellsOf e = 1) (hval : Value.okWide P w r b0 t v) (hd : DataW.Trod enc P w base (fun _ => true) true t v d ps) :
    ∃ A n cap zs, v = .slice A n cap ∧ n ≤ cap ∧ cap ≤ maxLen ∧ IRow w k A n zs ∧ (A = none → n = 0 ∧ cap = 0) := by
  obtain ⟨a0, len, cap, rfl⟩ := okWide_slice ht hval
  obtain ⟨fuel, hf⟩ := hd
  rcases open_ints ht he hc hf with ⟨hcs, _⟩ | ⟨a, len', cap', zs, hcs, _, hl, hm, hz, _, hcell, hwz⟩
  · simp only [Value.cells, List.cons.injEq, Value.slice.injEq, and_true] at hcs
    obtain ⟨rfl, rfl, rfl⟩ := hcs
    exact ⟨none, 0, 0, fun _ => 0, rfl, Nat.le_refl _, by unfold maxLen; omega, fun i hi => absurd hi (by omega), fun _ => ⟨rfl, rfl⟩⟩
  · simp only [Value.cells, List.cons.injEq, Value.slice.injEq, and_true] at hcs
    obtain ⟨rfl, rfl, rfl⟩ := hcs
    simp only [if_true] at hz
    refine ⟨some a, len, cap, fun i => zs.getD i 0, rfl, hl, hm, fun i hi => ⟨a, rfl, ?_, hcell i (by omega), ?_⟩, fun x => by cases x⟩
    · have := cell_lt (hcell i (by omega)); rwa [block_of_add] at this
    · have hi' : i < zs.length := by omega
      exact hwz _ (by simp [List.getD, List.getElem?_eq_getElem hi'])
end
end Go.Proofs.YtnhnphifhkkboaaDoor
namespace Go.Proofs.YtnhnphifhkkboaaDoor
open Go.RowKit
set_option linter.unusedVariables false
section
variable {P : Program} {L : List Nat} {a w w' : World} {g k : Nat} {t ty : TypeId} {cs : Array Value}
theorem Blk.row (h : Blk w g t cs) (cs' : Array Value) : Blk (w.setRow g cs') g t cs' := setRow_heap w g cs cs' t (0, 0) h
theorem Blk.rowFar (h : Blk w g t cs) (hne : g ≠ k) (cs' : Array Value) : Blk (w.setRow k cs') g t cs := by
  show (w.setRow k cs').heap[g]? = _
  rw [setRow_other w k g cs' hne]; exact h
theorem Kp.setRow (h : Kp L a w) (hp : g ∈ L ∨ a.heap.size ≤ g) (cs' : Array Value) : Kp L a (w.setRow g cs') :=
  ⟨h.os, h.tape, h.output, by rw [setRow_size]; exact h.size, fun i hi hn => by
    rw [setRow_other w g i cs' (fun e => by subst e; exact hp.elim hn (by omega))]; exact h.block i hi hn⟩
theorem Blk.run_store (h : Blk w g t cs) (cs' : Array Value) (hs : cs.size = cs'.size) (h1 : ∀ v ∈ cs'.toList, v.oneCell' = true) : (storeCells ⟨g, 0, none⟩ cs'.toList).run P w = .ok () (w.setRow g cs') := by
  have h' := run_storeCells_from (P := P) g t cs'.toList 0 cs w h (by simp [hs]) h1
  simpa using h'
theorem Blk.run_load {d : TypeDesc} (h : Blk w g t cs) (hu : P.underlying ty = some d) (hd : (match d with | .struct _ | .array _ _ => true | _ => false) = true) (hi : (P.info? ty).map (·.size) = some cs.size) : (loadVar ty ⟨g, 0, none⟩).run P w = .ok (.agg cs) w :=
  run_loadVar_row w g t ty cs (0, 0) d h hu hd hi
end
/-- So many integers, by value. -/
def iArr (k : IntKind) (n : Nat) (f : Nat → Int) : Array Value := (intsOf k f n).toArray
section
variable {k : IntKind} {n : Nat} {f f' : Nat → Int}
theorem iArr_size (k : IntKind) (n : Nat) (f : Nat → Int) : (iArr k n f).size = n := by simp [iArr, intsOf_len]
theorem iArr_at (k : IntKind) (n : Nat) (f : Nat → Int) (i : Nat) (h : i < n) : (iArr k n f)[i]? = some (.int k (f i)) := by simp [iArr, intsOf_at k f n i h]
theorem iArr_one (k : IntKind) (n : Nat) (f : Nat → Int) : ∀ v ∈ (iArr k n f).toList, v.oneCell' = true := by
  intro v hv
  simp only [iArr] at hv
  exact intsOf_one k f n v hv
theorem iArr_congr (h : ∀ i, i < n → f i = f' i) : iArr k n f = iArr k n f' := by
  unfold iArr intsOf
  congr 1
  apply List.map_congr_left
  intro i hi
  rw [h i (by simpa using hi)]
theorem iArr_set (k : IntKind) (n : Nat) (f : Nat → Int) (i : Nat) (b : Int) : (iArr k n f).setIfInBounds i (.int k b) = iArr k n fun j => if j = i then b else f j := by
  apply Array.ext_getElem?
  intro j
  by_cases hj : j < n
  · rw [iArr_at k n _ j hj]
    by_cases e : i = j
    · subst e
      rw [Array.getElem?_setIfInBounds_self_of_lt (by rw [iArr_size]; exact hj), if_pos rfl]
    · rw [Array.getElem?_setIfInBounds_ne e, iArr_at k n f j hj, if_neg (fun x => e x.symm)]
  · rw [Array.getElem?_eq_none (by rw [Array.size_setIfInBounds, iArr_size]; omega), Array.getElem?_eq_none (by rw [iArr_size]; omega)]
end
/-- So many bools, by value. -/
def tArr (n : Nat) (f : Nat → Bool) : Array Value := (boolsOf f n).toArray
section
variable {n : Nat} {f f' : Nat → Bool}
theorem tArr_size (n : Nat) (f : Nat → Bool) : (tArr n f).size = n := by simp [tArr, boolsOf_len]
theorem tArr_at (n : Nat) (f : Nat → Bool) (i : Nat) (h : i < n) : (tArr n f)[i]? = some (.bool (f i)) := by simp [tArr, boolsOf_at f n i h]
theorem tArr_one (n : Nat) (f : Nat → Bool) : ∀ v ∈ (tArr n f).toList, v.oneCell' = true := by
  intro v hv
  simp only [tArr, boolsOf, List.mem_map] at hv
  obtain ⟨j, _, rfl⟩ := hv
  rfl
theorem tArr_congr (h : ∀ i, i < n → f i = f' i) : tArr n f = tArr n f' := by
  unfold tArr boolsOf
  congr 1
  apply List.map_congr_left
  intro i hi
  rw [h i (by simpa using hi)]
theorem tArr_set (n : Nat) (f : Nat → Bool) (i : Nat) (b : Bool) : (tArr n f).setIfInBounds i (.bool b) = tArr n fun j => if j = i then b else f j := by
  apply Array.ext_getElem?
  intro j
  by_cases hj : j < n
  · rw [tArr_at n _ j hj]
    by_cases e : i = j
    · subst e
      rw [Array.getElem?_setIfInBounds_self_of_lt (by rw [tArr_size]; exact hj), if_pos rfl]
    · rw [Array.getElem?_setIfInBounds_ne e, tArr_at n f j hj, if_neg (fun x => e x.symm)]
  · rw [Array.getElem?_eq_none (by rw [Array.size_setIfInBounds, tArr_size]; omega), Array.getElem?_eq_none (by rw [tArr_size]; omega)]
end
end Go.Proofs.YtnhnphifhkkboaaDoor
namespace Go.Proofs.YtnhnphifhkkboaaDoor
open Go.RowKit
set_option linter.unusedVariables false
theorem run_store_complex {P : Program} {w : World} {p : Addr} {m : Mode} (k : FloatKind) (a b : Nat) : (store p (.complex k a b) m).run P w = stored P w p (.complex k a b) m := run_store P w p _ m rfl
/-- So many values, by value. -/
def vArr (n : Nat) (f : Nat → Value) : Array Value := ((List.range n).map f).toArray
section
variable {n : Nat} {f f' : Nat → Value}
theorem vArr_size (n : Nat) (f : Nat → Value) : (vArr n f).size = n := by simp [vArr]
theorem vArr_at (n : Nat) (f : Nat → Value) (i : Nat) (h : i < n) : (vArr n f)[i]? = some (f i) := by simp [vArr, h]
theorem vArr_one (n : Nat) (f : Nat → Value) (h : ∀ i, i < n → (f i).oneCell' = true) : ∀ v ∈ (vArr n f).toList, v.oneCell' = true := by
  intro v hv
  simp only [vArr, List.mem_map] at hv
  obtain ⟨j, hj, rfl⟩ := hv
  exact h j (by simpa using hj)
theorem vArr_congr (h : ∀ i, i < n → f i = f' i) : vArr n f = vArr n f' := by
  unfold vArr
  congr 1
  apply List.map_congr_left
  intro i hi
  exact h i (by simpa using hi)
theorem vArr_set (n : Nat) (f : Nat → Value) (i : Nat) (b : Value) : (vArr n f).setIfInBounds i b = vArr n fun j => if j = i then b else f j := by
  apply Array.ext_getElem?
  intro j
  by_cases hj : j < n
  · rw [vArr_at n _ j hj]
    by_cases e : i = j
    · subst e
      rw [Array.getElem?_setIfInBounds_self_of_lt (by rw [vArr_size]; exact hj), if_pos rfl]
    · rw [Array.getElem?_setIfInBounds_ne e, vArr_at n f j hj, if_neg (fun x => e x.symm)]
  · rw [Array.getElem?_eq_none (by rw [Array.size_setIfInBounds, vArr_size]; omega), Array.getElem?_eq_none (by rw [vArr_size]; omega)]
theorem iArr_v (k : IntKind) (n : Nat) (f : Nat → Int) : iArr k n f = vArr n fun i => .int k (f i) := rfl
theorem vArr_four (f : Nat → Value) : vArr 4 f = #[f 0, f 1, f 2, f 3] := rfl
theorem vArr_eight (f : Nat → Value) : vArr 8 f = #[f 0, f 1, f 2, f 3, f 4, f 5, f 6, f 7] := rfl
theorem ext4 {cs : Array Value} {f : Nat → Value} (hs : cs.size = n) (h : ∀ i, i < n → cs[i]? = some (f i)) : cs = vArr n f := by
  apply Array.ext_getElem?
  intro i
  by_cases hi : i < n
  · rw [h i hi, vArr_at n f i hi]
  · rw [Array.getElem?_eq_none (by omega), Array.getElem?_eq_none (by rw [vArr_size]; omega)]
end
theorem as_vArr {n : Nat} {cs : Array Value} (hs : cs.size = n) : ∃ f, cs = vArr n f := ⟨fun i => cs[i]?.getD undef, ext4 hs fun i hi => by rw [Array.getElem?_eq_getElem (by omega)]; rfl⟩
/-- The first k made, all others as they were. -/
def upTo_ (F Z : Nat → Value) (k i : Nat) : Value := if i < k then F i else Z i
theorem upTo_put (n : Nat) (F Z : Nat → Value) (k : Nat) : (vArr n (upTo_ F Z k)).setIfInBounds k (F k) = vArr n (upTo_ F Z (k + 1)) := by
  rw [vArr_set]
  exact vArr_congr fun i _ => by
    unfold upTo_
    by_cases h1 : i = k
    · subst h1; rw [if_pos rfl, if_pos (by omega)]
    · rw [if_neg h1]
      by_cases h2 : i < k
      · rw [if_pos h2, if_pos (by omega)]
      · rw [if_neg h2, if_neg (by omega)]
theorem upTo_none (n : Nat) (F Z : Nat → Value) : vArr n (upTo_ F Z 0) = vArr n Z := vArr_congr fun i _ => by unfold upTo_; rw [if_neg (by omega)]
theorem upTo_all (n : Nat) (F Z : Nat → Value) : vArr n (upTo_ F Z n) = vArr n F := vArr_congr fun i hi => by unfold upTo_; rw [if_pos hi]
/-- Four cells written, or eight. -/
def put4 (w : World) (g : Nat) (V : Nat → Value) : World := (((w.setCell ⟨g, 0, none⟩ (V 0)).setCell ⟨g, 1, none⟩ (V 1)).setCell ⟨g, 2, none⟩ (V 2)).setCell ⟨g, 3, none⟩ (V 3)
def put8 (w : World) (g : Nat) (V : Nat → Value) : World := ((((put4 w g V).setCell ⟨g, 4, none⟩ (V 4)).setCell ⟨g, 5, none⟩ (V 5)).setCell ⟨g, 6, none⟩ (V 6)).setCell ⟨g, 7, none⟩ (V 7)
section
variable {w a : World} {g k : Nat} {t t' : TypeId} {cs cs' : Array Value} {L : List Nat}
theorem Blk.put4 (h : Blk w g t cs) (hs : cs.size = 4) (V : Nat → Value) : Blk (put4 w g V) g t (vArr 4 V) := by
  have h2 := (((h.set_ 0 (V 0)).set_ 1 (V 1)).set_ 2 (V 2)).set_ 3 (V 3)
  have e : (((cs.setIfInBounds 0 (V 0)).setIfInBounds 1 (V 1)).setIfInBounds 2 (V 2)).setIfInBounds 3 (V 3) = vArr 4 V := by
    obtain ⟨f, rfl⟩ := as_vArr hs
    simp only [vArr_set]
    exact vArr_congr fun i hi => by
      have : i = 0 ∨ i = 1 ∨ i = 2 ∨ i = 3 := by omega
      rcases this with rfl | rfl | rfl | rfl <;> rfl
  rw [e] at h2
  exact h2
theorem Blk.put8 (h : Blk w g t cs) (hs : cs.size = 8) (V : Nat → Value) : Blk (put8 w g V) g t (vArr 8 V) := by
  have h2 := (((((((h.set_ 0 (V 0)).set_ 1 (V 1)).set_ 2 (V 2)).set_ 3 (V 3)).set_ 4 (V 4)).set_ 5 (V 5)).set_ 6 (V 6)).set_ 7 (V 7)
  have e : (((((((cs.setIfInBounds 0 (V 0)).setIfInBounds 1 (V 1)).setIfInBounds 2 (V 2)).setIfInBounds 3 (V 3)).setIfInBounds 4 (V 4)).setIfInBounds 5 (V 5)).setIfInBounds 6 (V 6)).setIfInBounds 7 (V 7) = vArr 8 V := by
    obtain ⟨f, rfl⟩ := as_vArr hs
    simp only [vArr_set]
    exact vArr_congr fun i hi => by
      have : i = 0 ∨ i = 1 ∨ i = 2 ∨ i = 3 ∨ i = 4 ∨ i = 5 ∨ i = 6 ∨ i = 7 := by omega
      rcases this with rfl | rfl | rfl | rfl | rfl | rfl | rfl | rfl <;> rfl
  rw [e] at h2
  exact h2
theorem Blk.far4 (h : Blk w g t cs) (hne : g ≠ k) (V : Nat → Value) : Blk (Go.Proofs.YtnhnphifhkkboaaDoor.put4 w k V) g t cs := (((h.far (p := ⟨k, 0, none⟩) hne _).far (p := ⟨k, 1, none⟩) hne _).far (p := ⟨k, 2, none⟩) hne _).far (p := ⟨k, 3, none⟩) hne _
theorem Blk.far8 (h : Blk w g t cs) (hne : g ≠ k) (V : Nat → Value) : Blk (Go.Proofs.YtnhnphifhkkboaaDoor.put8 w k V) g t cs := ((((h.far4 hne V).far (p := ⟨k, 4, none⟩) hne _).far (p := ⟨k, 5, none⟩) hne _).far (p := ⟨k, 6, none⟩) hne _).far (p := ⟨k, 7, none⟩) hne _
theorem below4 {B : Nat} (h : Below B a w) (hg : B ≤ g) (V : Nat → Value) : Below B a (Go.Proofs.YtnhnphifhkkboaaDoor.put4 w g V) := (((h.setCell (p := ⟨g, 0, none⟩) hg _).setCell (p := ⟨g, 1, none⟩) hg _).setCell (p := ⟨g, 2, none⟩) hg _).setCell (p := ⟨g, 3, none⟩) hg _
theorem below8 {B : Nat} (h : Below B a w) (hg : B ≤ g) (V : Nat → Value) : Below B a (Go.Proofs.YtnhnphifhkkboaaDoor.put8 w g V) := ((((below4 h hg V).setCell (p := ⟨g, 4, none⟩) hg _).setCell (p := ⟨g, 5, none⟩) hg _).setCell (p := ⟨g, 6, none⟩) hg _).setCell (p := ⟨g, 7, none⟩) hg _
end
/-- Results one of which lies in memory, the other in a slot. -/
theorem results_cell_tmp {P : Program} {fn : Func} {s u : Tmp} {t : TypeId} {v v2 : Value} {tmps : Array Value} {a : Addr} {w : World} (h : fn.results = #[.cell s t, .tmp u]) (ha : tmps[s]?.getD undef = .pointer (some a)) (hl : (loadVar t a).run P w = .ok v w) (hu : tmps[u]?.getD undef = v2) : (results fn tmps).run P w = .ok (.tuple #[v, v2]) w := by
  simp [results, h, ha, asAddr, hl, hu]
/-- A load of a whole array behind '&&' or '||'. -/
theorem wpList_load_row_want {P : Program} {ops : Array Oper} {rest : List Oper} {o : Oper} {a : Act} {w : World} {Q : Exit → Act → World → Prop} (hw : Region.wanted o (yielded ops a.tmps) = true) (ty : TypeId) (x : Operand) (ho : o.op = .load ty x)
    (g : Nat) (hx : a.eval x = .pointer (some ⟨g, 0, none⟩)) (t : TypeId) (cs : Array Value) (fr : Nat × Nat) (d : TypeDesc) (hg : w.heap[g]? = some (.cells cs t fr))
    (hu : P.underlying ty = some d) (hd : (match d with | .struct _ | .array _ _ => true | _ => false) = true) (hi : (P.info? ty).map (·.size) = some cs.size)
    (h : wpList P ops Q rest (a.put o.dst (.agg cs)) w) : wpList P ops Q (o :: rest) a w :=
  wpList_step fun K hK => by rw [if_pos hw]; exact wp_load_row ty x ho g hx t cs fr d hg hu hd hi (hK _ _ h)
end Go.Proofs.YtnhnphifhkkboaaDoor
