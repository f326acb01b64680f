/-
  Texts of these proofs, one behind the other: G13, G18, G24.
-/
import Derived.Test.YtndhkdcdhpfajaaGreatKED05
import Derived.Test.YtndhkdcdhpfajaaGreatKED10
import Derived.Laws.Tables
import Derived.Deep.WholeRow
import Derived.Laws.Rows
namespace Go.Proofs.YtndhkdcdhpfajaaGreat
open Go.RowKit
set_option linter.unusedVariables false
def intsOf (k : IntKind) (z : Nat → Int) (n : Nat) : List Value := (List.range n).map fun i => .int k (z i)
theorem intsOf_len (k : IntKind) (z : Nat → Int) (n : Nat) : (intsOf k z n).length = n := by simp [intsOf]
theorem intsOf_at (k : IntKind) (z : Nat → Int) (n i : Nat) (h : i < n) : (intsOf k z n)[i]? = some (.int k (z i)) := by simp [intsOf, h]
theorem intsOf_one (k : IntKind) (z : Nat → Int) (n : Nat) : ∀ v ∈ intsOf k z n, v.oneCell' = true := by
 intro v hv
 simp only [intsOf, List.mem_map] at hv
 obtain ⟨j, _, rfl⟩ := hv
 rfl
theorem IRow.none_ {w : World} {k : IntKind} {A : Option Addr} {m : Nat} {z : Nat → Int} (R : IRow w k A m z) (h : A = none) : m = 0 := by
 rcases Nat.eq_zero_or_pos m with h0 | h0
 ·exact h0
 ·obtain ⟨_, e, _⟩ := R 0 h0; rw [h] at e; cases e
section
variable {P : Program} {t e ty : TypeId} {k : IntKind} {bytes : Nat}
/-- Behind a row of the call's own the integers of a slice that came in, nil or not. -/
theorem more_ints {w : World} {base n : Nat} {v : Value} {xs : List Value} (ht : P.underlying t = some (.slice e)) (hinfo : (P.info? e).map (fun i => (i.zero, i.size, i.bytes)) = some (some (.int k 0), 1, bytes)) (hby : bytes ≤ 8)
  (hown : w.ownsRow base e 1 v n xs) {A : Option Addr} {m c : Nat} {z : Nat → Int} (R : IRow w k A m z) (hm : n + m ≤ 1099511627776) (hbase : base ≤ w.heap.size) :
  ∃ v' w', (Builtin.append_ #[t, t] ty #[v, .slice A m c]).run P w = .ok v' w' ∧ w'.ownsRow base e 1 v' (n + m) (xs ++ intsOf k z m) ∧ w.grownBy w' v.ownBlock := by
 obtain ⟨i, hi, hzz⟩ := Option.map_eq_some_iff.1 hinfo
 simp only [Prod.mk.injEq] at hzz
 obtain ⟨hz, hs, hb⟩ := hzz
 cases A with
 | none =>
  obtain rfl := R.none_ rfl
  refine ⟨v, w, ?_, by simpa [intsOf] using hown, World.grownBy.refl w _⟩
  rcases hown.2 with ⟨rfl, rfl⟩ | ⟨g, cap, cur, rfl, _, _, hnc, _⟩
  ·simp [Builtin.append_, run_underlying ht, sizeOf, typeInfo, hi, Builtin.lenOf, Builtin.firstCells]
  ·simp [Builtin.append_, run_underlying ht, sizeOf, typeInfo, hi, Builtin.lenOf, Builtin.firstCells, hnc, storeCells]
 | some ad =>
  have hmul : (n + m) * bytes ≤ 140737488355328 := Nat.le_trans (Nat.mul_le_mul_left _ hby) (by omega)
  obtain ⟨v', w', h1, h2, h3, _, _⟩ := run_append_own_at (P := P) w base t ty e i (.int k 0) 1 bytes ht hi hz hs hb rfl (by omega) v n xs hown ad m c (intsOf k z m) (by rw [intsOf_len]; omega)
   (fun j u hu => by
    have hj : j < m := by have := (List.getElem?_eq_some_iff.1 hu).1; rwa [intsOf_len] at this
    rw [intsOf_at k z m j hj] at hu
    injection hu with hu
    subst hu
    obtain ⟨ae, h, _, hc, _⟩ := R j hj
    injection h with h
    subst h
    exact hc)
   (intsOf_one k z m) (by unfold maxLen; omega) hmul hbase
  exact ⟨v', w', h1, h2, h3⟩
/-- A row of the call's own, read as a slice. -/
theorem own_row {w : World} {base n : Nat} {v : Value} {z : Nat → Int} (h : w.ownsRow base e 1 v n (intsOf k z n)) (hw : ∀ i, i < n → (Lit.int k (z i)).wf = true) :
  ∃ A cap, v = .slice A n cap ∧ n ≤ cap ∧ cap ≤ maxLen ∧ IRow w k A n z ∧ Typed w A e ∧ (A = none → n = 0 ∧ cap = 0) ∧ (∀ ad, A = some ad → base ≤ ad.block) := by
 rcases h.2 with ⟨rfl, h0⟩ | ⟨g, cap, cur, rfl, hg, hh, hnc, hcm, hcs, hcur⟩
 ·subst h0
  exact ⟨none, 0, rfl, Nat.le_refl _, by unfold maxLen; omega, fun i hi => absurd hi (by omega), Typed.none, fun _ => ⟨rfl, rfl⟩, fun ad x => by cases x⟩
 ·refine ⟨some ⟨g, 0, none⟩, cap, rfl, hnc, hcm, fun i hi => ⟨_, rfl, ?_, ?_, hw i hi⟩, fun ad x => by cases x; exact ⟨cur, hh⟩, fun x => (by cases x), fun ad x => by cases x; exact hg⟩
  ·rcases Nat.lt_or_ge g w.heap.size with h | h
   ·exact h
   ·rw [Array.getElem?_eq_none h] at hh; cases hh
  ·exact h.cells rfl i _ (intsOf_at k z n i hi)
theorem intsOf_cat (z z2 : Nat → Int) (n n2 : Nat) : intsOf k z n ++ intsOf k z2 n2 = intsOf k (fun i => if i < n then z i else z2 (i - n)) (n + n2) := by
 apply List.ext_getElem?
 intro i
 by_cases h : i < n
 ·rw [List.getElem?_append_left (by rw [intsOf_len]; exact h), intsOf_at k z n i h, intsOf_at k _ _ i (by omega)]
  rw [if_pos h]
 ·rw [List.getElem?_append_right (by rw [intsOf_len]; omega), intsOf_len]
  by_cases h2 : i < n + n2
  ·rw [intsOf_at k z2 n2 _ (by omega), intsOf_at k _ _ i h2, if_neg h]
  ·rw [List.getElem?_eq_none (by rw [intsOf_len]; omega), List.getElem?_eq_none (by rw [intsOf_len]; omega)]
end
section
variable {H : Type} {enc : TypeId × Value → H} {P : Program} {w : World} {base : Nat} {r : Reach} {b0 : Nat} {t e : TypeId} {v : Value} {d : DataW H} {ps : List MemPlace}
end
end Go.Proofs.YtndhkdcdhpfajaaGreat
namespace Go.Proofs.YtndhkdcdhpfajaaGreat
open Go.RowKit
set_option linter.unusedVariables false
section
variable {P : Program} {L : List Nat} {a w w' : World} {g k : Nat} {t ty : TypeId} {cs : Array Value}
theorem Blk.row (h : Blk w g t cs) (cs' : Array Value) : Blk (w.setRow g cs') g t cs' := setRow_heap w g cs cs' t (0, 0) h
theorem Kp.setRow (h : Kp L a w) (hp : g ∈ L ∨ a.heap.size ≤ g) (cs' : Array Value) : Kp L a (w.setRow g cs') :=
 ⟨h.os, h.tape, h.output, by rw [setRow_size]; exact h.size, fun i hi hn => by
  rw [setRow_other w g i cs' (fun e => by subst e; exact hp.elim hn (by omega))]; exact h.block i hi hn⟩
theorem Blk.run_store (h : Blk w g t cs) (cs' : Array Value) (hs : cs.size = cs'.size) (h1 : ∀ v ∈ cs'.toList, v.oneCell' = true) : (storeCells ⟨g, 0, none⟩ cs'.toList).run P w = .ok () (w.setRow g cs') := by
 have h' := run_storeCells_from (P := P) g t cs'.toList 0 cs w h (by simp [hs]) h1
 simpa using h'
theorem Blk.run_load {d : TypeDesc} (h : Blk w g t cs) (hu : P.underlying ty = some d) (hd : (match d with | .struct _ | .array _ _ => true | _ => false) = true) (hi : (P.info? ty).map (·.size) = some cs.size) : (loadVar ty ⟨g, 0, none⟩).run P w = .ok (.agg cs) w :=
 run_loadVar_row w g t ty cs (0, 0) d h hu hd hi
end
/-- So many integers, by value. -/
def iArr (k : IntKind) (n : Nat) (f : Nat → Int) : Array Value := (intsOf k f n).toArray
section
variable {k : IntKind} {n : Nat} {f f' : Nat → Int}
theorem iArr_at (k : IntKind) (n : Nat) (f : Nat → Int) (i : Nat) (h : i < n) : (iArr k n f)[i]? = some (.int k (f i)) := by simp [iArr, intsOf_at k f n i h]
end
/-- So many bools, by value. -/
def tArr (n : Nat) (f : Nat → Bool) : Array Value := (boolsOf f n).toArray
section
variable {n : Nat} {f f' : Nat → Bool}
theorem tArr_at (n : Nat) (f : Nat → Bool) (i : Nat) (h : i < n) : (tArr n f)[i]? = some (.bool (f i)) := by simp [tArr, boolsOf_at f n i h]
end
end Go.Proofs.YtndhkdcdhpfajaaGreat
namespace Go.Proofs.YtndhkdcdhpfajaaGreat
open Go.RowKit
set_option linter.unusedVariables false
/-- So many values, by value. -/
def vArr (n : Nat) (f : Nat → Value) : Array Value := ((List.range n).map f).toArray
section
variable {n : Nat} {f f' : Nat → Value}
theorem vArr_size (n : Nat) (f : Nat → Value) : (vArr n f).size = n := by simp [vArr]
theorem vArr_at (n : Nat) (f : Nat → Value) (i : Nat) (h : i < n) : (vArr n f)[i]? = some (f i) := by simp [vArr, h]
theorem vArr_congr (h : ∀ i, i < n → f i = f' i) : vArr n f = vArr n f' := by
 unfold vArr
 congr 1
 apply List.map_congr_left
 intro i hi
 exact h i (by simpa using hi)
theorem vArr_set (n : Nat) (f : Nat → Value) (i : Nat) (b : Value) : (vArr n f).setIfInBounds i b = vArr n fun j => if j = i then b else f j := by
 apply Array.ext_getElem?
 intro j
 by_cases hj : j < n
 ·rw [vArr_at n _ j hj]
  by_cases e : i = j
  ·subst e
   rw [Array.getElem?_setIfInBounds_self_of_lt (by rw [vArr_size]; exact hj), if_pos rfl]
  ·rw [Array.getElem?_setIfInBounds_ne e, vArr_at n f j hj, if_neg (fun x => e x.symm)]
 ·rw [Array.getElem?_eq_none (by rw [Array.size_setIfInBounds, vArr_size]; omega), Array.getElem?_eq_none (by rw [vArr_size]; omega)]
theorem ext4 {cs : Array Value} {f : Nat → Value} (hs : cs.size = n) (h : ∀ i, i < n → cs[i]? = some (f i)) : cs = vArr n f := by
 apply Array.ext_getElem?
 intro i
 by_cases hi : i < n
 ·rw [h i hi, vArr_at n f i hi]
 ·rw [Array.getElem?_eq_none (by omega), Array.getElem?_eq_none (by rw [vArr_size]; omega)]
end
theorem as_vArr {n : Nat} {cs : Array Value} (hs : cs.size = n) : ∃ f, cs = vArr n f := ⟨fun i => cs[i]?.getD undef, ext4 hs fun i hi => by rw [Array.getElem?_eq_getElem (by omega)]; rfl⟩
/-- Four cells written, or eight. -/
def put4 (w : World) (g : Nat) (V : Nat → Value) : World := (((w.setCell ⟨g, 0, none⟩ (V 0)).setCell ⟨g, 1, none⟩ (V 1)).setCell ⟨g, 2, none⟩ (V 2)).setCell ⟨g, 3, none⟩ (V 3)
section
variable {w a : World} {g k : Nat} {t t' : TypeId} {cs cs' : Array Value} {L : List Nat}
theorem Blk.put4 (h : Blk w g t cs) (hs : cs.size = 4) (V : Nat → Value) : Blk (put4 w g V) g t (vArr 4 V) := by
 have h2 := (((h.set_ 0 (V 0)).set_ 1 (V 1)).set_ 2 (V 2)).set_ 3 (V 3)
 have e : (((cs.setIfInBounds 0 (V 0)).setIfInBounds 1 (V 1)).setIfInBounds 2 (V 2)).setIfInBounds 3 (V 3) = vArr 4 V := by
  obtain ⟨f, rfl⟩ := as_vArr hs
  simp only [vArr_set]
  exact vArr_congr fun i hi => by
   have : i = 0 ∨ i = 1 ∨ i = 2 ∨ i = 3 := by omega
   rcases this with rfl | rfl | rfl | rfl <;> rfl
 rw [e] at h2
 exact h2
end
end Go.Proofs.YtndhkdcdhpfajaaGreat
