/-
  Whole rows: stored into a block that is known, and loaded out of it; rows of integers and of bools by value. Over any program.
-/
import Derived.Test.YtndhkdcdhpfajaaDoorG13
import Derived.Test.YtndhkdcdhpfajaaDoorG8
import Derived.Laws.Tables
import Derived.Deep.WholeRow
import Derived.Laws.Rows
namespace Go.Proofs.YtndhkdcdhpfajaaDoor
open Go.RowKit
set_option linter.unusedVariables false
section
variable {P : Program} {L : List Nat} {a w w' : World} {g k : Nat} {t ty : TypeId} {cs : Array Value}
theorem Blk.row (h : Blk w g t cs) (cs' : Array Value) : Blk (w.setRow g cs') g t cs' := setRow_heap w g cs cs' t (0, 0) h
theorem Blk.rowFar (h : Blk w g t cs) (hne : g ≠ k) (cs' : Array Value) : Blk (w.setRow k cs') g t cs := by
  show (w.setRow k cs').heap[g]? = _
  rw [setRow_other w k g cs' hne]; exact h
theorem Kp.setRow (h : Kp L a w) (hp : g ∈ L ∨ a.heap.size ≤ g) (cs' : Array Value) : Kp L a (w.setRow g cs') :=
  ⟨h.os, h.tape, h.output, by rw [setRow_size]; exact h.size, fun i hi hn => by
    rw [setRow_other w g i cs' (fun e => by subst e; exact hp.elim hn (by omega))]; exact h.block i hi hn⟩
theorem Blk.run_store (h : Blk w g t cs) (cs' : Array Value) (hs : cs.size = cs'.size) (h1 : ∀ v ∈ cs'.toList, v.oneCell' = true) : (storeCells ⟨g, 0, none⟩ cs'.toList).run P w = .ok () (w.setRow g cs') := by
  have h' := run_storeCells_from (P := P) g t cs'.toList 0 cs w h (by simp [hs]) h1
  simpa using h'
theorem Blk.run_load {d : TypeDesc} (h : Blk w g t cs) (hu : P.underlying ty = some d) (hd : (match d with | .struct _ | .array _ _ => true | _ => false) = true) (hi : (P.info? ty).map (·.size) = some cs.size) : (loadVar ty ⟨g, 0, none⟩).run P w = .ok (.agg cs) w :=
  run_loadVar_row w g t ty cs (0, 0) d h hu hd hi
end
/-- So many integers, by value. -/
def iArr (k : IntKind) (n : Nat) (f : Nat → Int) : Array Value := (intsOf k f n).toArray
section
variable {k : IntKind} {n : Nat} {f f' : Nat → Int}
theorem iArr_size (k : IntKind) (n : Nat) (f : Nat → Int) : (iArr k n f).size = n := by simp [iArr, intsOf_len]
theorem iArr_at (k : IntKind) (n : Nat) (f : Nat → Int) (i : Nat) (h : i < n) : (iArr k n f)[i]? = some (.int k (f i)) := by simp [iArr, intsOf_at k f n i h]
theorem iArr_one (k : IntKind) (n : Nat) (f : Nat → Int) : ∀ v ∈ (iArr k n f).toList, v.oneCell' = true := by
  intro v hv
  simp only [iArr] at hv
  exact intsOf_one k f n v hv
theorem iArr_congr (h : ∀ i, i < n → f i = f' i) : iArr k n f = iArr k n f' := by
  unfold iArr intsOf
  congr 1
  apply List.map_congr_left
  intro i hi
  rw [h i (by simpa using hi)]
theorem iArr_set (k : IntKind) (n : Nat) (f : Nat → Int) (i : Nat) (b : Int) : (iArr k n f).setIfInBounds i (.int k b) = iArr k n fun j => if j = i then b else f j := by
  apply Array.ext_getElem?
  intro j
  by_cases hj : j < n
  · rw [iArr_at k n _ j hj]
    by_cases e : i = j
    · subst e
      rw [Array.getElem?_setIfInBounds_self_of_lt (by rw [iArr_size]; exact hj), if_pos rfl]
    · rw [Array.getElem?_setIfInBounds_ne e, iArr_at k n f j hj, if_neg (fun x => e x.symm)]
  · rw [Array.getElem?_eq_none (by rw [Array.size_setIfInBounds, iArr_size]; omega), Array.getElem?_eq_none (by rw [iArr_size]; omega)]
end
/-- So many bools, by value. -/
def tArr (n : Nat) (f : Nat → Bool) : Array Value := (boolsOf f n).toArray
section
variable {n : Nat} {f f' : Nat → Bool}
theorem tArr_size (n : Nat) (f : Nat → Bool) : (tArr n f).size = n := by simp [tArr, boolsOf_len]
theorem tArr_at (n : Nat) (f : Nat → Bool) (i : Nat) (h : i < n) : (tArr n f)[i]? = some (.bool (f i)) := by simp [tArr, boolsOf_at f n i h]
theorem tArr_one (n : Nat) (f : Nat → Bool) : ∀ v ∈ (tArr n f).toList, v.oneCell' = true := by
  intro v hv
  simp only [tArr, boolsOf, List.mem_map] at hv
  obtain ⟨j, _, rfl⟩ := hv
  rfl
theorem tArr_congr (h : ∀ i, i < n → f i = f' i) : tArr n f = tArr n f' := by
  unfold tArr boolsOf
  congr 1
  apply List.map_congr_left
  intro i hi
  rw [h i (by simpa using hi)]
theorem tArr_set (n : Nat) (f : Nat → Bool) (i : Nat) (b : Bool) : (tArr n f).setIfInBounds i (.bool b) = tArr n fun j => if j = i then b else f j := by
  apply Array.ext_getElem?
  intro j
  by_cases hj : j < n
  · rw [tArr_at n _ j hj]
    by_cases e : i = j
    · subst e
      rw [Array.getElem?_setIfInBounds_self_of_lt (by rw [tArr_size]; exact hj), if_pos rfl]
    · rw [Array.getElem?_setIfInBounds_ne e, tArr_at n f j hj, if_neg (fun x => e x.symm)]
  · rw [Array.getElem?_eq_none (by rw [Array.size_setIfInBounds, tArr_size]; omega), Array.getElem?_eq_none (by rw [tArr_size]; omega)]
end
end Go.Proofs.YtndhkdcdhpfajaaDoor
