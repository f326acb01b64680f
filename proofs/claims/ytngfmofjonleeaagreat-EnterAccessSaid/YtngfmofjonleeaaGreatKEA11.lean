/-
  Texts of these proofs, one behind the other: G13, G18, G24.
-/
import Derived.Test.YtngfmofjonleeaaGreatKEA05
import Derived.Test.YtngfmofjonleeaaGreatKEA10
import Derived.Laws.Tables
import Derived.Deep.WholeRow
import Derived.Laws.Rows
namespace Go.Proofs.YtngfmofjonleeaaGreat
open Go.RowKit
set_option linter.unusedVariables false
def intsOf (k : IntKind) (z : Nat → Int) (n : Nat) : List Value := (List.range n).map fun i => .int k (z i)
theorem intsOf_at (k : IntKind) (z : Nat → Int) (n i : Nat) (h : i < n) : (intsOf k z n)[i]? = some (.int k (z i)) := by simp [intsOf, h]
section
variable {P : Program} {t e ty : TypeId} {k : IntKind} {bytes : Nat}
end
section
variable {H : Type} {enc : TypeId × Value → H} {P : Program} {w : World} {base : Nat} {r : Reach} {b0 : Nat} {t e : TypeId} {v : Value} {d : DataW H} {ps : List MemPlace}
end
end Go.Proofs.YtngfmofjonleeaaGreat
namespace Go.Proofs.YtngfmofjonleeaaGreat
open Go.RowKit
set_option linter.unusedVariables false
section
variable {P : Program} {L : List Nat} {a w w' : World} {g k : Nat} {t ty : TypeId} {cs : Array Value}
theorem Blk.row (h : Blk w g t cs) (cs' : Array Value) : Blk (w.setRow g cs') g t cs' := setRow_heap w g cs cs' t (0, 0) h
theorem Kp.setRow (h : Kp L a w) (hp : g ∈ L ∨ a.heap.size ≤ g) (cs' : Array Value) : Kp L a (w.setRow g cs') :=
  ⟨h.os, h.tape, h.output, by rw [setRow_size]; exact h.size, fun i hi hn => by
    rw [setRow_other w g i cs' (fun e => by subst e; exact hp.elim hn (by omega))]; exact h.block i hi hn⟩
theorem Blk.run_store (h : Blk w g t cs) (cs' : Array Value) (hs : cs.size = cs'.size) (h1 : ∀ v ∈ cs'.toList, v.oneCell' = true) : (storeCells ⟨g, 0, none⟩ cs'.toList).run P w = .ok () (w.setRow g cs') := by
  have h' := run_storeCells_from (P := P) g t cs'.toList 0 cs w h (by simp [hs]) h1
  simpa using h'
theorem Blk.run_load {d : TypeDesc} (h : Blk w g t cs) (hu : P.underlying ty = some d) (hd : (match d with | .struct _ | .array _ _ => true | _ => false) = true) (hi : (P.info? ty).map (·.size) = some cs.size) : (loadVar ty ⟨g, 0, none⟩).run P w = .ok (.agg cs) w :=
  run_loadVar_row w g t ty cs (0, 0) d h hu hd hi
end
/-- So many integers, by value. -/
def iArr (k : IntKind) (n : Nat) (f : Nat → Int) : Array Value := (intsOf k f n).toArray
section
variable {k : IntKind} {n : Nat} {f f' : Nat → Int}
theorem iArr_at (k : IntKind) (n : Nat) (f : Nat → Int) (i : Nat) (h : i < n) : (iArr k n f)[i]? = some (.int k (f i)) := by simp [iArr, intsOf_at k f n i h]
end
/-- So many bools, by value. -/
def tArr (n : Nat) (f : Nat → Bool) : Array Value := (boolsOf f n).toArray
section
variable {n : Nat} {f f' : Nat → Bool}
theorem tArr_at (n : Nat) (f : Nat → Bool) (i : Nat) (h : i < n) : (tArr n f)[i]? = some (.bool (f i)) := by simp [tArr, boolsOf_at f n i h]
end
end Go.Proofs.YtngfmofjonleeaaGreat
namespace Go.Proofs.YtngfmofjonleeaaGreat
open Go.RowKit
set_option linter.unusedVariables false
/-- So many values, by value. -/
def vArr (n : Nat) (f : Nat → Value) : Array Value := ((List.range n).map f).toArray
section
variable {n : Nat} {f f' : Nat → Value}
theorem vArr_size (n : Nat) (f : Nat → Value) : (vArr n f).size = n := by simp [vArr]
theorem vArr_at (n : Nat) (f : Nat → Value) (i : Nat) (h : i < n) : (vArr n f)[i]? = some (f i) := by simp [vArr, h]
theorem vArr_congr (h : ∀ i, i < n → f i = f' i) : vArr n f = vArr n f' := by
  unfold vArr
  congr 1
  apply List.map_congr_left
  intro i hi
  exact h i (by simpa using hi)
theorem vArr_set (n : Nat) (f : Nat → Value) (i : Nat) (b : Value) : (vArr n f).setIfInBounds i b = vArr n fun j => if j = i then b else f j := by
  apply Array.ext_getElem?
  intro j
  by_cases hj : j < n
  · rw [vArr_at n _ j hj]
    by_cases e : i = j
    · subst e
      rw [Array.getElem?_setIfInBounds_self_of_lt (by rw [vArr_size]; exact hj), if_pos rfl]
    · rw [Array.getElem?_setIfInBounds_ne e, vArr_at n f j hj, if_neg (fun x => e x.symm)]
  · rw [Array.getElem?_eq_none (by rw [Array.size_setIfInBounds, vArr_size]; omega), Array.getElem?_eq_none (by rw [vArr_size]; omega)]
theorem ext4 {cs : Array Value} {f : Nat → Value} (hs : cs.size = n) (h : ∀ i, i < n → cs[i]? = some (f i)) : cs = vArr n f := by
  apply Array.ext_getElem?
  intro i
  by_cases hi : i < n
  · rw [h i hi, vArr_at n f i hi]
  · rw [Array.getElem?_eq_none (by omega), Array.getElem?_eq_none (by rw [vArr_size]; omega)]
end
theorem as_vArr {n : Nat} {cs : Array Value} (hs : cs.size = n) : ∃ f, cs = vArr n f := ⟨fun i => cs[i]?.getD undef, ext4 hs fun i hi => by rw [Array.getElem?_eq_getElem (by omega)]; rfl⟩
/-- Four cells written, or eight. -/
def put4 (w : World) (g : Nat) (V : Nat → Value) : World := (((w.setCell ⟨g, 0, none⟩ (V 0)).setCell ⟨g, 1, none⟩ (V 1)).setCell ⟨g, 2, none⟩ (V 2)).setCell ⟨g, 3, none⟩ (V 3)
section
variable {w a : World} {g k : Nat} {t t' : TypeId} {cs cs' : Array Value} {L : List Nat}
theorem Blk.put4 (h : Blk w g t cs) (hs : cs.size = 4) (V : Nat → Value) : Blk (put4 w g V) g t (vArr 4 V) := by
  have h2 := (((h.set_ 0 (V 0)).set_ 1 (V 1)).set_ 2 (V 2)).set_ 3 (V 3)
  have e : (((cs.setIfInBounds 0 (V 0)).setIfInBounds 1 (V 1)).setIfInBounds 2 (V 2)).setIfInBounds 3 (V 3) = vArr 4 V := by
    obtain ⟨f, rfl⟩ := as_vArr hs
    simp only [vArr_set]
    exact vArr_congr fun i hi => by
      have : i = 0 ∨ i = 1 ∨ i = 2 ∨ i = 3 := by omega
      rcases this with rfl | rfl | rfl | rfl <;> rfl
  rw [e] at h2
  exact h2
end
end Go.Proofs.YtngfmofjonleeaaGreat
