/-
  Opcode: plain facts on all names.
-/
import Derived.Test.YtleofglnlfpoeaaDoorOpc11
import Derived.Shelf.SlSorted.Search
namespace Go.Proofs.YtleofglnlfpoeaaDoor
open Go.RowKit
set_option linter.unusedVariables false
set_option maxRecDepth 100000
def uL : List (List UInt8) := unqN.map opN
theorem uL_len : uL.length = unqN.length := by unfold uL; rw [List.length_map]
def cntU (x : List UInt8) (k : Nat) : Nat := ((uL.take k).filter fun l => l == x).length
theorem cntU_yes (x : List UInt8) (k : Nat) (hk : k < uL.length) (h : (uL.getD k [] == x) = true) : cntU x (k + 1) = cntU x k + 1 := by
  unfold cntU
  rw [List.getD_eq_getElem?_getD, List.getElem?_eq_getElem hk] at h
  rw [List.take_add_one, List.getElem?_eq_getElem hk, List.filter_append]
  simp only [Option.getD_some] at h
  simp [h]
theorem cntU_no (x : List UInt8) (k : Nat) (hk : k < uL.length) (h : (uL.getD k [] == x) = false) : cntU x (k + 1) = cntU x k := by
  unfold cntU
  rw [List.getD_eq_getElem?_getD, List.getElem?_eq_getElem hk] at h
  rw [List.take_add_one, List.getElem?_eq_getElem hk, List.filter_append]
  simp only [Option.getD_some] at h
  simp [h]
theorem cntU_le (x : List UInt8) (k : Nat) : cntU x k ≤ k := by
  unfold cntU
  exact Nat.le_trans (List.length_filter_le _ _) (by rw [List.length_take]; omega)
theorem cntU_all (x : List UInt8) : cntU x uL.length = (unqN.filter fun i => opN i == x).length := by
  unfold cntU
  rw [List.take_length]
  unfold uL
  rw [List.filter_map, List.length_map]
  rfl
theorem cntU_one (b : Nat) (hb : b < 256) : cntU (opN b) uL.length = 1 := by rw [cntU_all]; exact unq_fin ⟨b, hb⟩
def anyK (s : List UInt8) (k : Nat) : Bool := (List.range k).any fun i => opK i && (opN i == s)
theorem anyK_succ (s : List UInt8) (k : Nat) : anyK s (k + 1) = (anyK s k || (opK k && (opN k == s))) := by
  unfold anyK; rw [List.range_succ, List.any_append]; simp
theorem kn_sub : ∀ b : Fin 256, opK b.val = true → (unqN.filter fun i => opN i == opN b.val).length = 1 := fun b _ => unq_fin b
theorem cntU_any (s : List UInt8) : (cntU s uL.length = 1 ∧ anyK s 256 = true) ∨ (cntU s uL.length = 0 ∧ anyK s 256 = false) := by
  rw [cntU_all]
  rcases hq : unqN.filter fun i => opN i == s with _ | ⟨x, r⟩
  · refine .inr ⟨rfl, ?_⟩
    unfold anyK
    rw [List.any_eq_false]
    intro j hj hk
    simp only [Bool.and_eq_true, beq_iff_eq] at hk
    have := unq_fin ⟨j, by simpa using hj⟩
    dsimp only at this
    rw [hk.2, hq] at this
    exact absurd this (by decide)
  · have hx : x ∈ unqN.filter fun i => opN i == s := by rw [hq]; simp
    rw [List.mem_filter] at hx
    have hs : opN x = s := by simpa using hx.2
    have hk := unq_kn x hx.1
    refine .inl ⟨?_, ?_⟩
    · rw [← hq, ← hs]; exact unq_fin ⟨x, hk.2⟩
    · unfold anyK
      rw [List.any_eq_true]
      exact ⟨x, by simpa using hk.2, by rw [hk.1, hs]; simp⟩
theorem uL_lt (k : Nat) (h0 : 0 < k) (hk : k < uL.length) : uL.getD (k - 1) [] < uL.getD k [] := by
  have := List.pairwise_iff_getElem.1 unq_lt (k - 1) k (by unfold uL at hk; omega) hk (by omega)
  rw [List.getD_eq_getElem?_getD, List.getD_eq_getElem?_getD, List.getElem?_eq_getElem hk, List.getElem?_eq_getElem (show k - 1 < uL.length by omega)]
  exact this
/-- The row of names, cell by cell. -/
theorem nmRow {w : World} {B g cap : Nat} {ls : List (List UInt8)} {n : Nat} (own : w.ownsRow B 9 1 (.slice (some ⟨g, 0, none⟩) n cap) n (ls.map Go.Proofs.encStr)) (hn : ls.length = n) : ∀ k, k < n → w.cell? ⟨g, k, none⟩ = some (.string (mkS (ls.getD k []))) := fun k hk => by
  rcases own.2 with ⟨h, h0⟩ | ⟨g2, cap2, cur, h, _, hb, _, _, hs, ht⟩
  · cases h
  · cases h
    have e1 : (cur.toList.take (n * 1))[k]? = (ls.map Go.Proofs.encStr)[k]? := by rw [ht]
    rw [List.getElem?_take, if_pos (by omega), Array.getElem?_toList, List.getElem?_map, List.getElem?_eq_getElem (by omega)] at e1
    simp only [World.cell?, hb]
    simp [e1, List.getD_eq_getElem?_getD, show k < ls.length by omega, mkS, Go.Proofs.encStr]
end Go.Proofs.YtleofglnlfpoeaaDoor
