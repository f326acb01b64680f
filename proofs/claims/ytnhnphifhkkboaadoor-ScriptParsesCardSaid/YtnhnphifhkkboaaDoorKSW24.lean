/-
  Texts of these proofs, one behind the other: Scr4.
-/
import Derived.Test.YtnhnphifhkkboaaDoorKSW22
import Derived.Test.YtnhnphifhkkboaaDoorKSW13
import Derived.Test.YtnhnphifhkkboaaDoorKSW23
import Derived.Lib.IndexLaws
import Derived.RangeFuncFrom
import Derived.RangeFuncGives
import Derived.OwnWalkIn
import Derived.TacticsInMore
import Derived.RegionIn
import Derived.LoopNIn
import Derived.LoopIn
import Derived.Sort.LoopGhostIn
import Derived.Sort.CutIn
import Derived.Sort.QuietIn
import Derived.Shelf.RegionOpen
import Derived.Shelf.AbstractIn
namespace Go.Proofs.YtnhnphifhkkboaaDoor
open Go.RowKit Go.Shelf
set_option linter.unusedVariables false
set_option linter.unusedSimpArgs false
set_option maxRecDepth 100000
/-- Where the first byte 10 is from a place on, or the end. -/
def nlK (s : ByteArray) : Nat → Nat → Nat
  | 0, p => p
  | f + 1, p => if s.get! p = 10 then p else nlK s f (p + 1)
def nlF (s : ByteArray) (p : Nat) : Nat := nlK s (s.size - p) p
theorem nlK_eq (s : ByteArray) (j : Nat) : ∀ f p, p + f = s.size → p ≤ j → j ≤ s.size → (∀ i, p ≤ i → i < j → s.get! i ≠ 10) → (j < s.size → s.get! j = 10) → nlK s f p = j
  | 0, p, h1, h2, h3, h4, h5 => by unfold nlK; omega
  | f + 1, p, h1, h2, h3, h4, h5 => by
    unfold nlK
    by_cases hp : p = j
    · subst hp; rw [if_pos (h5 (by omega))]
    · rw [if_neg (h4 p (Nat.le_refl _) (by omega))]
      exact nlK_eq s j f (p + 1) (by omega) (by omega) h3 (fun i hi hj => h4 i (by omega) hj) h5
theorem nlF_eq {s : ByteArray} {p j : Nat} (h2 : p ≤ j) (h3 : j ≤ s.size) (h4 : ∀ i, p ≤ i → i < j → s.get! i ≠ 10) (h5 : j < s.size → s.get! j = 10) : nlF s p = j :=
  nlK_eq s j _ p (by omega) h2 h3 h4 h5
theorem nlK_bd (s : ByteArray) : ∀ f p, p + f = s.size → p ≤ nlK s f p ∧ nlK s f p ≤ s.size
  | 0, p, h => by unfold nlK; omega
  | f + 1, p, h => by
    unfold nlK
    split
    · omega
    · have := nlK_bd s f (p + 1) (by omega); omega
theorem nlF_bd {s : ByteArray} {p : Nat} (hp : p ≤ s.size) : p ≤ nlF s p ∧ nlF s p ≤ s.size := nlK_bd s _ p (by omega)
theorem getE (s : ByteArray) (a b i : Nat) (h : i < b - a) (hb : b ≤ s.size) : (s.extract a b).get! i = s.get! (a + i) := by
  have hz : i < (s.extract a b).size := by rw [ByteArray.size_extract]; omega
  rw [getB _ i hz, getB s (a + i) (by omega), ByteArray.getElem_extract]
theorem listB (s : ByteArray) (k : Nat) (c : UInt8) : s.data.toList[k]? = some c ↔ k < s.size ∧ s.get! k = c := by
  constructor
  · intro h
    have hk : k < s.size := by have := (List.getElem?_eq_some_iff.1 h).1; simpa using this
    refine ⟨hk, ?_⟩
    rw [getB s k hk]
    obtain ⟨h1, h2⟩ := List.getElem?_eq_some_iff.1 h
    rw [Array.getElem_toList] at h2
    exact h2
  · rintro ⟨hk, h⟩
    rw [List.getElem?_eq_some_iff]
    refine ⟨by simpa using hk, ?_⟩
    rw [getB s k hk] at h
    rw [Array.getElem_toList]
    exact h
/-- What the first byte 10 of the rest of a text is. -/
theorem idx_rest (s : ByteArray) (p : Nat) (hp : p ≤ s.size) : Lib.indexByte (s.extract p s.size).data.toList 10 = if nlF s p < s.size then ((nlF s p - p : Nat) : Int) else -1 := by
  have hz : (s.extract p s.size).size = s.size - p := by rw [ByteArray.size_extract]; omega
  have hge := Lib.indexByte_ge (s.extract p s.size).data.toList 10
  by_cases h : Lib.indexByte (s.extract p s.size).data.toList 10 = -1
  · rw [h]
    have hn := Lib.indexByte_none h
    have : nlF s p = s.size := nlF_eq hp (Nat.le_refl _) (fun i h1 h2 e => by
      refine hn (i - p) ((listB _ _ _).2 ⟨by omega, ?_⟩)
      rw [getE s p s.size (i - p) (by omega) (Nat.le_refl _), show p + (i - p) = i by omega]
      exact e) (fun h => absurd h (by omega))
    rw [this, if_neg (by omega)]
  · obtain ⟨o, ho⟩ : ∃ o : Nat, Lib.indexByte (s.extract p s.size).data.toList 10 = o := ⟨(Lib.indexByte (s.extract p s.size).data.toList 10).toNat, by omega⟩
    rw [ho]
    obtain ⟨h1, h2⟩ := Lib.indexByte_some ho
    rw [listB, hz] at h1
    have : nlF s p = p + o := nlF_eq (by omega) (by omega) (fun i h3 h4 e => by
      refine h2 (i - p) (by omega) ((listB _ _ _).2 ⟨by omega, ?_⟩)
      rw [getE s p s.size (i - p) (by omega) (Nat.le_refl _), show p + (i - p) = i by omega]
      exact e) (fun h => by
        rw [← getE s p s.size o (by omega) (Nat.le_refl _)]; exact h1.2)
    rw [this, if_pos (by omega)]
    omega
theorem nl_str : (⟨#[10]⟩ : ByteArray).size = 1 := rfl
set_option maxHeartbeats 4000000 in
/-- The rest of a text, cut at its first byte 10. -/
theorem sccut_any (s : ByteArray) (p : Nat) (hp : p ≤ s.size) (hs : s.size ≤ 1000000) (w : World) :
    Calls Tryd.prog 93 #[.string (s.extract p s.size), .string ⟨#[10]⟩] w fun e w' => e = .returned (.tuple #[.string (s.extract p (nlF s p)), .string (if nlF s p < s.size then s.extract (nlF s p + 1) s.size else ⟨#[]⟩), .bool (decide (nlF s p < s.size))]) ∧ Below w.heap.size w w' := by
  have hI := fun W => sh_stringslite_Index_one (s.extract p s.size) 10 W
  rw [idx_rest s p hp] at hI
  have hb := nlF_bd hp
  obtain ⟨j, hj⟩ : ∃ j, nlF s p = j := ⟨_, rfl⟩
  rw [hj] at hI hb ⊢
  have hz : (s.extract p s.size).size = s.size - p := by rw [ByteArray.size_extract]; omega
  have hx1 : (s.extract p s.size).extract 0 (j - p) = s.extract p j := by rw [ByteArray.extract_extract, Nat.add_zero, show min (p + (j - p)) s.size = j by omega]
  have hx2 : (s.extract p s.size).extract (j - p + 1) (s.extract p s.size).size = s.extract (j + 1) s.size := by
    rw [ByteArray.extract_extract, hz, show p + (j - p + 1) = j + 1 by omega, show min (p + (s.size - p)) s.size = s.size by omega]
  by_cases hlt : j < s.size
  · rw [if_pos hlt] at hI ⊢
    rw [decide_eq_true hlt, ← hx1, ← hx2]
    obtain ⟨q, hq⟩ : ∃ q, j - p = q := ⟨_, rfl⟩
    rw [hq] at hI ⊢
    have hq1 : q + 1 ≤ (s.extract p s.size).size := by omega
    have hq2 : (s.extract p s.size).size ≤ 1000000 := by omega
    obtain ⟨r, hr⟩ : ∃ r, s.extract p s.size = r := ⟨_, rfl⟩
    rw [hr] at hI hq1 hq2 ⊢
    clear hx1 hx2 hz hr hj hb hq hlt
    have g1 : (q : Int) ≤ r.size := by omega
    have g2 : (q : Int) + 1 ≤ r.size := by omega
    have g3 : (0 : Int) ≤ q := by omega
    go_enter Tryd.func93, Tryd.ntmps93
    go_wp2_with (first | (go_at_call 140; refine (hI _).mono ?_; rintro e w' ⟨rfl, rfl⟩) | go_in)
    go_quiet (fail)
    go_wp2_with fail
    all_goals (go_ret3; exact ⟨rfl, below_drewN (Below.refl _ _) _⟩)
  · rw [if_neg hlt] at hI ⊢
    have hj' : j = s.size := by omega
    rw [decide_eq_false hlt, hj']
    obtain ⟨r, hr⟩ : ∃ r, s.extract p s.size = r := ⟨_, rfl⟩
    rw [hr] at hI ⊢
    clear hx1 hx2 hz hr hj hb hlt hj'
    go_enter Tryd.func93, Tryd.ntmps93
    go_wp2_with (first | (go_at_call 140; refine (hI _).mono ?_; rintro e w' ⟨rfl, rfl⟩) | go_in)
    all_goals (go_ret3; exact ⟨rfl, Below.refl _ _⟩)
end Go.Proofs.YtnhnphifhkkboaaDoor
