/-
  Texts of these proofs, one behind the other: Ent15.
-/
import Derived.Test.YtndhkdcdhpfajaaGreatKEP41
import Derived.Test.YtndhkdcdhpfajaaGreatKEP32
namespace Go.Proofs.YtndhkdcdhpfajaaGreat
open Go.RowKit
set_option linter.unusedVariables false
set_option linter.unusedSimpArgs false
set_option maxRecDepth 100000
theorem pushed_eq (p : Int) (p0 : 0 ≤ p) (p1 : p ≤ 255) : flS (flS p 32 false) 16 false = rwith (rwith p 5 false) 4 false := by
  rw [(flS_rwith p false p0 p1).2.1]
  exact (flS_rwith _ false (rwith_bd p 5 false p0 p1).1 (rwith_bd p 5 false p0 p1).2).2.2.1
theorem spL_at : ∀ (l : List Sp) (j : Nat) (p : Sp), l[j]? = some p → (spL l)[j * 4]? = some (.int .u8 p.kd) ∧ (spL l)[j * 4 + 1]? = some (.int .u16 p.ad) ∧ (spL l)[j * 4 + 2]? = some (.bool p.wr) ∧ (spL l)[j * 4 + 3]? = some (.int .u8 p.dt)
  | [], j, p, h => by simp at h
  | a :: l, 0, p, h => by
    simp at h
    subst h
    refine ⟨?_, ?_, ?_, ?_⟩ <;> simp [spL, spC]
  | a :: l, j + 1, p, h => by
    have ih := spL_at l j p (by simpa using h)
    have e : spL (a :: l) = spC a ++ spL l := by simp [spL]
    have hs : (spC a).length = 4 := rfl
    rw [e]
    refine ⟨?_, ?_, ?_, ?_⟩
    · rw [List.getElem?_append_right (by rw [hs]; omega), hs, show (j + 1) * 4 - 4 = j * 4 by omega]; exact ih.1
    · rw [List.getElem?_append_right (by rw [hs]; omega), hs, show (j + 1) * 4 + 1 - 4 = j * 4 + 1 by omega]; exact ih.2.1
    · rw [List.getElem?_append_right (by rw [hs]; omega), hs, show (j + 1) * 4 + 2 - 4 = j * 4 + 2 by omega]; exact ih.2.2.1
    · rw [List.getElem?_append_right (by rw [hs]; omega), hs, show (j + 1) * 4 + 3 - 4 = j * 4 + 3 by omega]; exact ih.2.2.2
theorem own_at {w : World} {base e b n c j : Nat} {l : List Sp} {p : Sp} (own : w.ownsRow base e 4 (.slice (some ⟨b, 0, none⟩) n c) n (spL l)) (hp : l[j]? = some p) :
    w.cell? ⟨b, j * 4, none⟩ = some (.int .u8 p.kd) ∧ w.cell? ⟨b, j * 4 + 1, none⟩ = some (.int .u16 p.ad) ∧ w.cell? ⟨b, j * 4 + 2, none⟩ = some (.bool p.wr) ∧ w.cell? ⟨b, j * 4 + 3, none⟩ = some (.int .u8 p.dt) := by
  have hc := own.cells (g := b) rfl
  obtain ⟨h0, h1, h2, h3⟩ := spL_at l j p hp
  have e : ∀ i, (⟨b, 0, none⟩ : Addr).add i = ⟨b, i, none⟩ := fun i => by simp [Addr.add]; exact fun h => h.symm
  have c0 := hc _ _ h0
  have c1 := hc _ _ h1
  have c2 := hc _ _ h2
  have c3 := hc _ _ h3
  rw [e] at c0 c1 c2 c3
  exact ⟨c0, c1, c2, c3⟩
end Go.Proofs.YtndhkdcdhpfajaaGreat
