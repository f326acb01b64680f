/-
  Texts of these proofs, one behind the other: G5.
-/
import Derived.WalkKit
import Derived.ProofKit
import Derived.OpenShut
import Derived.Deep.Grids
namespace Go.Proofs.YtndhkdcdhpfajaaGreat
open Go.ChangeShapes Go.WideShapes Go.ChangeAt Go.RowKit
theorem add_zero_block (o i : Nat) : (⟨o, 0, none⟩ : Addr).add i = ⟨o, i, none⟩ := by unfold Addr.add; split <;> simp_all
theorem block_of_add (a : Addr) (n : Nat) : (a.add n).block = a.block := by unfold Addr.add; split <;> rfl
theorem cell_lt {w : World} {a : Addr} {v : Value} (h : w.cell? a = some v) : a.block < w.heap.size := by
  rcases Nat.lt_or_ge a.block w.heap.size with hlt | hge
  · exact hlt
  · unfold World.cell? at h
    rw [Array.getElem?_eq_none hge] at h
    cases h
def IRow (w : World) (k : IntKind) (A : Option Addr) (n : Nat) (zs : Nat → Int) : Prop :=
  ∀ i, i < n → ∃ ad : Addr, A = some ad ∧ ad.block < w.heap.size ∧ w.cell? (ad.add i) = some (.int k (zs i)) ∧ (Lit.int k (zs i)).wf = true
def BRow (w : World) (A : Option Addr) (n : Nat) (zs : Nat → Bool) : Prop :=
  ∀ i, i < n → ∃ ad : Addr, A = some ad ∧ ad.block < w.heap.size ∧ w.cell? (ad.add i) = some (.bool (zs i))
theorem IRow.keep {w w' : World} {k : IntKind} {A : Option Addr} {n : Nat} {zs : Nat → Int} (h : IRow w k A n zs) (hb : Below w.heap.size w w') : IRow w' k A n zs := fun i hi => by
  obtain ⟨ad, e, hl, hc, hw⟩ := h i hi
  exact ⟨ad, e, Nat.lt_of_lt_of_le hl hb.size, (hb.cell (by rw [block_of_add]; exact hl)).trans hc, hw⟩
theorem BRow.keep {w w' : World} {A : Option Addr} {n : Nat} {zs : Nat → Bool} (h : BRow w A n zs) (hb : Below w.heap.size w w') : BRow w' A n zs := fun i hi => by
  obtain ⟨ad, e, hl, hc⟩ := h i hi
  exact ⟨ad, e, Nat.lt_of_lt_of_le hl hb.size, (hb.cell (by rw [block_of_add]; exact hl)).trans hc⟩
section
variable {H : Type} {enc : TypeId × Value → H} {P : Program} {w : World} {base : Nat} {r : Reach} {b0 : Nat} {t e : TypeId} {v : Value} {d : DataW H} {ps : List MemPlace}
theorem slice_ints {k : IntKind} (ht : P.underlying t = some (.slice e)) (he : P.underlying e = some (.int k)) (hc : P.cellsOf e = 1) (hval : Value.okWide P w r b0 t v) (hd : DataW.Trod enc P w base (fun _ => true) true t v d ps) :
    ∃ A n cap zs, v = .slice A n cap ∧ n ≤ cap ∧ cap ≤ maxLen ∧ IRow w k A n zs := by
  obtain ⟨a0, len, cap, rfl⟩ := okWide_slice ht hval
  obtain ⟨fuel, hf⟩ := hd
  rcases open_ints ht he hc hf with ⟨hcs, _⟩ | ⟨a, len', cap', zs, hcs, _, hl, hm, hz, _, hcell, hwz⟩
  · simp only [Value.cells, List.cons.injEq, Value.slice.injEq, and_true] at hcs
    obtain ⟨rfl, rfl, rfl⟩ := hcs
    exact ⟨none, 0, 0, fun _ => 0, rfl, Nat.le_refl _, by unfold maxLen; omega, fun i hi => absurd hi (by omega)⟩
  · simp only [Value.cells, List.cons.injEq, Value.slice.injEq, and_true] at hcs
    obtain ⟨rfl, rfl, rfl⟩ := hcs
    simp only [if_true] at hz
    refine ⟨some a, len, cap, fun i => zs.getD i 0, rfl, hl, hm, fun i hi => ⟨a, rfl, ?_, hcell i (by omega), ?_⟩⟩
    · have := cell_lt (hcell i (by omega)); rwa [block_of_add] at this
    · have hi' : i < zs.length := by omega
      exact hwz _ (by simp [List.getD, List.getElem?_eq_getElem hi'])
theorem slice_bools (ht : P.underlying t = some (.slice e)) (he : P.underlying e = some .bool) (hc : P.cellsOf e = 1) (hval : Value.okWide P w r b0 t v) (hd : DataW.Trod enc P w base (fun _ => true) true t v d ps) :
    ∃ A n cap zs, v = .slice A n cap ∧ n ≤ cap ∧ cap ≤ maxLen ∧ BRow w A n zs := by
  obtain ⟨a0, len, cap, rfl⟩ := okWide_slice ht hval
  obtain ⟨fuel, hf⟩ := hd
  rcases Go.Deep.open_bools ht he hc hf with ⟨hcs, _⟩ | ⟨a, len', cap', zs, hcs, _, hl, hm, _, hcell⟩
  · simp only [Value.cells, List.cons.injEq, Value.slice.injEq, and_true] at hcs
    obtain ⟨rfl, rfl, rfl⟩ := hcs
    exact ⟨none, 0, 0, fun _ => false, rfl, Nat.le_refl _, by unfold maxLen; omega, fun i hi => absurd hi (by omega)⟩
  · simp only [Value.cells, List.cons.injEq, Value.slice.injEq, and_true] at hcs
    obtain ⟨rfl, rfl, rfl⟩ := hcs
    refine ⟨some a, len, cap, zs, rfl, hl, hm, fun i hi => ⟨a, rfl, ?_, hcell i (by omega)⟩⟩
    have := cell_lt (hcell i (by omega)); rwa [block_of_add] at this
end
end Go.Proofs.YtndhkdcdhpfajaaGreat
