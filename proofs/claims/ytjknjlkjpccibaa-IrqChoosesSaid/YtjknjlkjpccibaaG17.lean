/-
  A slice of structs of two integers that came in, and one such struct by value; over any program.
-/
import Derived.Test.YtjknjlkjpccibaaG10
import Derived.Test.YtjknjlkjpccibaaG12
namespace Go.Proofs.Ytjknjlkjpccibaa
open Go.ChangeShapes Go.WideShapes Go.Deep Go.RowKit
set_option linter.unusedVariables false
def I2Row (w : World) (k0 k1 : IntKind) (A : Option Addr) (m : Nat) (ps : Nat → Int × Int) : Prop :=
  ∀ i, i < m → ∃ ad : Addr, A = some ad ∧ ad.block < w.heap.size ∧ w.cell? (ad.add (i * 2)) = some (.int k0 (ps i).1) ∧ w.cell? (ad.add (i * 2 + 1)) = some (.int k1 (ps i).2) ∧ (Lit.int k0 (ps i).1).wf = true ∧ (Lit.int k1 (ps i).2).wf = true
theorem I2Row.keep {w w' : World} {k0 k1 : IntKind} {A : Option Addr} {m : Nat} {ps : Nat → Int × Int} (h : I2Row w k0 k1 A m ps) (hb : Below w.heap.size w w') : I2Row w' k0 k1 A m ps := fun i hi => by
  obtain ⟨ad, e, hl, h1, h2, h3⟩ := h i hi
  exact ⟨ad, e, Nat.lt_of_lt_of_le hl hb.size, (hb.cell (by rw [block_of_add]; exact hl)).trans h1, (hb.cell (by rw [block_of_add]; exact hl)).trans h2, h3⟩
section
variable {H : Type} {enc : TypeId × Value → H} {P : Program} {w : World} {base : Nat} {r : Reach} {b0 : Nat} {t e : TypeId} {v : Value} {d : DataW H} {ps : List MemPlace} {f0 f1 : Field}
theorem slice_pairs {k0 k1 : IntKind} (ht : P.underlying t = some (.slice e)) (he : P.underlying e = some (.struct #[f0, f1])) (hone : oneCellFields P #[f0, f1] = true) (hC : P.cellsOf e = 2)
    (h0 : P.underlying f0.type = some (.int k0)) (h1 : P.underlying f1.type = some (.int k1))
    (hval : Value.okWide P w r b0 t v) (hd : DataW.Trod enc P w base (fun _ => true) true t v d ps) :
    ∃ A n cap qs, v = .slice A n cap ∧ n ≤ cap ∧ cap ≤ maxLen ∧ I2Row w k0 k1 A n qs := by
  obtain ⟨a0, len, cap, rfl⟩ := okWide_slice ht hval
  obtain ⟨fuel, hf⟩ := hd
  rcases open_slice_fields ht he hone hC hf with ⟨hcs, _⟩ | ⟨a, len', cap', m, D, Pl, hcs, _, hl, hm, hmm, _, hi⟩
  · simp only [Value.cells, List.cons.injEq, Value.slice.injEq, and_true] at hcs
    obtain ⟨rfl, rfl, rfl⟩ := hcs
    exact ⟨none, 0, 0, fun _ => (0, 0), rfl, Nat.le_refl _, by unfold maxLen; omega, fun i hi => absurd hi (by omega)⟩
  · simp only [Value.cells, List.cons.injEq, Value.slice.injEq, and_true] at hcs
    obtain ⟨rfl, rfl, rfl⟩ := hcs
    simp only [if_true] at hmm
    have key : ∀ i, i < len → ∃ p : Int × Int, w.cell? (a.add (i * 2)) = some (.int k0 p.1) ∧ w.cell? (a.add (i * 2 + 1)) = some (.int k1 p.2) ∧ (Lit.int k0 p.1).wf = true ∧ (Lit.int k1 p.2).wf = true := fun i hil => by
      obtain ⟨ys, n, _, _, _, hfs⟩ := hi i (by omega)
      obtain ⟨v0, y0, c0, _, t0⟩ := hfs 0 f0 rfl
      obtain ⟨v1, y1, c1, _, t1⟩ := hfs 1 f1 rfl
      obtain ⟨z, e0, _, wz⟩ := DataW.trod_int h0 t0
      obtain ⟨z1, e1, _, wz1⟩ := DataW.trod_int h1 t1
      simp only [List.cons.injEq, and_true] at e0 e1
      subst e0 e1
      exact ⟨(z, z1), c0, c1, wz, wz1⟩
    classical
    refine ⟨some a, len, cap, fun i => if h : i < len then Classical.choose (key i h) else (0, 0), rfl, hl, hm, fun i hil => ⟨a, rfl, ?_, ?_⟩⟩
    · have := cell_lt (Classical.choose_spec (key i hil)).1; rwa [block_of_add] at this
    · simp only [dif_pos hil]; exact Classical.choose_spec (key i hil)
theorem pair_value {k0 k1 : IntKind} (he : P.underlying e = some (.struct #[f0, f1])) (hone : oneCellFields P #[f0, f1] = true) (hC : P.cellsOf e = 2)
    (h0 : P.underlying f0.type = some (.int k0)) (h1 : P.underlying f1.type = some (.int k1))
    (hval : Value.okWide P w r b0 e v) (hd : DataW.Trod enc P w base (fun _ => true) true e v d ps) :
    ∃ p : Int × Int, v = .agg #[.int k0 p.1, .int k1 p.2] ∧ (Lit.int k0 p.1).wf = true ∧ (Lit.int k1 p.2).wf = true := by
  obtain ⟨v0, v1, y0, y1, n, rfl, _, _, t0, t1⟩ := Go.Joins.open_agg2 he hone hC hval hd
  obtain ⟨z, e0, _, wz⟩ := DataW.trod_int h0 t0
  obtain ⟨z1, e1, _, wz1⟩ := DataW.trod_int h1 t1
  simp only [List.cons.injEq, and_true] at e0 e1
  subst e0 e1
  exact ⟨(z, z1), rfl, wz, wz1⟩
end
end Go.Proofs.Ytjknjlkjpccibaa
