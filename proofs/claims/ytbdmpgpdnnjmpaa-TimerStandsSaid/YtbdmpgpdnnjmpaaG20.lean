/-
  Slices of structs that came in: three integers each; a bool and an integer each. Over any program.
-/
import Derived.Test.YtbdmpgpdnnjmpaaG19
namespace Go.Proofs.Ytbdmpgpdnnjmpaa
open Go.ChangeShapes Go.WideShapes Go.Deep Go.RowKit
set_option linter.unusedVariables false
/-- Three integers. -/
structure Iii where
  a : Int
  b : Int
  c : Int
def iiiV (k0 k1 k2 : IntKind) (p : Iii) : Nat → Value | 0 => .int k0 p.a | 1 => .int k1 p.b | _ => .int k2 p.c
/-- A bool and an integer. -/
def biV (k0 : IntKind) (p : Bool × Int) : Nat → Value | 0 => .bool p.1 | _ => .int k0 p.2
section
variable {H : Type} {enc : TypeId × Value → H} {P : Program} {w : World} {base : Nat} {r : Reach} {b0 : Nat} {t e : TypeId} {v : Value} {d : DataW H} {ps : List MemPlace} {f0 f1 f2 : Field}
theorem slice_bi {k0 : IntKind} (ht : P.underlying t = some (.slice e)) (he : P.underlying e = some (.struct #[f0, f1])) (hone : oneCellFields P #[f0, f1] = true) (hC : P.cellsOf e = 2)
    (h0 : P.underlying f0.type = some .bool) (h1 : P.underlying f1.type = some (.int k0))
    (hval : Value.okWide P w r b0 t v) (hd : DataW.Trod enc P w base (fun _ => true) true t v d ps) :
    ∃ (A : Option Addr) (n cap : Nat) (qs : Nat → Bool × Int), v = .slice A n cap ∧ n ≤ cap ∧ cap ≤ maxLen ∧ FRow w 2 A n (fun i => biV k0 (qs i)) ∧ (∀ i, i < n → (Lit.int k0 (qs i).2).wf = true) := by
  obtain ⟨a0, len, cap, rfl⟩ := okWide_slice ht hval
  obtain ⟨fuel, hf⟩ := hd
  rcases open_slice_fields ht he hone hC hf with ⟨hcs, _⟩ | ⟨a, len', cap', m, D, Pl, hcs, _, hl, hm, hmm, _, hi⟩
  · simp only [Value.cells, List.cons.injEq, Value.slice.injEq, and_true] at hcs
    obtain ⟨rfl, rfl, rfl⟩ := hcs
    exact ⟨none, 0, 0, fun _ => (false, 0), rfl, Nat.le_refl _, by unfold maxLen; omega, fun i hi => absurd hi (by omega), fun i hi => absurd hi (by omega)⟩
  · simp only [Value.cells, List.cons.injEq, Value.slice.injEq, and_true] at hcs
    obtain ⟨rfl, rfl, rfl⟩ := hcs
    simp only [if_true] at hmm
    have key : ∀ i, i < len → ∃ p : Bool × Int, w.cell? (a.add (i * 2)) = some (.bool p.1) ∧ w.cell? (a.add (i * 2 + 1)) = some (.int k0 p.2) ∧ (Lit.int k0 p.2).wf = true := fun i hil => by
      obtain ⟨ys, n, _, _, _, hfs⟩ := hi i (by omega)
      obtain ⟨v0, y0, c0, _, t0⟩ := hfs 0 f0 rfl
      obtain ⟨v1, y1, c1, _, t1⟩ := hfs 1 f1 rfl
      obtain ⟨z, e0, _⟩ := DataW.trod_bool h0 t0
      obtain ⟨z1, e1, _, wz⟩ := DataW.trod_int h1 t1
      simp only [List.cons.injEq, and_true] at e0 e1
      subst e0 e1
      exact ⟨(z, z1), c0, c1, wz⟩
    classical
    refine ⟨some a, len, cap, fun i => if h : i < len then Classical.choose (key i h) else (false, 0), rfl, hl, hm, fun i hil => ⟨a, rfl, ?_, ?_⟩, fun i hil => ?_⟩
    · have := cell_lt (Classical.choose_spec (key i hil)).1; rwa [block_of_add] at this
    · intro j hj
      have h := Classical.choose_spec (key i hil)
      simp only [dif_pos hil]
      rcases j with _ | _ | j
      · exact h.1
      · exact h.2.1
      · omega
    · simp only [dif_pos hil]; exact (Classical.choose_spec (key i hil)).2.2
theorem slice_iii {k0 k1 k2 : IntKind} (ht : P.underlying t = some (.slice e)) (he : P.underlying e = some (.struct #[f0, f1, f2])) (hone : oneCellFields P #[f0, f1, f2] = true) (hC : P.cellsOf e = 3)
    (h0 : P.underlying f0.type = some (.int k0)) (h1 : P.underlying f1.type = some (.int k1)) (h2 : P.underlying f2.type = some (.int k2))
    (hval : Value.okWide P w r b0 t v) (hd : DataW.Trod enc P w base (fun _ => true) true t v d ps) :
    ∃ (A : Option Addr) (n cap : Nat) (qs : Nat → Iii), v = .slice A n cap ∧ n ≤ cap ∧ cap ≤ maxLen ∧ FRow w 3 A n (fun i => iiiV k0 k1 k2 (qs i)) ∧ (∀ i, i < n → (Lit.int k0 (qs i).a).wf = true ∧ (Lit.int k1 (qs i).b).wf = true ∧ (Lit.int k2 (qs i).c).wf = true) ∧ (A = none → n = 0 ∧ cap = 0) := by
  obtain ⟨a0, len, cap, rfl⟩ := okWide_slice ht hval
  obtain ⟨fuel, hf⟩ := hd
  rcases open_slice_fields ht he hone hC hf with ⟨hcs, _⟩ | ⟨a, len', cap', m, D, Pl, hcs, _, hl, hm, hmm, _, hi⟩
  · simp only [Value.cells, List.cons.injEq, Value.slice.injEq, and_true] at hcs
    obtain ⟨rfl, rfl, rfl⟩ := hcs
    exact ⟨none, 0, 0, fun _ => ⟨0, 0, 0⟩, rfl, Nat.le_refl _, by unfold maxLen; omega, fun i hi => absurd hi (by omega), fun i hi => absurd hi (by omega), fun _ => ⟨rfl, rfl⟩⟩
  · simp only [Value.cells, List.cons.injEq, Value.slice.injEq, and_true] at hcs
    obtain ⟨rfl, rfl, rfl⟩ := hcs
    simp only [if_true] at hmm
    have key : ∀ i, i < len → ∃ p : Iii, w.cell? (a.add (i * 3)) = some (.int k0 p.a) ∧ w.cell? (a.add (i * 3 + 1)) = some (.int k1 p.b) ∧ w.cell? (a.add (i * 3 + 2)) = some (.int k2 p.c) ∧ (Lit.int k0 p.a).wf = true ∧ (Lit.int k1 p.b).wf = true ∧ (Lit.int k2 p.c).wf = true := fun i hil => by
      obtain ⟨ys, n, _, _, _, hfs⟩ := hi i (by omega)
      obtain ⟨v0, y0, c0, _, t0⟩ := hfs 0 f0 rfl
      obtain ⟨v1, y1, c1, _, t1⟩ := hfs 1 f1 rfl
      obtain ⟨v2, y2, c2, _, t2⟩ := hfs 2 f2 rfl
      obtain ⟨z, e0, _, wz⟩ := DataW.trod_int h0 t0
      obtain ⟨z1, e1, _, wz1⟩ := DataW.trod_int h1 t1
      obtain ⟨z2, e2, _, wz2⟩ := DataW.trod_int h2 t2
      simp only [List.cons.injEq, and_true] at e0 e1 e2
      subst e0 e1 e2
      exact ⟨⟨z, z1, z2⟩, c0, c1, c2, wz, wz1, wz2⟩
    classical
    refine ⟨some a, len, cap, fun i => if h : i < len then Classical.choose (key i h) else ⟨0, 0, 0⟩, rfl, hl, hm, fun i hil => ⟨a, rfl, ?_, ?_⟩, fun i hil => ?_, fun x => by cases x⟩
    · have := cell_lt (Classical.choose_spec (key i hil)).1; rwa [block_of_add] at this
    · intro j hj
      have h := Classical.choose_spec (key i hil)
      simp only [dif_pos hil]
      rcases j with _ | _ | _ | j
      · exact h.1
      · exact h.2.1
      · exact h.2.2.1
      · omega
    · simp only [dif_pos hil]; exact (Classical.choose_spec (key i hil)).2.2.2
end
end Go.Proofs.Ytbdmpgpdnnjmpaa
