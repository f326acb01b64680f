/-
  Texts of these proofs, one behind the other: G11, G21, Ram11.
-/
import Derived.Test.YtleofglnlfpoeaaGreatKBP04
import Derived.SizedLaws
import Derived.Test.YtleofglnlfpoeaaGreatKBP05
import Derived.Test.YtleofglnlfpoeaaGreatKBP32
import Derived.Test.YtleofglnlfpoeaaGreatKBP40
import Derived.Deep.LoopGhost
namespace Go.Proofs.YtleofglnlfpoeaaGreat
open Go.ChangeShapes Go.WideShapes Go.Deep Go.RowKit
set_option linter.unusedVariables false
section
variable {H : Type} {enc : TypeId × Value → H} {P : Program} {w : World} {base : Nat} {r : Reach} {b0 : Nat} {t e : TypeId} {v : Value} {d : DataW H} {ps : List MemPlace}
end
end Go.Proofs.YtleofglnlfpoeaaGreat
namespace Go.Proofs.YtleofglnlfpoeaaGreat
open Go.ChangeShapes Go.WideShapes Go.Deep Go.RowKit
set_option linter.unusedVariables false
/-- What a field is. -/
inductive FK where
  | int (k : IntKind)
  | bool
def FK.desc : FK → TypeDesc
  | .int k => .int k
  | .bool => .bool
def FK.ok : FK → Value → Prop
  | .int k, v => ∃ z, v = .int k z ∧ (Lit.int k z).wf = true
  | .bool, v => ∃ b, v = .bool b
section
variable {H : Type} {enc : TypeId × Value → H} {P : Program} {w : World} {base : Nat} {r : Reach} {b0 : Nat} {t e : TypeId} {v : Value} {d : DataW H} {ps : List MemPlace}
theorem slice_fk (fs : Array Field) (ks : List FK) (ht : P.underlying t = some (.slice e)) (he : P.underlying e = some (.struct fs)) (hone : oneCellFields P fs = true) (hC : P.cellsOf e = fs.size) (hl0 : fs.size = ks.length) (hpos : 0 < ks.length)
    (hk : ∀ (j : Nat) (k : FK), ks[j]? = some k → ∃ f : Field, fs[j]? = some f ∧ P.underlying f.type = some k.desc)
    (hval : Value.okWide P w r b0 t v) (hd : DataW.Trod enc P w base (fun _ => true) true t v d ps) :
    ∃ (A : Option Addr) (n cap : Nat) (qs : Nat → Nat → Value), v = .slice A n cap ∧ n ≤ cap ∧ cap ≤ maxLen ∧ FRow w ks.length A n qs ∧ (∀ i, i < n → ∀ (j : Nat) (k : FK), ks[j]? = some k → k.ok (qs i j)) ∧ (A = none → n = 0 ∧ cap = 0) := by
  obtain ⟨a0, len, cap, rfl⟩ := okWide_slice ht hval
  obtain ⟨fuel, hf⟩ := hd
  rcases open_slice_fields ht he hone hC hf with ⟨hcs, _⟩ | ⟨a, len', cap', m, D, Pl, hcs, _, hl, hm, hmm, _, hi⟩
  · simp only [Value.cells, List.cons.injEq, Value.slice.injEq, and_true] at hcs
    obtain ⟨rfl, rfl, rfl⟩ := hcs
    exact ⟨none, 0, 0, fun _ _ => .nilFunc, rfl, Nat.le_refl _, by unfold maxLen; omega, fun i hi => absurd hi (by omega), fun i hi => absurd hi (by omega), fun _ => ⟨rfl, rfl⟩⟩
  · simp only [Value.cells, List.cons.injEq, Value.slice.injEq, and_true] at hcs
    obtain ⟨rfl, rfl, rfl⟩ := hcs
    simp only [if_true] at hmm
    have key : ∀ i, i < len → ∀ (j : Nat) (k : FK), ks[j]? = some k → ∃ u, w.cell? (a.add (i * ks.length + j)) = some u ∧ k.ok u := fun i hil j k hj => by
      obtain ⟨f, hfj, hfu⟩ := hk j k hj
      obtain ⟨ys, n, _, _, _, hfs⟩ := hi i (by omega)
      obtain ⟨u, y, c, _, tr⟩ := hfs j f hfj
      rw [hl0] at c
      refine ⟨u, c, ?_⟩
      cases k with
      | int k =>
        obtain ⟨z, e0, _, wz⟩ := DataW.trod_int hfu tr
        simp only [List.cons.injEq, and_true] at e0
        exact ⟨z, e0, wz⟩
      | bool =>
        obtain ⟨b, e0, _⟩ := DataW.trod_bool hfu tr
        simp only [List.cons.injEq, and_true] at e0
        exact ⟨b, e0⟩
    have key2 : ∀ i j, i < len → j < ks.length → ∃ u, w.cell? (a.add (i * ks.length + j)) = some u ∧ ∀ k : FK, ks[j]? = some k → k.ok u := fun i j hil hj => by
      obtain ⟨u, h1, h2⟩ := key i hil j ks[j] (List.getElem?_eq_getElem hj)
      refine ⟨u, h1, fun k hk => ?_⟩
      rw [List.getElem?_eq_getElem hj] at hk
      injection hk with hk
      subst hk
      exact h2
    classical
    refine ⟨some a, len, cap, fun i j => if h : i < len ∧ j < ks.length then Classical.choose (key2 i j h.1 h.2) else .nilFunc, rfl, hl, hm, fun i hil => ⟨a, rfl, ?_, ?_⟩, fun i hil j k hj => ?_, fun x => by cases x⟩
    · have := cell_lt (Classical.choose_spec (key2 i 0 hil hpos)).1; rwa [block_of_add] at this
    · intro j hj
      have h : i < len ∧ j < ks.length := ⟨hil, hj⟩
      simp only [dif_pos h]
      exact (Classical.choose_spec (key2 i j hil hj)).1
    · have hj' : j < ks.length := (List.getElem?_eq_some_iff.1 hj).1
      have h : i < len ∧ j < ks.length := ⟨hil, hj'⟩
      simp only [dif_pos h]
      exact (Classical.choose_spec (key2 i j hil hj')).2 k hj
end
end Go.Proofs.YtleofglnlfpoeaaGreat
namespace Go.Proofs.YtleofglnlfpoeaaGreat
open Go.RowKit
set_option linter.unusedVariables false
set_option linter.unusedSimpArgs false
set_option maxRecDepth 100000
end Go.Proofs.YtleofglnlfpoeaaGreat
