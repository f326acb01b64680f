/-
  An array of integers by value; how long a slice that came in can be; over any program.
-/
import Derived.Test.YtndhkdcdhpfajaaDoorG10
import Derived.SizedLaws
namespace Go.Proofs.YtndhkdcdhpfajaaDoor
open Go.ChangeShapes Go.WideShapes Go.Deep Go.RowKit
set_option linter.unusedVariables false
section
variable {H : Type} {enc : TypeId × Value → H} {P : Program} {w : World} {base : Nat} {r : Reach} {b0 : Nat} {t e : TypeId} {v : Value} {d : DataW H} {ps : List MemPlace}
theorem array_ints {n : Nat} {k : IntKind} (ht : P.underlying t = some (.array n e)) (he : P.underlying e = some (.int k)) (hc : P.cellsOf e = 1) (hC : P.cellsOf t = n) (hval : Value.okWide P w r b0 t v) (hd : DataW.Trod enc P w base (fun _ => true) true t v d ps) :
    ∃ (cs : Array Value) (zs : Nat → Int), v = .agg cs ∧ cs.size = n ∧ (∀ i, i < n → cs[i]? = some (.int k (zs i))) ∧ ∀ i, (Lit.int k (zs i)).wf = true := by
  have h0 : ∃ cs, v = .agg cs ∧ cs.size = P.cellsOf t := by
    simp only [Value.okWide, ht] at hval
    obtain ⟨cs, h1, h2, _⟩ := hval
    exact ⟨cs, h1, h2⟩
  obtain ⟨cs, rfl, hs⟩ := h0
  rw [hC] at hs
  obtain ⟨fuel, hf⟩ := hd
  obtain ⟨xs, m, _, _, _, hx, hi⟩ := DataW.trod_array ht hf
  have key : ∀ i, i < n → ∃ z : Int, cs[i]? = some (.int k z) ∧ (Lit.int k z).wf = true := fun i hil => by
    have h1 := hi i hil
    have hlen : i < cs.toList.length := by simpa using (by omega : i < cs.size)
    rw [hc, Nat.mul_one, show (Value.agg cs).cells.toList = cs.toList from rfl, List.drop_eq_getElem_cons hlen] at h1
    have hxi : i < xs.length := by omega
    rw [List.getElem?_eq_getElem hxi] at h1
    simp only [List.take_succ_cons, List.take_zero] at h1
    obtain ⟨z, e0, _, wz⟩ := DataW.trod_int he h1
    simp only [List.cons.injEq, and_true] at e0
    refine ⟨z, ?_, wz⟩
    rw [← Array.getElem?_toList, List.getElem?_eq_getElem hlen, e0]
  classical
  refine ⟨cs, fun i => if h : i < n then Classical.choose (key i h) else 0, rfl, hs, fun i hil => ?_, fun i => ?_⟩
  · simp only [dif_pos hil]; exact (Classical.choose_spec (key i hil)).1
  · by_cases h : i < n
    · simp only [dif_pos h]; exact (Classical.choose_spec (key i h)).2
    · simp only [dif_neg h]; cases k <;> rfl
theorem five {k : IntKind} {cs : Array Value} {zs : Nat → Int} (hs : cs.size = 5) (h : ∀ i, i < 5 → cs[i]? = some (.int k (zs i))) : cs = #[.int k (zs 0), .int k (zs 1), .int k (zs 2), .int k (zs 3), .int k (zs 4)] := by
  apply Array.ext_getElem?
  intro i
  by_cases hi : i < 5
  · rw [h i hi]
    have : i = 0 ∨ i = 1 ∨ i = 2 ∨ i = 3 ∨ i = 4 := by omega
    rcases this with rfl | rfl | rfl | rfl | rfl <;> rfl
  · rw [Array.getElem?_eq_none (by omega), Array.getElem?_eq_none (by simp; omega)]
theorem slice_ints_sized {k : IntKind} (ht : P.underlying t = some (.slice e)) (he : P.underlying e = some (.int k)) (hc : P.cellsOf e = 1) (hval : Value.okWide P w r b0 t v) (hd : DataW.Trod enc P w base (fun _ => true) true t v d ps) :
    ∃ A n cap zs, v = .slice A n cap ∧ n ≤ cap ∧ cap ≤ maxLen ∧ IRow w k A n zs ∧ ((∃ E S, d = .slice E S ∧ E.length + S.length = cap) ∨ cap = 0) := by
  obtain ⟨a0, len, cap, rfl⟩ := okWide_slice ht hval
  obtain ⟨fuel, hf⟩ := hd
  rcases open_ints ht he hc hf with ⟨hcs, _⟩ | ⟨a, len', cap', zs, hcs, _, hl, hm, hz, hx, hcell, hwz⟩
  · simp only [Value.cells, List.cons.injEq, Value.slice.injEq, and_true] at hcs
    obtain ⟨rfl, rfl, rfl⟩ := hcs
    exact ⟨none, 0, 0, fun _ => 0, rfl, Nat.le_refl _, by unfold maxLen; omega, fun i hi => absurd hi (by omega), Or.inr rfl⟩
  · simp only [Value.cells, List.cons.injEq, Value.slice.injEq, and_true] at hcs
    obtain ⟨rfl, rfl, rfl⟩ := hcs
    simp only [if_true] at hz
    simp only [Prod.mk.injEq] at hx
    refine ⟨some a, len, cap, fun i => zs.getD i 0, rfl, hl, hm, fun i hi => ⟨a, rfl, ?_, hcell i (by omega), ?_⟩, Or.inl ⟨_, _, hx.1, ?_⟩⟩
    · have := cell_lt (hcell i (by omega)); rwa [block_of_add] at this
    · have hi' : i < zs.length := by omega
      exact hwz _ (by simp [List.getD, List.getElem?_eq_getElem hi'])
    · simp [lits]; omega
theorem reach_of {ts : List TypeId} {ds : List (DataW H)} {j cap : Nat} (h : (DataW.weightsEach P ts ds).all (· ≤ reachBytes) = true) (hj : ts[j]? = some t) (hd : ds[j]? = some d) (hu : P.underlying t = some (.slice e)) (hb : P.bytesOf e = 1)
    (hx : (∃ E S, d = .slice E S ∧ E.length + S.length = cap) ∨ cap = 0) : cap ≤ 140737488355328 := by
  rcases hx with ⟨E, S, rfl, hl⟩ | rfl
  · have := sized_slice h hj hd hu
    rw [hb, Nat.mul_one, hl] at this
    have := reachBytes_lt
    omega
  · omega
end
end Go.Proofs.YtndhkdcdhpfajaaDoor
