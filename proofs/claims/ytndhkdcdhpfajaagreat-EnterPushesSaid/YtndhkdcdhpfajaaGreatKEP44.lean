/-
  Texts of these proofs, one behind the other: G27.
-/
import Derived.Test.YtndhkdcdhpfajaaGreatKEP08
import Derived.Test.YtndhkdcdhpfajaaGreatKEP43
namespace Go.Proofs.YtndhkdcdhpfajaaGreat
open Go.ChangeShapes Go.WideShapes Go.Deep Go.RowKit
set_option linter.unusedVariables false
section
variable {H : Type} {enc : TypeId × Value → H} {P : Program} {w : World} {base : Nat} {r : Reach} {b0 : Nat} {t e ie : TypeId} {v : Value} {d : DataW H} {ps : List MemPlace}
theorem array_ints_v {n : Nat} {k : IntKind} (ht : P.underlying t = some (.array n e)) (he : P.underlying e = some (.int k)) (hc : P.cellsOf e = 1) (hC : P.cellsOf t = n) (hval : Value.okWide P w r b0 t v) (hd : DataW.Trod enc P w base (fun _ => true) true t v d ps) :
    ∃ (zs : Nat → Int), v = .agg (vArr n fun i => .int k (zs i)) ∧ ∀ i, (Lit.int k (zs i)).wf = true := by
  obtain ⟨cs, zs, rfl, hs, hk, hw⟩ := array_ints ht he hc hC hval hd
  exact ⟨zs, by rw [ext4 hs hk], hw⟩
theorem array_intsM {n q : Nat} {k : IntKind} (ht : P.underlying t = some (.array n e)) (he : P.underlying e = some (.array q ie)) (hie : P.underlying ie = some (.int k)) (hc : P.cellsOf ie = 1) (hC : P.cellsOf e = q) (hCt : P.cellsOf t = n * q) (hq : 0 < q)
    (hval : Value.okWide P w r b0 t v) (hd : DataW.Trod enc P w base (fun _ => true) true t v d ps) :
    ∃ (zs : Nat → Int), v = .agg (vArr (n * q) fun i => .int k (zs i)) ∧ ∀ i, (Lit.int k (zs i)).wf = true := by
  have h0 : ∃ cs, v = .agg cs ∧ cs.size = P.cellsOf t := by
    simp only [Value.okWide, ht] at hval
    obtain ⟨cs, h1, h2, _⟩ := hval
    exact ⟨cs, h1, h2⟩
  obtain ⟨cs, rfl, hs⟩ := h0
  rw [hCt] at hs
  obtain ⟨fuel, hf⟩ := hd
  obtain ⟨xs, m, _, _, _, hx, hi⟩ := DataW.trod_array ht hf
  have key : ∀ p, p < n * q → ∃ z : Int, cs[p]? = some (.int k z) ∧ (Lit.int k z).wf = true := fun p hp => by
    have hil : p / q < n := (Nat.div_lt_iff_lt_mul hq).2 hp
    have hjl : p % q < q := Nat.mod_lt _ hq
    have h1 := hi (p / q) hil
    rw [hC, show (Value.agg cs).cells.toList = cs.toList from rfl, List.getElem?_eq_getElem (show p / q < xs.length by omega)] at h1
    obtain ⟨ys, m', _, _, hlen, hy, hel⟩ := DataW.trod_array he h1
    have h2 := hel (p % q) hjl
    rw [hc, Nat.mul_one, List.getElem?_eq_getElem (show p % q < ys.length by omega)] at h2
    rw [hC] at hlen
    rw [List.drop_eq_getElem_cons (by omega)] at h2
    simp only [List.take_succ_cons, List.take_zero] at h2
    obtain ⟨z, e0, _, wz⟩ := DataW.trod_int hie h2
    simp only [List.cons.injEq, and_true] at e0
    refine ⟨z, ?_, wz⟩
    have hpq : p / q * q + p % q = p := Nat.div_add_mod' p q
    simp only [List.getElem_take, List.getElem_drop, hpq] at e0
    rw [← Array.getElem?_toList, List.getElem?_eq_getElem (by simpa using (by omega : p < cs.size)), e0]
  classical
  refine ⟨fun p => if h : p < n * q then Classical.choose (key p h) else 0, ?_, fun p => ?_⟩
  · refine congrArg Value.agg (ext4 hs fun p hp => ?_)
    refine (Classical.choose_spec (key p hp)).1.trans ?_
    simp only [dif_pos hp]
  · by_cases h : p < n * q
    · simp only [dif_pos h]; exact (Classical.choose_spec (key p h)).2
    · simp only [dif_neg h]; cases k <;> rfl
end
end Go.Proofs.YtndhkdcdhpfajaaGreat
