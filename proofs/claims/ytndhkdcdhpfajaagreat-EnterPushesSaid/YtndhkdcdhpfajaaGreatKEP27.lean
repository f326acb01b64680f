/-
  Texts of these proofs, one behind the other: G25.
-/
import Derived.Test.YtndhkdcdhpfajaaGreatKEP07
import Derived.Test.YtndhkdcdhpfajaaGreatKEP08
import Derived.Test.YtndhkdcdhpfajaaGreatKEP15
namespace Go.Proofs.YtndhkdcdhpfajaaGreat
open Go.RowKit
set_option linter.unusedVariables false
set_option linter.unusedSimpArgs false
theorem run_equalIn_arrayM {P : Program} (w : World) (d : Nat) (t e : TypeId) (len m : Nat) (xs ys : Array Value) (p : Nat → Bool) (ht : P.underlying t = some (.array len e)) (hs : (sizeOf e).run P w = .ok m w)
    (h : ∀ i, i < len → ∃ a b, (part e xs (i * m)).run P w = .ok a w ∧ (part e ys (i * m)).run P w = .ok b w ∧ (Op.equalIn d e a b).run P w = .ok (p i) w) :
    (Op.equalIn (d + 1) t (.agg xs) (.agg ys)).run P w = .ok ((List.range len).all p) w := by
  simp only [Op.equalIn, Sem.run_bind, run_underlying ht, Result.andThen_ok, hs]
  rw [Std.Legacy.Range.forIn_eq_forIn_range']
  have hL : ∀ i ∈ List.range' 0 len, i < len := fun i hi => by simpa using hi
  rw [List.range_eq_range']
  simp only [Std.Legacy.Range.size, Nat.sub_zero, Nat.add_sub_cancel, Nat.div_one]
  generalize List.range' 0 len = L at *
  induction L with
  | nil => simp
  | cons i L ih =>
    obtain ⟨a, b, h1, h2, h3⟩ := h i (hL i (by simp))
    simp only [List.forIn_cons, Sem.run_bind, h1, h2, h3, Result.andThen_ok, Sem.run_ite]
    cases hp : p i with
    | false => simp [hp]
    | true =>
      simp only [hp, List.all_cons, Bool.true_and]
      simpa using ih (fun j hj => hL j (by simp [hj]))
theorem run_part_agg {P : Program} {e : TypeId} {n m : Nat} {e' : TypeId} (he : P.underlying e = some (.array n e')) (hm : (P.info? e).map (·.size) = some m) (cs : Array Value) (o : Nat) (w : World) : (part e cs o).run P w = .ok (.agg (cs.extract o (o + m))) w := by
  obtain ⟨inf, hi, hs⟩ : ∃ inf, P.info? e = some inf ∧ inf.size = m := by
    cases hx : P.info? e with
    | none => simp [hx] at hm
    | some i => exact ⟨i, rfl, by simpa [hx] using hm⟩
  have hz : (typeInfo e).run P w = .ok inf w := by simp [typeInfo, hi]
  simp [part, isAgg, run_underlying he, sizeOf, hz, hs]
theorem run_part_flat {P : Program} {e : TypeId} (he : flat P e = true) {cs : Array Value} {o : Nat} {v : Value} (hv : cs[o]? = some v) (w : World) : (part e cs o).run P w = .ok v w := by
  unfold flat at he
  simp only [Bool.and_eq_true, Option.any_eq_true] at he
  obtain ⟨he, _⟩ := he
  cases hu : P.underlying e with
  | none => simp [hu] at he
  | some d => cases d <;> simp [hu] at he <;> simp [part, isAgg, run_underlying hu, hv]
theorem run_sizeOf {P : Program} {e : TypeId} {m : Nat} (hm : (P.info? e).map (·.size) = some m) (w : World) : (sizeOf e).run P w = .ok m w := by
  obtain ⟨inf, hi, hs⟩ : ∃ inf, P.info? e = some inf ∧ inf.size = m := by
    cases hx : P.info? e with
    | none => simp [hx] at hm
    | some i => exact ⟨i, rfl, by simpa [hx] using hm⟩
  simp [sizeOf, typeInfo, hi, hs]
theorem vArr_extract (n : Nat) (f : Nat → Value) (o m : Nat) (h : o + m ≤ n) : (vArr n f).extract o (o + m) = vArr m fun i => f (o + i) := by
  apply Array.ext_getElem?
  intro i
  by_cases hi : i < m
  · rw [vArr_at m _ i hi, Array.getElem?_extract, if_pos (by rw [vArr_size]; omega), vArr_at n f (o + i) (by omega)]
  · rw [Array.getElem?_eq_none (by rw [Array.size_extract, vArr_size]; omega), Array.getElem?_eq_none (by rw [vArr_size]; omega)]
/-- An element, an array itself, of an array by value. -/
theorem run_index_aggM {P : Program} {t e e' : TypeId} {n m m' : Nat} (ht : P.underlying t = some (.array n e)) (he : P.underlying e = some (.array m' e')) (hm : (P.info? e).map (·.size) = some m) (f : Nat → Value) {k : IntKind} {i : Nat} (h1 : i < n) (w : World) :
    (Instr.index t (.agg (vArr (n * m) f)) (.int k (i : Int))).run P w = .ok (.agg (vArr m fun j => f (i * m + j))) w := by
  have hle : i * m + m ≤ n * m := by rw [← Nat.succ_mul]; exact Nat.mul_le_mul_right _ h1
  have hp := run_part_agg he hm (vArr (n * m) f) (i * m) w
  rw [vArr_extract _ _ _ _ hle] at hp
  have h2 : (i : Int) < n := by omega
  have h3 : (0 : Int) ≤ (i : Int) := by omega
  have h4 : ¬ n ≤ i := by omega
  simp [Instr.index, run_underlying ht, asIntOf, h1, h4, run_sizeOf hm, hp]
/-- Two arrays of integers compared. -/
theorem run_eql_ints {P : Program} {t e : TypeId} {n : Nat} {k : IntKind} (ht : P.underlying t = some (.array n e)) (he : P.underlying e = some (.int k)) (hf : flat P e = true) (hs : (P.info? e).map (·.size) = some 1) (d : Nat) (f g : Nat → Int) (w : World) :
    (Op.equalIn (d + 2) t (.agg (vArr n fun i => .int k (f i))) (.agg (vArr n fun i => .int k (g i)))).run P w = .ok ((List.range n).all fun i => f i == g i) w :=
  run_equalIn_arrayM w (d + 1) t e n 1 _ _ _ ht (run_sizeOf hs w) fun i hi => ⟨.int k (f i), .int k (g i), run_part_flat hf (by rw [Nat.mul_one]; exact vArr_at n _ i hi) w, run_part_flat hf (by rw [Nat.mul_one]; exact vArr_at n _ i hi) w, by simp [Op.equalIn, run_underlying he]⟩
/-- Two arrays of arrays of integers compared. -/
theorem run_eql_intsM {P : Program} {t e e' : TypeId} {n m : Nat} {k : IntKind} (ht : P.underlying t = some (.array n e)) (he : P.underlying e = some (.array m e')) (he' : P.underlying e' = some (.int k)) (hf : flat P e' = true) (hs : (P.info? e').map (·.size) = some 1) (hm : (P.info? e).map (·.size) = some m) (d : Nat) (f g : Nat → Int) (w : World) :
    (Op.equalIn (d + 3) t (.agg (vArr (n * m) fun i => .int k (f i))) (.agg (vArr (n * m) fun i => .int k (g i)))).run P w = .ok ((List.range n).all fun i => (List.range m).all fun j => f (i * m + j) == g (i * m + j)) w :=
  run_equalIn_arrayM w (d + 2) t e n m _ _ _ ht (run_sizeOf hm w) fun i hi => by
    have hle : i * m + m ≤ n * m := by rw [← Nat.succ_mul]; exact Nat.mul_le_mul_right _ hi
    have h1 := run_part_agg he hm (vArr (n * m) fun i => .int k (f i)) (i * m) w
    have h2 := run_part_agg he hm (vArr (n * m) fun i => .int k (g i)) (i * m) w
    rw [vArr_extract _ _ _ _ hle] at h1 h2
    exact ⟨_, _, h1, h2, run_eql_ints he he' hf hs d (fun j => f (i * m + j)) (fun j => g (i * m + j)) w⟩
end Go.Proofs.YtndhkdcdhpfajaaGreat
